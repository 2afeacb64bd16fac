/- The law SyncLocks: who owns a mutex, by both (conditions: none). -/
import Derived.Test.YtehcfahfbdphpaaSy41
import Derived.Test.YtehcfahfbdphpaaSy29
namespace Go.Proofs.Ytehcfahfbdphpaa
open Go.RowKit Go.Shelf

theorem like_init (m c : Nat) (rooms : List Int) : Like (initS m c rooms) (initR m c rooms) := by
  refine ⟨by simp [initS, initR], by simp [initS, initR], by simp [initS, initR], by simp [initR], by simp [initR], fun i h => ?_⟩
  simp [initS, initR]
theorem ok_init {m c : Nat} {rooms : List Int} (hm : m ≤ 64) (hc : c ≤ 64) (hr : rooms.length ≤ 64) (hall : rooms.all (inI 1 16) = true) : OkR (initR m c rooms) 0 := by
  refine ⟨fun i h => .inl (by simp [initR]), fun i h => by simp [initR], fun i h => by simp [initR], fun l hl y hy => (by simp [initR] at hl; rw [hl.2] at hy; cases hy), fun i h h1 h2 => ?_, by simp [initR]; omega⟩
  have := List.all_eq_true.1 hall _ (List.getElem_mem h2)
  simp only [initR, List.getElem_replicate, List.length_nil]
  simp [inI] at this
  have e : ((0 - 0 : Nat) : Int) = 0 := rfl
  rw [e]
  exact Int.le_trans (by decide) this.1
/-- What the loops of the laws keep: the state, the document's in the box gW, calls so many. -/
def LkI (w wr : World) (gW p : Nat) (R0 : RS) (n : Nat) : Prop :=
  ∃ T vs S R, SyAt wr T p S ∧ RV wr (fun g => T g ≠ 0 ∨ g = gW) vs R ∧ (Like S R ∧ OkR R n ∧ SzR R0 R) ∧ Cells wr gW 33 vs ∧ (T gW = 0 ∧ (∀ g, T g ≠ 0 → w.heap.size ≤ g) ∧ w.heap.size ≤ gW) ∧ Kept noX w wr
theorem LkI.next {w wr W0 W3 W4 : World} {gW p n : Nat} {R0 R S' R'} {T : Nat → Nat} {vs' : List Value} {T' : Nat → Nat} (hT : T gW = 0 ∧ (∀ g, T g ≠ 0 → w.heap.size ≤ g) ∧ w.heap.size ≤ gW) (hg : gW < wr.heap.size) (hk : Kept noX w wr) (hk0 : Kept noX wr W0) (hS : SyAt W3 T' p S') (hTT : ∀ g, g < W0.heap.size → T' g = T g)
    (hk3 : Kept (fun g => T g ≠ 0) W0 W3) (hR : RV W3 (fun g => T' g ≠ 0 ∨ (T g ≠ 0 ∨ g = gW)) vs' R') (hL : Like S' R') (hO : OkR R' (n + 1)) (hz : SzR R R') (hz0 : SzR R0 R) (hk4 : Kept (· = gW) W3 W4) (hC : Cells W4 gW 33 vs') : LkI w W4 gW p R0 (n + 1) := by
  have h1 := hk.size
  have h2 := hk0.size
  have hgT : T' gW = 0 := by rw [hTT gW (by omega)]; exact hT.1
  refine ⟨T', vs', S', R', hS.kept hk4 (fun g e => by rw [e]; exact hgT), (hR.kept hk4 (fun g _ e => .inr (.inr e))).mono (fun g _ h => h.elim .inl (fun h => .inr (.inr h))), ⟨hL, hO, ⟨hz.1.trans hz0.1, hz.2.1.trans hz0.2.1, hz.2.2.trans hz0.2.2⟩⟩, hC, ⟨hgT, fun g hg' => ?_, hT.2.2⟩, ((hk.trans hk0).join hk3 (fun g h hl => by have := hT.2.1 g h; omega)).own hk4 hT.2.2⟩
  rcases Nat.lt_or_ge g W0.heap.size with hl | hl
  · exact hT.2.1 g (by rw [← hTT g hl]; exact hg')
  · omega
theorem LkI.keep {w wr W' : World} {gW p n : Nat} {R0 : RS} (h : LkI w wr gW p R0 n) (hk : Kept noX wr W') : LkI w W' gW p R0 n := by
  obtain ⟨T, vs, S, R, h1, h2, h3, h4, h5, h6⟩ := h
  exact ⟨T, vs, S, R, h1.keep hk, h2.keep hk, h3, h4.keep hk, h5, h6.trans hk⟩
theorem locks_skip (A : Option Addr) (n c : Nat) (w : World) (h : 100 < n) : Calls Try.prog 5 #[.slice A n c] w fun e w' => e = .returned (.bool true) ∧ Kept noX w w' := by
  have HW := Lib.hid (works_any w)
  have e3 : decide ((100 : Int) < (n : Int)) = true := by simp; omega
  clear h
  go_enter Try.func5, Try.ntmps5
  go_wp2_with (go_at_call 11; refine HW.out.mono ?_; rintro e W1 ⟨rfl, hk⟩)
  go_ret
  exact ⟨rfl, hk⟩
set_option maxRecDepth 100000 in
set_option maxHeartbeats 8000000 in
theorem locks_any (A : Option Addr) (c : Nat) (l : List AC) (w : World) (ha : ActsAt w A l) : Calls Try.prog 5 #[.slice A l.length c] w fun e w' => e = .returned (.bool true) ∧ Kept noX w w' := by
  by_cases h : 100 < l.length
  · exact locks_skip A l.length c w h
  have e3 : decide ((100 : Int) < (l.length : Int)) = false := by simp; omega
  have hl : l.length ≤ 100 := by omega
  have HN := Lib.hid (new_any 2 0 none 0 [] (by simp) w .nilrow)
  have hok : okN 2 0 [] = true := by simp [okN, inI]
  have HA := Lib.hid ha
  clear h ha
  go_enter Try.func5, Try.ntmps5
  go_wp2_with fail
  refine HN.out.mono ?_
  rintro e W1 (⟨_, p, T, rfl, h1, h2, h3⟩ | ⟨hf, _⟩)
  rotate_left
  · rw [hok] at hf; cases hf
  have HZ := Lib.hid (znew_ok 2 0 (by omega) (by omega) none 0 [] (by simp) rfl W1 .nilrow)
  have H1 := Lib.hid h1
  have H2 := Lib.hid h2
  have H3 := Lib.hid h3
  clear h1 h2 h3
  go_wp2_with fail
  refine HZ.out.mono ?_
  rintro e W2 ⟨vs, rfl, hR, hk2⟩
  have hL0 := like_init 2 0 []
  have hO0 := ok_init (m := 2) (c := 0) (rooms := []) (by omega) (by omega) (by simp) rfl
  have hZ0 : SzR (initR 2 0 []) (initR 2 0 []) := SzR.rfl'
  generalize hRR : initR 2 0 [] = R0 at hR hL0 hO0 hZ0
  have HR2 := Lib.hid hR
  obtain ⟨q0', q1', q2', q3', q4', hvs, r0', r1', r2', r3', r4'⟩ := hR
  obtain ⟨B0, n0', e0, rfl, hn0', -⟩ := r0'.form
  obtain ⟨B1, n1', e1, rfl, hn1', -⟩ := r1'.form
  obtain ⟨B2, n2', e2, rfl, hn2', -⟩ := r2'.form
  obtain ⟨B3, n3', e3, rfl, hn3', -⟩ := r3'.form
  obtain ⟨B4, n4', e4, rfl, hn4', -⟩ := r4'.form
  rw [List.length_map] at hn0' hn1' hn2' hn3' hn4'
  subst hn0' hn1' hn2' hn3' hn4'
  subst hvs
  clear r0' r1' r2' r3' r4'
  have HI : Hid (LkI w (W2.alloc (.cells #[.slice B0 R0.ow.length e0, .slice B1 R0.cs.length e1, .slice B2 R0.rm.length e2, .slice B3 R0.st.length e3, .slice B4 R0.tk.length e4] 33)) W2.heap.size p R0 0) := Lib.hid (by
    have hs1 := H3.out.size
    have hs2 := hk2.size
    have hts := H1.out.tagLt
    have hka : Kept noX W1 (W2.alloc (.cells #[.slice B0 R0.ow.length e0, .slice B1 R0.cs.length e1, .slice B2 R0.rm.length e2, .slice B3 R0.st.length e3, .slice B4 R0.tk.length e4] 33)) := hk2.alloc _
    refine ⟨T, _, _, R0, H1.out.keep hka, (HR2.out.mono (fun g hg h => ?_)).keep ((Kept.refl _ _).alloc _), ⟨hL0, hO0, hZ0⟩, Cells.fresh W2 33 _, ⟨Classical.byContradiction fun h => by have := hts _ h; omega, H2.out, by omega⟩, H3.out.trans hka⟩
    rcases h with h | h
    · exact hts g h
    · omega)
  clear HR2 hk2 H1 H2 H3 HN HZ hok
  go_wp2_with fail
  go_loopw [7] (fun i wr => ∃ k : Nat, k ≤ l.length ∧ i = .int .i64 k ∧ LkI w wr W2.heap.size p R0 k) (fun i _ => l.length - (intOf i).toNat)
  case atStart => exact ⟨0, Nat.zero_le _, rfl, HI.out⟩
  case round =>
    obtain ⟨k, hk, rfl, T1, vs, S, R, h1, h2, ⟨h3, h4, h5⟩, h6, h7, h8⟩ := hrel
    have HWK := Lib.hid (works_any wr)
    by_cases hlt : k < l.length
    · have hdl : decide ((k : Int) < (l.length : Int)) = true := by simpa using hlt
      obtain ⟨b, o', rfl, hcell⟩ := HA.out k hlt
      have p0 : wr.cell? ⟨b, o' + k * 4, none⟩ = some (.int .i64 l[k].what) := h8.cell (hcell 0 (by omega))
      have p1 : wr.cell? ⟨b, o' + k * 4 + 1, none⟩ = some (.int .i64 l[k].n) := h8.cell (hcell 1 (by omega))
      have p2 : wr.cell? ⟨b, o' + k * 4 + 2, none⟩ = some (.int .i64 l[k].t) := h8.cell (hcell 2 (by omega))
      have p3 : wr.cell? ⟨b, o' + k * 4 + 3, none⟩ = some (.int .i64 l[k].v) := h8.cell (hcell 3 (by omega))
      generalize l[k].what = a at *
      generalize l[k].n = nn at *
      generalize l[k].t = t at *
      generalize l[k].v = x at *
      have HR1 := Lib.hid h2
      have HS1 := Lib.hid h1
      have hgl := h6.lt
      have hts := h1.tagLt
      obtain ⟨q0', q1', q2', q3', q4', hvs, r0', r1', r2', r3', r4'⟩ := h2
      obtain ⟨D0, n0', d0, rfl, hn0', -⟩ := r0'.form
      obtain ⟨D1, n1', d1, rfl, hn1', -⟩ := r1'.form
      obtain ⟨D2, n2', d2, rfl, hn2', -⟩ := r2'.form
      obtain ⟨D3, n3', d3, rfl, hn3', -⟩ := r3'.form
      obtain ⟨D4, n4', d4, rfl, hn4', -⟩ := r4'.form
      rw [List.length_map] at hn0' hn1' hn2' hn3' hn4'
      subst hn0' hn1' hn2' hn3' hn4'
      subst hvs
      clear r0' r1' r2' r3' r4'
      have HL1 := Lib.hid h3
      have HO1 := Lib.hid h4
      have HZ1 := Lib.hid h5
      have HC1 := Lib.hid h6
      have HT1 := Lib.hid h7
      have HK1 := Lib.hid h8
      have HTS := Lib.hid hts
      clear h1 h3 h4 h5 h6 h7 h8 hts hcell HI
      by_cases a0 : a = 0
      · subst a0
        have hka : Kept noX wr (wr.alloc (.cells #[.int .i64 0, .int .i64 nn, .int .i64 t, .int .i64 x] 62)) := (Kept.refl _ _).alloc _
        have hC0 := HC1.out.keep hka
        have s0 := hC0.cell 0
        have s1 := hC0.cell 1
        have s2 := hC0.cell 2
        have s3 := hC0.cell 3
        have s4 := hC0.cell 4
        simp only [List.getElem?_cons_zero, List.getElem?_cons_succ] at s0 s1 s2 s3 s4
        have HB := Lib.hid (both_lock (HS1.out.keep hka) (HR1.out.keep hka) HL1.out HO1.out (by omega) (fun g hg => Or.inl hg) (fun g hg => by rw [World.size_alloc]; rcases hg with hg | hg; exact Nat.lt_succ_of_lt (HTS.out g hg); omega) nn t x)
        have HC0 := Lib.hid hC0
        have HKA := Lib.hid hka
        clear hC0 hka
        go_wp2_with fail
        (try clear aa0)
        (try clear dd2)
        (try clear dd4)
        (try clear aa3)
        refine HB.out.mono ?_
        rintro e W3 ⟨S', R', ⟨vs', T', rfl, hS', hTT, hk3, hR'⟩, hL', hO', hz'⟩
        have hC3 := HC0.out.kept hk3 (fun h => h HT1.out.1)
        have HR3 := Lib.hid hR'
        obtain ⟨q0', q1', q2', q3', q4', hvs, r0', r1', r2', r3', r4'⟩ := hR'
        obtain ⟨F0, n0', f0, rfl, hn0', -⟩ := r0'.form
        obtain ⟨F1, n1', f1, rfl, hn1', -⟩ := r1'.form
        obtain ⟨F2, n2', f2, rfl, hn2', -⟩ := r2'.form
        obtain ⟨F3, n3', f3, rfl, hn3', -⟩ := r3'.form
        obtain ⟨F4, n4', f4, rfl, hn4', -⟩ := r4'.form
        rw [List.length_map] at hn0' hn1' hn2' hn3' hn4'
        subst hn0' hn1' hn2' hn3' hn4'
        subst hvs
        clear r0' r1' r2' r3' r4'
        have hY := hC3.alloc (.cells #[.slice F0 R'.ow.length f0, .slice F1 R'.cs.length f1, .slice F2 R'.rm.length f2, .slice F3 R'.st.length f3, .slice F4 R'.tk.length f4] 33)
        have y0 := hY.cell 0
        have z0 := hY.free 0
        have y1 := hY.cell 1
        have z1 := hY.free 1
        have y2 := hY.cell 2
        have z2 := hY.free 2
        have y3 := hY.cell 3
        have z3 := hY.free 3
        have y4 := hY.cell 4
        have z4 := hY.free 4
        simp only [List.getElem?_cons_zero, List.getElem?_cons_succ] at y0 y1 y2 y3 y4
        have hk4 : Kept (· = W2.heap.size) W3 ((((((W3.alloc (.cells #[.slice F0 R'.ow.length f0, .slice F1 R'.cs.length f1, .slice F2 R'.rm.length f2, .slice F3 R'.st.length f3, .slice F4 R'.tk.length f4] 33)).setCell ⟨W2.heap.size, 0, none⟩ (.slice F0 R'.ow.length f0)).setCell ⟨W2.heap.size, 1, none⟩ (.slice F1 R'.cs.length f1)).setCell ⟨W2.heap.size, 2, none⟩ (.slice F2 R'.rm.length f2)).setCell ⟨W2.heap.size, 3, none⟩ (.slice F3 R'.st.length f3)).setCell ⟨W2.heap.size, 4, none⟩ (.slice F4 R'.tk.length f4)) := ((Kept.refl _ _).alloc _).trans (Kept.put5 _ _ _ _ _ _ _)
        have hC4 := ((((hY.put 0 (.slice F0 R'.ow.length f0)).put 1 (.slice F1 R'.cs.length f1)).put 2 (.slice F2 R'.rm.length f2)).put 3 (.slice F3 R'.st.length f3)).put 4 (.slice F4 R'.tk.length f4)
        simp only [List.set_cons_zero, List.set_cons_succ] at hC4
        have hgT : T' W2.heap.size = 0 := by rw [hTT W2.heap.size (by rw [World.size_alloc]; omega)]; exact HT1.out.1
        have hQ := is_any (hS'.kept hk4 (fun g e => by rw [e]; exact hgT)) (HR3.out.kept hk4 (fun g _ e => .inr (.inr e))).any hL'
        have hN := LkI.next HT1.out hgl HK1.out HKA.out hS' hTT hk3 HR3.out hL' hO' hz' HZ1.out hk4 hC4
        have HN := Lib.hid hN
        have HQ := Lib.hid hQ
        clear hY hC3 hC4 hk4 hN hQ hgT hS' hTT hk3 hL' hO' hz' HR3 HB HC0 HKA s0 s1 s2 s3 s4
        go_wp2_with fail
        refine HQ.out.mono ?_
        rintro e W5 ⟨rfl, hk5⟩
        have HM := Lib.hid (HN.out.keep hk5)
        clear HQ HN
        go_wp2_with fail
        go_roundw
        case rel => exact ⟨k + 1, hlt, by go_num, HM.out⟩
        case measure => simp [intOf]; omega
      · have a1 : (a != 0) = true := by simpa using a0
        have a2 : (a == 0) = false := by simpa using a0
        have hka : Kept noX wr (wr.alloc (.cells #[.int .i64 1, .int .i64 nn, .int .i64 t, .int .i64 x] 62)) := (Kept.refl _ _).alloc _
        have hC0 := HC1.out.keep hka
        have s0 := hC0.cell 0
        have s1 := hC0.cell 1
        have s2 := hC0.cell 2
        have s3 := hC0.cell 3
        have s4 := hC0.cell 4
        simp only [List.getElem?_cons_zero, List.getElem?_cons_succ] at s0 s1 s2 s3 s4
        have HB := Lib.hid (both_unlock (HS1.out.keep hka) (HR1.out.keep hka) HL1.out HO1.out (by omega) (fun g hg => Or.inl hg) (fun g hg => by rw [World.size_alloc]; rcases hg with hg | hg; exact Nat.lt_succ_of_lt (HTS.out g hg); omega) nn t x)
        have HC0 := Lib.hid hC0
        have HKA := Lib.hid hka
        clear hC0 hka
        go_wp2_with fail
        (try clear aa0)
        (try clear dd2)
        (try clear dd4)
        (try clear aa3)
        refine HB.out.mono ?_
        rintro e W3 ⟨S', R', ⟨vs', T', rfl, hS', hTT, hk3, hR'⟩, hL', hO', hz'⟩
        have hC3 := HC0.out.kept hk3 (fun h => h HT1.out.1)
        have HR3 := Lib.hid hR'
        obtain ⟨q0', q1', q2', q3', q4', hvs, r0', r1', r2', r3', r4'⟩ := hR'
        obtain ⟨F0, n0', f0, rfl, hn0', -⟩ := r0'.form
        obtain ⟨F1, n1', f1, rfl, hn1', -⟩ := r1'.form
        obtain ⟨F2, n2', f2, rfl, hn2', -⟩ := r2'.form
        obtain ⟨F3, n3', f3, rfl, hn3', -⟩ := r3'.form
        obtain ⟨F4, n4', f4, rfl, hn4', -⟩ := r4'.form
        rw [List.length_map] at hn0' hn1' hn2' hn3' hn4'
        subst hn0' hn1' hn2' hn3' hn4'
        subst hvs
        clear r0' r1' r2' r3' r4'
        have hY := hC3.alloc (.cells #[.slice F0 R'.ow.length f0, .slice F1 R'.cs.length f1, .slice F2 R'.rm.length f2, .slice F3 R'.st.length f3, .slice F4 R'.tk.length f4] 33)
        have y0 := hY.cell 0
        have z0 := hY.free 0
        have y1 := hY.cell 1
        have z1 := hY.free 1
        have y2 := hY.cell 2
        have z2 := hY.free 2
        have y3 := hY.cell 3
        have z3 := hY.free 3
        have y4 := hY.cell 4
        have z4 := hY.free 4
        simp only [List.getElem?_cons_zero, List.getElem?_cons_succ] at y0 y1 y2 y3 y4
        have hk4 : Kept (· = W2.heap.size) W3 ((((((W3.alloc (.cells #[.slice F0 R'.ow.length f0, .slice F1 R'.cs.length f1, .slice F2 R'.rm.length f2, .slice F3 R'.st.length f3, .slice F4 R'.tk.length f4] 33)).setCell ⟨W2.heap.size, 0, none⟩ (.slice F0 R'.ow.length f0)).setCell ⟨W2.heap.size, 1, none⟩ (.slice F1 R'.cs.length f1)).setCell ⟨W2.heap.size, 2, none⟩ (.slice F2 R'.rm.length f2)).setCell ⟨W2.heap.size, 3, none⟩ (.slice F3 R'.st.length f3)).setCell ⟨W2.heap.size, 4, none⟩ (.slice F4 R'.tk.length f4)) := ((Kept.refl _ _).alloc _).trans (Kept.put5 _ _ _ _ _ _ _)
        have hC4 := ((((hY.put 0 (.slice F0 R'.ow.length f0)).put 1 (.slice F1 R'.cs.length f1)).put 2 (.slice F2 R'.rm.length f2)).put 3 (.slice F3 R'.st.length f3)).put 4 (.slice F4 R'.tk.length f4)
        simp only [List.set_cons_zero, List.set_cons_succ] at hC4
        have hgT : T' W2.heap.size = 0 := by rw [hTT W2.heap.size (by rw [World.size_alloc]; omega)]; exact HT1.out.1
        have hQ := is_any (hS'.kept hk4 (fun g e => by rw [e]; exact hgT)) (HR3.out.kept hk4 (fun g _ e => .inr (.inr e))).any hL'
        have hN := LkI.next HT1.out hgl HK1.out HKA.out hS' hTT hk3 HR3.out hL' hO' hz' HZ1.out hk4 hC4
        have HN := Lib.hid hN
        have HQ := Lib.hid hQ
        clear hY hC3 hC4 hk4 hN hQ hgT hS' hTT hk3 hL' hO' hz' HR3 HB HC0 HKA s0 s1 s2 s3 s4
        go_wp2_with fail
        refine HQ.out.mono ?_
        rintro e W5 ⟨rfl, hk5⟩
        have HM := Lib.hid (HN.out.keep hk5)
        clear HQ HN
        go_wp2_with fail
        go_roundw
        case rel => exact ⟨k + 1, hlt, by go_num, HM.out⟩
        case measure => simp [intOf]; omega
    · have hdl : decide ((k : Int) < (l.length : Int)) = false := by simpa using hlt
      clear h1 h2 h3 h4 h5 h6 h7 HI
      go_wp2_with (go_at_call 23; refine (num_any _ _).mono ?_; rintro e Wn ⟨rfl, rfl⟩)
      refine HWK.out.mono ?_
      rintro e W4 ⟨rfl, hk4⟩
      go_wp2_with fail
      go_ret
      exact ⟨rfl, h8.trans hk4⟩
end Go.Proofs.Ytehcfahfbdphpaa
