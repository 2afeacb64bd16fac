/- The law SyncConds: who waits at two conditions, and who is woken, by both (conditions: none). -/
import Derived.Test.YtehcfahfbdphpaaSy42
import Derived.Test.YtehcfahfbdphpaaSy49
namespace Go.Proofs.Ytehcfahfbdphpaa
open Go.RowKit Go.Shelf

theorem conds_skip (A : Option Addr) (n c : Nat) (w : World) (h : 100 < n) : Calls Try.prog 9 #[.slice A n c] w fun e w' => e = .returned (.bool true) ∧ Kept noX w w' := by
  have HW := Lib.hid (works_any w)
  have e3 : decide ((100 : Int) < (n : Int)) = true := by simp; omega
  clear h
  go_enter Try.func9, Try.ntmps9
  go_wp2_with (go_at_call 11; refine HW.out.mono ?_; rintro e W1 ⟨rfl, hk⟩)
  go_ret
  exact ⟨rfl, hk⟩
set_option maxRecDepth 100000 in
set_option maxHeartbeats 8000000 in
theorem conds_any (A : Option Addr) (c : Nat) (l : List AC) (w : World) (ha : ActsAt w A l) : Calls Try.prog 9 #[.slice A l.length c] w fun e w' => e = .returned (.bool true) ∧ Kept noX w w' := by
  by_cases h : 100 < l.length
  · exact conds_skip A l.length c w h
  have e3 : decide ((100 : Int) < (l.length : Int)) = false := by simp; omega
  have hl : l.length ≤ 100 := by omega
  have HN := Lib.hid (new_any 0 2 none 0 [] (by simp) w .nilrow)
  have hok : okN 0 2 [] = true := by simp [okN, inI]
  have HA := Lib.hid ha
  clear h ha
  go_enter Try.func9, Try.ntmps9
  go_wp2_with fail
  refine HN.out.mono ?_
  rintro e W1 (⟨_, p, T, rfl, h1, h2, h3⟩ | ⟨hf, _⟩)
  rotate_left
  · rw [hok] at hf; cases hf
  have HZ := Lib.hid (znew_ok 0 2 (by omega) (by omega) none 0 [] (by simp) rfl W1 .nilrow)
  have H1 := Lib.hid h1
  have H2 := Lib.hid h2
  have H3 := Lib.hid h3
  clear h1 h2 h3
  go_wp2_with fail
  refine HZ.out.mono ?_
  rintro e W2 ⟨vs, rfl, hR, hk2⟩
  have hL0 := like_init 0 2 []
  have hO0 := ok_init (m := 0) (c := 2) (rooms := []) (by omega) (by omega) (by simp) rfl
  have hZ0 : SzR (initR 0 2 []) (initR 0 2 []) := SzR.rfl'
  generalize hRR : initR 0 2 [] = R0 at hR hL0 hO0 hZ0
  have HR2 := Lib.hid hR
  obtain ⟨q0', q1', q2', q3', q4', hvs, r0', r1', r2', r3', r4'⟩ := hR
  obtain ⟨B0, n0', e0, rfl, hn0', -⟩ := r0'.form
  obtain ⟨B1, n1', e1, rfl, hn1', -⟩ := r1'.form
  obtain ⟨B2, n2', e2, rfl, hn2', -⟩ := r2'.form
  obtain ⟨B3, n3', e3, rfl, hn3', -⟩ := r3'.form
  obtain ⟨B4, n4', e4, rfl, hn4', -⟩ := r4'.form
  rw [List.length_map] at hn0' hn1' hn2' hn3' hn4'
  subst hn0' hn1' hn2' hn3' hn4'
  subst hvs
  clear r0' r1' r2' r3' r4'
  have HI : Hid (LkI w (W2.alloc (.cells #[.slice B0 R0.ow.length e0, .slice B1 R0.cs.length e1, .slice B2 R0.rm.length e2, .slice B3 R0.st.length e3, .slice B4 R0.tk.length e4] 33)) W2.heap.size p R0 0) := Lib.hid (by
    have hs1 := H3.out.size
    have hs2 := hk2.size
    have hts := H1.out.tagLt
    have hka : Kept noX W1 (W2.alloc (.cells #[.slice B0 R0.ow.length e0, .slice B1 R0.cs.length e1, .slice B2 R0.rm.length e2, .slice B3 R0.st.length e3, .slice B4 R0.tk.length e4] 33)) := hk2.alloc _
    refine ⟨T, _, _, R0, H1.out.keep hka, (HR2.out.mono (fun g hg h => ?_)).keep ((Kept.refl _ _).alloc _), ⟨hL0, hO0, hZ0⟩, Cells.fresh W2 33 _, ⟨Classical.byContradiction fun h => by have := hts _ h; omega, H2.out, by omega⟩, H3.out.trans hka⟩
    rcases h with h | h
    · exact hts g h
    · omega)
  clear HR2 hk2 H1 H2 H3 HN HZ hok
  go_wp2_with fail
  go_loopw [7] (fun i wr => ∃ k : Nat, k ≤ l.length ∧ i = .int .i64 k ∧ LkI w wr W2.heap.size p R0 k) (fun i _ => l.length - (intOf i).toNat)
  case atStart => exact ⟨0, Nat.zero_le _, rfl, HI.out⟩
  case round =>
    obtain ⟨k, hk, rfl, T1, vs, S, R, h1, h2, ⟨h3, h4, h5⟩, h6, h7, h8⟩ := hrel
    have HWK := Lib.hid (works_any wr)
    by_cases hlt : k < l.length
    · have hdl : decide ((k : Int) < (l.length : Int)) = true := by simpa using hlt
      obtain ⟨b, o', rfl, hcell⟩ := HA.out k hlt
      have p0 : wr.cell? ⟨b, o' + k * 4, none⟩ = some (.int .i64 l[k].what) := h8.cell (hcell 0 (by omega))
      have p1 : wr.cell? ⟨b, o' + k * 4 + 1, none⟩ = some (.int .i64 l[k].n) := h8.cell (hcell 1 (by omega))
      have p2 : wr.cell? ⟨b, o' + k * 4 + 2, none⟩ = some (.int .i64 l[k].t) := h8.cell (hcell 2 (by omega))
      have p3 : wr.cell? ⟨b, o' + k * 4 + 3, none⟩ = some (.int .i64 l[k].v) := h8.cell (hcell 3 (by omega))
      generalize l[k].what = a at *
      generalize l[k].n = nn at *
      generalize l[k].t = t at *
      generalize l[k].v = x at *
      have HR1 := Lib.hid h2
      have HS1 := Lib.hid h1
      have hgl := h6.lt
      have hts := h1.tagLt
      obtain ⟨q0', q1', q2', q3', q4', hvs, r0', r1', r2', r3', r4'⟩ := h2
      obtain ⟨D0, n0', d0, rfl, hn0', -⟩ := r0'.form
      obtain ⟨D1, n1', d1, rfl, hn1', -⟩ := r1'.form
      obtain ⟨D2, n2', d2, rfl, hn2', -⟩ := r2'.form
      obtain ⟨D3, n3', d3, rfl, hn3', -⟩ := r3'.form
      obtain ⟨D4, n4', d4, rfl, hn4', -⟩ := r4'.form
      rw [List.length_map] at hn0' hn1' hn2' hn3' hn4'
      subst hn0' hn1' hn2' hn3' hn4'
      subst hvs
      clear r0' r1' r2' r3' r4'
      have HL1 := Lib.hid h3
      have HO1 := Lib.hid h4
      have HZ1 := Lib.hid h5
      have HC1 := Lib.hid h6
      have HT1 := Lib.hid h7
      have HK1 := Lib.hid h8
      have HTS := Lib.hid hts
      clear h1 h3 h4 h5 h6 h7 h8 hts hcell HI
      by_cases aa0 : 2 ≤ a ∧ a ≤ 4
      · have dd2 : decide (a < 2) = false := by simp; omega
        have dd4 : decide (4 < a) = false := by simp; omega
        have ha : a = 2 ∨ a = 3 ∨ a = 4 := by omega
        rcases ha with rfl | rfl | rfl
        · skip
          have hka : Kept noX wr (wr.alloc (.cells #[.int .i64 2, .int .i64 nn, .int .i64 t, .int .i64 x] 62)) := (Kept.refl _ _).alloc _
          have hC0 := HC1.out.keep hka
          have s0 := hC0.cell 0
          have s1 := hC0.cell 1
          have s2 := hC0.cell 2
          have s3 := hC0.cell 3
          have s4 := hC0.cell 4
          simp only [List.getElem?_cons_zero, List.getElem?_cons_succ] at s0 s1 s2 s3 s4
          have HB := Lib.hid (both_wait (HS1.out.keep hka) (HR1.out.keep hka) HL1.out HO1.out (by omega) (fun g hg => Or.inl hg) (fun g hg => by rw [World.size_alloc]; rcases hg with hg | hg; exact Nat.lt_succ_of_lt (HTS.out g hg); omega) nn t x)
          have HC0 := Lib.hid hC0
          have HKA := Lib.hid hka
          clear hC0 hka
          go_wp2_with fail
          (try clear aa0)
          (try clear dd2)
          (try clear dd4)
          (try clear aa3)
          refine HB.out.mono ?_
          rintro e W3 ⟨S', R', ⟨vs', T', rfl, hS', hTT, hk3, hR'⟩, hL', hO', hz'⟩
          have hC3 := HC0.out.kept hk3 (fun h => h HT1.out.1)
          have HR3 := Lib.hid hR'
          obtain ⟨q0', q1', q2', q3', q4', hvs, r0', r1', r2', r3', r4'⟩ := hR'
          obtain ⟨F0, n0', f0, rfl, hn0', -⟩ := r0'.form
          obtain ⟨F1, n1', f1, rfl, hn1', -⟩ := r1'.form
          obtain ⟨F2, n2', f2, rfl, hn2', -⟩ := r2'.form
          obtain ⟨F3, n3', f3, rfl, hn3', -⟩ := r3'.form
          obtain ⟨F4, n4', f4, rfl, hn4', -⟩ := r4'.form
          rw [List.length_map] at hn0' hn1' hn2' hn3' hn4'
          subst hn0' hn1' hn2' hn3' hn4'
          subst hvs
          clear r0' r1' r2' r3' r4'
          have hY := hC3.alloc (.cells #[.slice F0 R'.ow.length f0, .slice F1 R'.cs.length f1, .slice F2 R'.rm.length f2, .slice F3 R'.st.length f3, .slice F4 R'.tk.length f4] 33)
          have y0 := hY.cell 0
          have z0 := hY.free 0
          have y1 := hY.cell 1
          have z1 := hY.free 1
          have y2 := hY.cell 2
          have z2 := hY.free 2
          have y3 := hY.cell 3
          have z3 := hY.free 3
          have y4 := hY.cell 4
          have z4 := hY.free 4
          simp only [List.getElem?_cons_zero, List.getElem?_cons_succ] at y0 y1 y2 y3 y4
          have hk4 : Kept (· = W2.heap.size) W3 ((((((W3.alloc (.cells #[.slice F0 R'.ow.length f0, .slice F1 R'.cs.length f1, .slice F2 R'.rm.length f2, .slice F3 R'.st.length f3, .slice F4 R'.tk.length f4] 33)).setCell ⟨W2.heap.size, 0, none⟩ (.slice F0 R'.ow.length f0)).setCell ⟨W2.heap.size, 1, none⟩ (.slice F1 R'.cs.length f1)).setCell ⟨W2.heap.size, 2, none⟩ (.slice F2 R'.rm.length f2)).setCell ⟨W2.heap.size, 3, none⟩ (.slice F3 R'.st.length f3)).setCell ⟨W2.heap.size, 4, none⟩ (.slice F4 R'.tk.length f4)) := ((Kept.refl _ _).alloc _).trans (Kept.put5 _ _ _ _ _ _ _)
          have hC4 := ((((hY.put 0 (.slice F0 R'.ow.length f0)).put 1 (.slice F1 R'.cs.length f1)).put 2 (.slice F2 R'.rm.length f2)).put 3 (.slice F3 R'.st.length f3)).put 4 (.slice F4 R'.tk.length f4)
          simp only [List.set_cons_zero, List.set_cons_succ] at hC4
          have hgT : T' W2.heap.size = 0 := by rw [hTT W2.heap.size (by rw [World.size_alloc]; omega)]; exact HT1.out.1
          have hQ := is_any (hS'.kept hk4 (fun g e => by rw [e]; exact hgT)) (HR3.out.kept hk4 (fun g _ e => .inr (.inr e))).any hL'
          have hN := LkI.next HT1.out hgl HK1.out HKA.out hS' hTT hk3 HR3.out hL' hO' hz' HZ1.out hk4 hC4
          have HN := Lib.hid hN
          have HQ := Lib.hid hQ
          clear hY hC3 hC4 hk4 hN hQ hgT hS' hTT hk3 hL' hO' hz' HR3 HB HC0 HKA s0 s1 s2 s3 s4
          go_wp2_with fail
          refine HQ.out.mono ?_
          rintro e W5 ⟨rfl, hk5⟩
          have HM := Lib.hid (HN.out.keep hk5)
          clear HQ HN
          go_wp2_with fail
          go_roundw
          case rel => exact ⟨k + 1, hlt, by go_num, HM.out⟩
          case measure => simp [intOf]; omega
        · skip
          have hka : Kept noX wr (wr.alloc (.cells #[.int .i64 3, .int .i64 nn, .int .i64 t, .int .i64 x] 62)) := (Kept.refl _ _).alloc _
          have hC0 := HC1.out.keep hka
          have s0 := hC0.cell 0
          have s1 := hC0.cell 1
          have s2 := hC0.cell 2
          have s3 := hC0.cell 3
          have s4 := hC0.cell 4
          simp only [List.getElem?_cons_zero, List.getElem?_cons_succ] at s0 s1 s2 s3 s4
          have HB := Lib.hid (both_signal (HS1.out.keep hka) (HR1.out.keep hka) HL1.out HO1.out (by omega) (fun g hg => Or.inl hg) (fun g hg => by rw [World.size_alloc]; rcases hg with hg | hg; exact Nat.lt_succ_of_lt (HTS.out g hg); omega) nn t x)
          have HC0 := Lib.hid hC0
          have HKA := Lib.hid hka
          clear hC0 hka
          go_wp2_with fail
          (try clear aa0)
          (try clear dd2)
          (try clear dd4)
          (try clear aa3)
          refine HB.out.mono ?_
          rintro e W3 ⟨S', R', ⟨vs', T', rfl, hS', hTT, hk3, hR'⟩, hL', hO', hz'⟩
          have hC3 := HC0.out.kept hk3 (fun h => h HT1.out.1)
          have HR3 := Lib.hid hR'
          obtain ⟨q0', q1', q2', q3', q4', hvs, r0', r1', r2', r3', r4'⟩ := hR'
          obtain ⟨F0, n0', f0, rfl, hn0', -⟩ := r0'.form
          obtain ⟨F1, n1', f1, rfl, hn1', -⟩ := r1'.form
          obtain ⟨F2, n2', f2, rfl, hn2', -⟩ := r2'.form
          obtain ⟨F3, n3', f3, rfl, hn3', -⟩ := r3'.form
          obtain ⟨F4, n4', f4, rfl, hn4', -⟩ := r4'.form
          rw [List.length_map] at hn0' hn1' hn2' hn3' hn4'
          subst hn0' hn1' hn2' hn3' hn4'
          subst hvs
          clear r0' r1' r2' r3' r4'
          have hY := hC3.alloc (.cells #[.slice F0 R'.ow.length f0, .slice F1 R'.cs.length f1, .slice F2 R'.rm.length f2, .slice F3 R'.st.length f3, .slice F4 R'.tk.length f4] 33)
          have y0 := hY.cell 0
          have z0 := hY.free 0
          have y1 := hY.cell 1
          have z1 := hY.free 1
          have y2 := hY.cell 2
          have z2 := hY.free 2
          have y3 := hY.cell 3
          have z3 := hY.free 3
          have y4 := hY.cell 4
          have z4 := hY.free 4
          simp only [List.getElem?_cons_zero, List.getElem?_cons_succ] at y0 y1 y2 y3 y4
          have hk4 : Kept (· = W2.heap.size) W3 ((((((W3.alloc (.cells #[.slice F0 R'.ow.length f0, .slice F1 R'.cs.length f1, .slice F2 R'.rm.length f2, .slice F3 R'.st.length f3, .slice F4 R'.tk.length f4] 33)).setCell ⟨W2.heap.size, 0, none⟩ (.slice F0 R'.ow.length f0)).setCell ⟨W2.heap.size, 1, none⟩ (.slice F1 R'.cs.length f1)).setCell ⟨W2.heap.size, 2, none⟩ (.slice F2 R'.rm.length f2)).setCell ⟨W2.heap.size, 3, none⟩ (.slice F3 R'.st.length f3)).setCell ⟨W2.heap.size, 4, none⟩ (.slice F4 R'.tk.length f4)) := ((Kept.refl _ _).alloc _).trans (Kept.put5 _ _ _ _ _ _ _)
          have hC4 := ((((hY.put 0 (.slice F0 R'.ow.length f0)).put 1 (.slice F1 R'.cs.length f1)).put 2 (.slice F2 R'.rm.length f2)).put 3 (.slice F3 R'.st.length f3)).put 4 (.slice F4 R'.tk.length f4)
          simp only [List.set_cons_zero, List.set_cons_succ] at hC4
          have hgT : T' W2.heap.size = 0 := by rw [hTT W2.heap.size (by rw [World.size_alloc]; omega)]; exact HT1.out.1
          have hQ := is_any (hS'.kept hk4 (fun g e => by rw [e]; exact hgT)) (HR3.out.kept hk4 (fun g _ e => .inr (.inr e))).any hL'
          have hN := LkI.next HT1.out hgl HK1.out HKA.out hS' hTT hk3 HR3.out hL' hO' hz' HZ1.out hk4 hC4
          have HN := Lib.hid hN
          have HQ := Lib.hid hQ
          clear hY hC3 hC4 hk4 hN hQ hgT hS' hTT hk3 hL' hO' hz' HR3 HB HC0 HKA s0 s1 s2 s3 s4
          go_wp2_with fail
          refine HQ.out.mono ?_
          rintro e W5 ⟨rfl, hk5⟩
          have HM := Lib.hid (HN.out.keep hk5)
          clear HQ HN
          go_wp2_with fail
          go_roundw
          case rel => exact ⟨k + 1, hlt, by go_num, HM.out⟩
          case measure => simp [intOf]; omega
        · skip
          have hka : Kept noX wr (wr.alloc (.cells #[.int .i64 4, .int .i64 nn, .int .i64 t, .int .i64 x] 62)) := (Kept.refl _ _).alloc _
          have hC0 := HC1.out.keep hka
          have s0 := hC0.cell 0
          have s1 := hC0.cell 1
          have s2 := hC0.cell 2
          have s3 := hC0.cell 3
          have s4 := hC0.cell 4
          simp only [List.getElem?_cons_zero, List.getElem?_cons_succ] at s0 s1 s2 s3 s4
          have HB := Lib.hid (both_all (HS1.out.keep hka) (HR1.out.keep hka) HL1.out HO1.out (by omega) (fun g hg => Or.inl hg) (fun g hg => by rw [World.size_alloc]; rcases hg with hg | hg; exact Nat.lt_succ_of_lt (HTS.out g hg); omega) nn t x)
          have HC0 := Lib.hid hC0
          have HKA := Lib.hid hka
          clear hC0 hka
          go_wp2_with fail
          (try clear aa0)
          (try clear dd2)
          (try clear dd4)
          (try clear aa3)
          refine HB.out.mono ?_
          rintro e W3 ⟨S', R', ⟨vs', T', rfl, hS', hTT, hk3, hR'⟩, hL', hO', hz'⟩
          have hC3 := HC0.out.kept hk3 (fun h => h HT1.out.1)
          have HR3 := Lib.hid hR'
          obtain ⟨q0', q1', q2', q3', q4', hvs, r0', r1', r2', r3', r4'⟩ := hR'
          obtain ⟨F0, n0', f0, rfl, hn0', -⟩ := r0'.form
          obtain ⟨F1, n1', f1, rfl, hn1', -⟩ := r1'.form
          obtain ⟨F2, n2', f2, rfl, hn2', -⟩ := r2'.form
          obtain ⟨F3, n3', f3, rfl, hn3', -⟩ := r3'.form
          obtain ⟨F4, n4', f4, rfl, hn4', -⟩ := r4'.form
          rw [List.length_map] at hn0' hn1' hn2' hn3' hn4'
          subst hn0' hn1' hn2' hn3' hn4'
          subst hvs
          clear r0' r1' r2' r3' r4'
          have hY := hC3.alloc (.cells #[.slice F0 R'.ow.length f0, .slice F1 R'.cs.length f1, .slice F2 R'.rm.length f2, .slice F3 R'.st.length f3, .slice F4 R'.tk.length f4] 33)
          have y0 := hY.cell 0
          have z0 := hY.free 0
          have y1 := hY.cell 1
          have z1 := hY.free 1
          have y2 := hY.cell 2
          have z2 := hY.free 2
          have y3 := hY.cell 3
          have z3 := hY.free 3
          have y4 := hY.cell 4
          have z4 := hY.free 4
          simp only [List.getElem?_cons_zero, List.getElem?_cons_succ] at y0 y1 y2 y3 y4
          have hk4 : Kept (· = W2.heap.size) W3 ((((((W3.alloc (.cells #[.slice F0 R'.ow.length f0, .slice F1 R'.cs.length f1, .slice F2 R'.rm.length f2, .slice F3 R'.st.length f3, .slice F4 R'.tk.length f4] 33)).setCell ⟨W2.heap.size, 0, none⟩ (.slice F0 R'.ow.length f0)).setCell ⟨W2.heap.size, 1, none⟩ (.slice F1 R'.cs.length f1)).setCell ⟨W2.heap.size, 2, none⟩ (.slice F2 R'.rm.length f2)).setCell ⟨W2.heap.size, 3, none⟩ (.slice F3 R'.st.length f3)).setCell ⟨W2.heap.size, 4, none⟩ (.slice F4 R'.tk.length f4)) := ((Kept.refl _ _).alloc _).trans (Kept.put5 _ _ _ _ _ _ _)
          have hC4 := ((((hY.put 0 (.slice F0 R'.ow.length f0)).put 1 (.slice F1 R'.cs.length f1)).put 2 (.slice F2 R'.rm.length f2)).put 3 (.slice F3 R'.st.length f3)).put 4 (.slice F4 R'.tk.length f4)
          simp only [List.set_cons_zero, List.set_cons_succ] at hC4
          have hgT : T' W2.heap.size = 0 := by rw [hTT W2.heap.size (by rw [World.size_alloc]; omega)]; exact HT1.out.1
          have hQ := is_any (hS'.kept hk4 (fun g e => by rw [e]; exact hgT)) (HR3.out.kept hk4 (fun g _ e => .inr (.inr e))).any hL'
          have hN := LkI.next HT1.out hgl HK1.out HKA.out hS' hTT hk3 HR3.out hL' hO' hz' HZ1.out hk4 hC4
          have HN := Lib.hid hN
          have HQ := Lib.hid hQ
          clear hY hC3 hC4 hk4 hN hQ hgT hS' hTT hk3 hL' hO' hz' HR3 HB HC0 HKA s0 s1 s2 s3 s4
          go_wp2_with fail
          refine HQ.out.mono ?_
          rintro e W5 ⟨rfl, hk5⟩
          have HM := Lib.hid (HN.out.keep hk5)
          clear HQ HN
          go_wp2_with fail
          go_roundw
          case rel => exact ⟨k + 1, hlt, by go_num, HM.out⟩
          case measure => simp [intOf]; omega
      · by_cases aa3 : a < 2
        · have dd2 : decide (a < 2) = true := by simpa using aa3
          skip
          have hka : Kept noX wr (wr.alloc (.cells #[.int .i64 2, .int .i64 nn, .int .i64 t, .int .i64 x] 62)) := (Kept.refl _ _).alloc _
          have hC0 := HC1.out.keep hka
          have s0 := hC0.cell 0
          have s1 := hC0.cell 1
          have s2 := hC0.cell 2
          have s3 := hC0.cell 3
          have s4 := hC0.cell 4
          simp only [List.getElem?_cons_zero, List.getElem?_cons_succ] at s0 s1 s2 s3 s4
          have HB := Lib.hid (both_wait (HS1.out.keep hka) (HR1.out.keep hka) HL1.out HO1.out (by omega) (fun g hg => Or.inl hg) (fun g hg => by rw [World.size_alloc]; rcases hg with hg | hg; exact Nat.lt_succ_of_lt (HTS.out g hg); omega) nn t x)
          have HC0 := Lib.hid hC0
          have HKA := Lib.hid hka
          clear hC0 hka
          go_wp2_with fail
          (try clear aa0)
          (try clear dd2)
          (try clear dd4)
          (try clear aa3)
          refine HB.out.mono ?_
          rintro e W3 ⟨S', R', ⟨vs', T', rfl, hS', hTT, hk3, hR'⟩, hL', hO', hz'⟩
          have hC3 := HC0.out.kept hk3 (fun h => h HT1.out.1)
          have HR3 := Lib.hid hR'
          obtain ⟨q0', q1', q2', q3', q4', hvs, r0', r1', r2', r3', r4'⟩ := hR'
          obtain ⟨F0, n0', f0, rfl, hn0', -⟩ := r0'.form
          obtain ⟨F1, n1', f1, rfl, hn1', -⟩ := r1'.form
          obtain ⟨F2, n2', f2, rfl, hn2', -⟩ := r2'.form
          obtain ⟨F3, n3', f3, rfl, hn3', -⟩ := r3'.form
          obtain ⟨F4, n4', f4, rfl, hn4', -⟩ := r4'.form
          rw [List.length_map] at hn0' hn1' hn2' hn3' hn4'
          subst hn0' hn1' hn2' hn3' hn4'
          subst hvs
          clear r0' r1' r2' r3' r4'
          have hY := hC3.alloc (.cells #[.slice F0 R'.ow.length f0, .slice F1 R'.cs.length f1, .slice F2 R'.rm.length f2, .slice F3 R'.st.length f3, .slice F4 R'.tk.length f4] 33)
          have y0 := hY.cell 0
          have z0 := hY.free 0
          have y1 := hY.cell 1
          have z1 := hY.free 1
          have y2 := hY.cell 2
          have z2 := hY.free 2
          have y3 := hY.cell 3
          have z3 := hY.free 3
          have y4 := hY.cell 4
          have z4 := hY.free 4
          simp only [List.getElem?_cons_zero, List.getElem?_cons_succ] at y0 y1 y2 y3 y4
          have hk4 : Kept (· = W2.heap.size) W3 ((((((W3.alloc (.cells #[.slice F0 R'.ow.length f0, .slice F1 R'.cs.length f1, .slice F2 R'.rm.length f2, .slice F3 R'.st.length f3, .slice F4 R'.tk.length f4] 33)).setCell ⟨W2.heap.size, 0, none⟩ (.slice F0 R'.ow.length f0)).setCell ⟨W2.heap.size, 1, none⟩ (.slice F1 R'.cs.length f1)).setCell ⟨W2.heap.size, 2, none⟩ (.slice F2 R'.rm.length f2)).setCell ⟨W2.heap.size, 3, none⟩ (.slice F3 R'.st.length f3)).setCell ⟨W2.heap.size, 4, none⟩ (.slice F4 R'.tk.length f4)) := ((Kept.refl _ _).alloc _).trans (Kept.put5 _ _ _ _ _ _ _)
          have hC4 := ((((hY.put 0 (.slice F0 R'.ow.length f0)).put 1 (.slice F1 R'.cs.length f1)).put 2 (.slice F2 R'.rm.length f2)).put 3 (.slice F3 R'.st.length f3)).put 4 (.slice F4 R'.tk.length f4)
          simp only [List.set_cons_zero, List.set_cons_succ] at hC4
          have hgT : T' W2.heap.size = 0 := by rw [hTT W2.heap.size (by rw [World.size_alloc]; omega)]; exact HT1.out.1
          have hQ := is_any (hS'.kept hk4 (fun g e => by rw [e]; exact hgT)) (HR3.out.kept hk4 (fun g _ e => .inr (.inr e))).any hL'
          have hN := LkI.next HT1.out hgl HK1.out HKA.out hS' hTT hk3 HR3.out hL' hO' hz' HZ1.out hk4 hC4
          have HN := Lib.hid hN
          have HQ := Lib.hid hQ
          clear hY hC3 hC4 hk4 hN hQ hgT hS' hTT hk3 hL' hO' hz' HR3 HB HC0 HKA s0 s1 s2 s3 s4
          go_wp2_with fail
          refine HQ.out.mono ?_
          rintro e W5 ⟨rfl, hk5⟩
          have HM := Lib.hid (HN.out.keep hk5)
          clear HQ HN
          go_wp2_with fail
          go_roundw
          case rel => exact ⟨k + 1, hlt, by go_num, HM.out⟩
          case measure => simp [intOf]; omega
        · have dd2 : decide (a < 2) = false := by simpa using aa3
          have dd4 : decide (4 < a) = true := by simp; omega
          skip
          have hka : Kept noX wr (wr.alloc (.cells #[.int .i64 2, .int .i64 nn, .int .i64 t, .int .i64 x] 62)) := (Kept.refl _ _).alloc _
          have hC0 := HC1.out.keep hka
          have s0 := hC0.cell 0
          have s1 := hC0.cell 1
          have s2 := hC0.cell 2
          have s3 := hC0.cell 3
          have s4 := hC0.cell 4
          simp only [List.getElem?_cons_zero, List.getElem?_cons_succ] at s0 s1 s2 s3 s4
          have HB := Lib.hid (both_wait (HS1.out.keep hka) (HR1.out.keep hka) HL1.out HO1.out (by omega) (fun g hg => Or.inl hg) (fun g hg => by rw [World.size_alloc]; rcases hg with hg | hg; exact Nat.lt_succ_of_lt (HTS.out g hg); omega) nn t x)
          have HC0 := Lib.hid hC0
          have HKA := Lib.hid hka
          clear hC0 hka
          go_wp2_with fail
          (try clear aa0)
          (try clear dd2)
          (try clear dd4)
          (try clear aa3)
          refine HB.out.mono ?_
          rintro e W3 ⟨S', R', ⟨vs', T', rfl, hS', hTT, hk3, hR'⟩, hL', hO', hz'⟩
          have hC3 := HC0.out.kept hk3 (fun h => h HT1.out.1)
          have HR3 := Lib.hid hR'
          obtain ⟨q0', q1', q2', q3', q4', hvs, r0', r1', r2', r3', r4'⟩ := hR'
          obtain ⟨F0, n0', f0, rfl, hn0', -⟩ := r0'.form
          obtain ⟨F1, n1', f1, rfl, hn1', -⟩ := r1'.form
          obtain ⟨F2, n2', f2, rfl, hn2', -⟩ := r2'.form
          obtain ⟨F3, n3', f3, rfl, hn3', -⟩ := r3'.form
          obtain ⟨F4, n4', f4, rfl, hn4', -⟩ := r4'.form
          rw [List.length_map] at hn0' hn1' hn2' hn3' hn4'
          subst hn0' hn1' hn2' hn3' hn4'
          subst hvs
          clear r0' r1' r2' r3' r4'
          have hY := hC3.alloc (.cells #[.slice F0 R'.ow.length f0, .slice F1 R'.cs.length f1, .slice F2 R'.rm.length f2, .slice F3 R'.st.length f3, .slice F4 R'.tk.length f4] 33)
          have y0 := hY.cell 0
          have z0 := hY.free 0
          have y1 := hY.cell 1
          have z1 := hY.free 1
          have y2 := hY.cell 2
          have z2 := hY.free 2
          have y3 := hY.cell 3
          have z3 := hY.free 3
          have y4 := hY.cell 4
          have z4 := hY.free 4
          simp only [List.getElem?_cons_zero, List.getElem?_cons_succ] at y0 y1 y2 y3 y4
          have hk4 : Kept (· = W2.heap.size) W3 ((((((W3.alloc (.cells #[.slice F0 R'.ow.length f0, .slice F1 R'.cs.length f1, .slice F2 R'.rm.length f2, .slice F3 R'.st.length f3, .slice F4 R'.tk.length f4] 33)).setCell ⟨W2.heap.size, 0, none⟩ (.slice F0 R'.ow.length f0)).setCell ⟨W2.heap.size, 1, none⟩ (.slice F1 R'.cs.length f1)).setCell ⟨W2.heap.size, 2, none⟩ (.slice F2 R'.rm.length f2)).setCell ⟨W2.heap.size, 3, none⟩ (.slice F3 R'.st.length f3)).setCell ⟨W2.heap.size, 4, none⟩ (.slice F4 R'.tk.length f4)) := ((Kept.refl _ _).alloc _).trans (Kept.put5 _ _ _ _ _ _ _)
          have hC4 := ((((hY.put 0 (.slice F0 R'.ow.length f0)).put 1 (.slice F1 R'.cs.length f1)).put 2 (.slice F2 R'.rm.length f2)).put 3 (.slice F3 R'.st.length f3)).put 4 (.slice F4 R'.tk.length f4)
          simp only [List.set_cons_zero, List.set_cons_succ] at hC4
          have hgT : T' W2.heap.size = 0 := by rw [hTT W2.heap.size (by rw [World.size_alloc]; omega)]; exact HT1.out.1
          have hQ := is_any (hS'.kept hk4 (fun g e => by rw [e]; exact hgT)) (HR3.out.kept hk4 (fun g _ e => .inr (.inr e))).any hL'
          have hN := LkI.next HT1.out hgl HK1.out HKA.out hS' hTT hk3 HR3.out hL' hO' hz' HZ1.out hk4 hC4
          have HN := Lib.hid hN
          have HQ := Lib.hid hQ
          clear hY hC3 hC4 hk4 hN hQ hgT hS' hTT hk3 hL' hO' hz' HR3 HB HC0 HKA s0 s1 s2 s3 s4
          go_wp2_with fail
          refine HQ.out.mono ?_
          rintro e W5 ⟨rfl, hk5⟩
          have HM := Lib.hid (HN.out.keep hk5)
          clear HQ HN
          go_wp2_with fail
          go_roundw
          case rel => exact ⟨k + 1, hlt, by go_num, HM.out⟩
          case measure => simp [intOf]; omega
    · have hdl : decide ((k : Int) < (l.length : Int)) = false := by simpa using hlt
      clear h1 h2 h3 h4 h5 h6 h7 HI
      go_wp2_with (go_at_call 23; refine (num_any _ _).mono ?_; rintro e Wn ⟨rfl, rfl⟩)
      refine HWK.out.mono ?_
      rintro e W4 ⟨rfl, hk4⟩
      go_wp2_with fail
      go_ret
      exact ⟨rfl, h8.trans hk4⟩
end Go.Proofs.Ytehcfahfbdphpaa
