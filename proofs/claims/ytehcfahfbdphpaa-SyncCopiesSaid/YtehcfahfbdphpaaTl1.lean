/- Layer 4: calls by both, and the walk of SyncPlays (conditions: none). -/
import Derived.Test.YtehcfahfbdphpaaSy40
import Derived.Test.YtehcfahfbdphpaaSy29
import Derived.Test.YtehcfahfbdphpaaSy45
import Derived.Test.YtehcfahfbdphpaaSy46
import Derived.Test.YtehcfahfbdphpaaTl3
import Derived.Test.YtehcfahfbdphpaaSy32
import Derived.Test.YtehcfahfbdphpaaSy52
import Derived.Test.YtehcfahfbdphpaaTl5
import Derived.Test.YtehcfahfbdphpaaTl2
import Derived.Test.YtehcfahfbdphpaaSy38
import Derived.Test.YtehcfahfbdphpaaSy39
namespace Go.Proofs.Ytehcfahfbdphpaa
open Go.RowKit Go.Shelf

/-- Both have answered alike, and stand alike. -/
def BP (w : World) (T : Nat → Nat) (Z0 : Nat → Prop) (p : Nat) (R : RS) (n : Nat) (e : Ending) (W' : World) : Prop := ∃ S' R', AP w T Z0 p S' R' e W' ∧ Like S' R' ∧ OkR R' (n + 1) ∧ SzR R R'
section
variable {w : World} {T : Nat → Nat} {p : Nat} {S : SS} {vs : List Value} {R : RS} {Z0 : Nat → Prop} {n : Nat}
theorem rv_zt {W' : World} (h : RV w Z0 vs R) (hk : Kept noX w W') : RV W' (ZT Z0 w.heap.size (w.heap.size + 3)) vs R :=
  (h.mono (fun g hg h => h.elim id (fun h => by omega))).keep hk
theorem rv_zt2 {W0 W' : World} {vs' : List Value} {R' : RS} (hZ : ∀ g, Z0 g → g < w.heap.size) (hs : W0.heap.size = w.heap.size + 3) (h : RV W' (· < W0.heap.size) vs' R') : RV W' (ZT Z0 w.heap.size (w.heap.size + 3)) vs' R' :=
  h.mono (fun g _ h => by
    rcases h with h | h
    · have := hZ g h
      show g < W0.heap.size
      omega
    · show g < W0.heap.size
      omega)
theorem Like.lenO (h : Like S R) : S.os.length = R.ow.length := by rw [h.os]
theorem Like.lenC (h : Like S R) : S.cs.length = R.cs.length := by rw [h.cs]
theorem Like.setO (h : Like S R) (i : Nat) (t : Int) : Like { S with os := S.os.set i t } { R with ow := R.ow.set i t } := ⟨by show S.os.set i t = R.ow.set i t; rw [h.os], h.cs, h.qs, h.st, h.tk, h.q⟩
theorem OkR.setO (h : OkR R n) (i : Nat) (t : Int) (ht : t = -1 ∨ 0 ≤ t) : OkR { R with ow := R.ow.set i t } (n + 1) := by
  refine ⟨fun j hj => ?_, fun j hj => by have := h.cs j hj; exact Nat.le_succ_of_le this, fun j hj => by have := h.st j hj; exact Nat.le_succ_of_le this, h.th, h.full, by have := h.sz; simpa using this⟩
  have hj' : j < R.ow.length := by simpa using hj
  show (R.ow.set i t)[j]'_ = -1 ∨ 0 ≤ (R.ow.set i t)[j]'_
  rw [List.getElem_set]
  split
  · exact ht
  · exact h.ow j hj'
theorem SzR.rfl' : SzR R R := ⟨rfl, rfl, rfl⟩
theorem BP.same {e : Ending} {W' : World} (h : AP w T Z0 p S R e W') (hL : Like S R) (hO : OkR R n) : BP w T Z0 p R n e W' := ⟨S, R, h, hL, hO.more, SzR.rfl'⟩
theorem out_or {m : Int} {k : Nat} : (m < 0 ∨ (k : Int) ≤ m) ∨ ∃ i : Nat, m = i ∧ i < k := by
  by_cases h : m < 0 ∨ (k : Int) ≤ m
  · exact .inl h
  · exact .inr ⟨m.toNat, by omega, by omega⟩
variable (hS : SyAt w T p S) (h : RV w Z0 vs R) (hL : Like S R) (hO : OkR R n) (hn : n ≤ 1000000) (hTZ : ∀ g, T g ≠ 0 → Z0 g) (hZs : ∀ g, Z0 g → g < w.heap.size)
include hS h hL hO hn hTZ hZs
theorem both_lock (m t v : Int) : Calls Try.prog 32 #[.pointer (some ⟨p, 0, none⟩), .agg vs.toArray, .agg #[.int .i64 0, .int .i64 m, .int .i64 t, .int .i64 v]] w (BP w T Z0 p R n) := by
  rcases out_or (m := m) (k := R.ow.length) with hm | ⟨i, rfl, hi⟩
  · exact (act_lock hS h.any hTZ (ok := false) (no := 4) (fun W0 hk hs => (zlock_out (h.any.keep hk) m hm).mono (fun e W' he => ⟨⟨vs, he.1, rv_zt h (hk.trans he.2)⟩, he.2⟩))
      (fun W1 hS1 => (lock_out hS1 t m (by rw [hL.lenO]; exact hm)).mono (fun e W' he => ⟨he.1, hS1.same he.2⟩))).mono (fun e W' he => BP.same he hL hO)
  · have hi' : i < S.os.length := by rw [hL.lenO]; exact hi
    have hse : S.os[i] = R.ow[i] := by simp [hL.os]
    cases ht : inI 0 7 t with
    | false =>
      exact (act_lock hS h.any hTZ (ok := false) (no := 2) (fun W0 hk hs => (zlock_bad (h.any.keep hk) i hi ht).mono (fun e W' he => ⟨⟨vs, he.1, rv_zt h (hk.trans he.2)⟩, he.2⟩))
        (fun W1 hS1 => (lock_bad hS1 t i hi' ht).mono (fun e W' he => ⟨he.1, hS1.same he.2⟩))).mono (fun e W' he => BP.same he hL hO)
    | true =>
      rcases hO.ow i hi with ho | ho
      · exact (act_lock hS h.any hTZ (ok := true) (no := 0) (S' := { S with os := S.os.set i t }) (R' := { R with ow := R.ow.set i t }) (fun W0 hk hs => (zlock_ok (h.any.keep hk) (hO.rb (by omega)) i hi ht ho).mono (fun e W' he => ⟨by obtain ⟨⟨vs', h1, h2⟩, _⟩ := he; exact ⟨vs', h1, rv_zt2 hZs hs h2⟩, he.2⟩))
          (fun W1 hS1 => lock_ok hS1 t i hi' ht (hse.trans ho))).mono (fun e W' he => ⟨_, _, he, hL.setO i t, hO.setO i t (.inr (by simp [inI] at ht; omega)), ⟨by simp, rfl, rfl⟩⟩)
      · exact (act_lock hS h.any hTZ (ok := false) (no := 0) (fun W0 hk hs => (zlock_own (h.any.keep hk) i hi ht ho).mono (fun e W' he => ⟨⟨vs, he.1, rv_zt h (hk.trans he.2)⟩, he.2⟩))
          (fun W1 hS1 => (lock_own hS1 t i hi' ht (by rw [hse]; omega)).mono (fun e W' he => ⟨he.1, hS1.same he.2⟩))).mono (fun e W' he => BP.same he hL hO)
theorem both_unlock (m t v : Int) : Calls Try.prog 32 #[.pointer (some ⟨p, 0, none⟩), .agg vs.toArray, .agg #[.int .i64 1, .int .i64 m, .int .i64 t, .int .i64 v]] w (BP w T Z0 p R n) := by
  rcases out_or (m := m) (k := R.ow.length) with hm | ⟨i, rfl, hi⟩
  · exact (act_unlock hS h.any hTZ (no := 4) (fun W0 hk hs => (zunlock_out (h.any.keep hk) m hm).mono (fun e W' he => ⟨⟨vs, he.1, rv_zt h (hk.trans he.2)⟩, he.2⟩))
      (fun W1 hS1 => (unlock_out hS1 t m (by rw [hL.lenO]; exact hm)).mono (fun e W' he => ⟨he.1, hS1.same he.2⟩))).mono (fun e W' he => BP.same he hL hO)
  · have hi' : i < S.os.length := by rw [hL.lenO]; exact hi
    have hse : S.os[i] = R.ow[i] := by simp [hL.os]
    cases ht : inI 0 7 t with
    | false =>
      exact (act_unlock hS h.any hTZ (no := 2) (fun W0 hk hs => (zunlock_bad (h.any.keep hk) i hi ht).mono (fun e W' he => ⟨⟨vs, he.1, rv_zt h (hk.trans he.2)⟩, he.2⟩))
        (fun W1 hS1 => (unlock_no hS1 t i hi' 2 rfl (by rw [ht]; rfl)).mono (fun e W' he => ⟨he.1, hS1.same he.2⟩))).mono (fun e W' he => BP.same he hL hO)
    | true =>
      by_cases ho : R.ow[i] = t
      · exact (act_unlock hS h.any hTZ (no := 0) (S' := { S with os := S.os.set i (-1) }) (R' := { R with ow := R.ow.set i (-1) }) (fun W0 hk hs => (zunlock_ok (h.any.keep hk) (hO.rb (by omega)) i hi ht ho).mono (fun e W' he => ⟨by obtain ⟨⟨vs', h1, h2⟩, _⟩ := he; exact ⟨vs', h1, rv_zt2 hZs hs h2⟩, he.2⟩))
          (fun W1 hS1 => unlock_ok hS1 t i hi' ht (hse.trans ho))).mono (fun e W' he => ⟨_, _, he, hL.setO i (-1), hO.setO i (-1) (.inl rfl), ⟨by simp, rfl, rfl⟩⟩)
      · exact (act_unlock hS h.any hTZ (no := 140) (fun W0 hk hs => (zunlock_no (h.any.keep hk) i hi ht ho).mono (fun e W' he => ⟨⟨vs, he.1, rv_zt h (hk.trans he.2)⟩, he.2⟩))
          (fun W1 hS1 => (unlock_no hS1 t i hi' 140 rfl (by have hb : (S.os[i] == t) = false := (by rw [hse]; simpa using ho); rw [ht, hb]; rfl)).mono (fun e W' he => ⟨he.1, hS1.same he.2⟩))).mono (fun e W' he => BP.same he hL hO)
end
end Go.Proofs.Ytehcfahfbdphpaa
namespace Go.Proofs.Ytehcfahfbdphpaa
open Go.RowKit Go.Shelf

theorem like_init (m c : Nat) (rooms : List Int) : Like (initS m c rooms) (initR m c rooms) := by
  refine ⟨by simp [initS, initR], by simp [initS, initR], by simp [initS, initR], by simp [initR], by simp [initR], fun i h => ?_⟩
  simp [initS, initR]
theorem ok_init {m c : Nat} {rooms : List Int} (hm : m ≤ 64) (hc : c ≤ 64) (hr : rooms.length ≤ 64) (hall : rooms.all (inI 1 16) = true) : OkR (initR m c rooms) 0 := by
  refine ⟨fun i h => .inl (by simp [initR]), fun i h => by simp [initR], fun i h => by simp [initR], fun l hl y hy => (by simp [initR] at hl; rw [hl.2] at hy; cases hy), fun i h h1 h2 => ?_, by simp [initR]; omega⟩
  have := List.all_eq_true.1 hall _ (List.getElem_mem h2)
  simp only [initR, List.getElem_replicate, List.length_nil]
  simp [inI] at this
  have e : ((0 - 0 : Nat) : Int) = 0 := rfl
  rw [e]
  exact Int.le_trans (by decide) this.1
/-- What the loops of the laws keep: the state, the document's in the box gW, calls so many. -/
def LkI (w wr : World) (gW p : Nat) (R0 : RS) (n : Nat) : Prop :=
  ∃ T vs S R, SyAt wr T p S ∧ RV wr (fun g => T g ≠ 0 ∨ g = gW) vs R ∧ (Like S R ∧ OkR R n ∧ SzR R0 R) ∧ Cells wr gW 33 vs ∧ (T gW = 0 ∧ (∀ g, T g ≠ 0 → w.heap.size ≤ g) ∧ w.heap.size ≤ gW) ∧ Kept noX w wr
theorem LkI.next {w wr W0 W3 W4 : World} {gW p n : Nat} {R0 R S' R'} {T : Nat → Nat} {vs' : List Value} {T' : Nat → Nat} (hT : T gW = 0 ∧ (∀ g, T g ≠ 0 → w.heap.size ≤ g) ∧ w.heap.size ≤ gW) (hg : gW < wr.heap.size) (hk : Kept noX w wr) (hk0 : Kept noX wr W0) (hS : SyAt W3 T' p S') (hTT : ∀ g, g < W0.heap.size → T' g = T g)
    (hk3 : Kept (fun g => T g ≠ 0) W0 W3) (hR : RV W3 (fun g => T' g ≠ 0 ∨ (T g ≠ 0 ∨ g = gW)) vs' R') (hL : Like S' R') (hO : OkR R' (n + 1)) (hz : SzR R R') (hz0 : SzR R0 R) (hk4 : Kept (· = gW) W3 W4) (hC : Cells W4 gW 33 vs') : LkI w W4 gW p R0 (n + 1) := by
  have h1 := hk.size
  have h2 := hk0.size
  have hgT : T' gW = 0 := by rw [hTT gW (by omega)]; exact hT.1
  refine ⟨T', vs', S', R', hS.kept hk4 (fun g e => by rw [e]; exact hgT), (hR.kept hk4 (fun g _ e => .inr (.inr e))).mono (fun g _ h => h.elim .inl (fun h => .inr (.inr h))), ⟨hL, hO, ⟨hz.1.trans hz0.1, hz.2.1.trans hz0.2.1, hz.2.2.trans hz0.2.2⟩⟩, hC, ⟨hgT, fun g hg' => ?_, hT.2.2⟩, ((hk.trans hk0).join hk3 (fun g h hl => by have := hT.2.1 g h; omega)).own hk4 hT.2.2⟩
  rcases Nat.lt_or_ge g W0.heap.size with hl | hl
  · exact hT.2.1 g (by rw [← hTT g hl]; exact hg')
  · omega
theorem LkI.keep {w wr W' : World} {gW p n : Nat} {R0 : RS} (h : LkI w wr gW p R0 n) (hk : Kept noX wr W') : LkI w W' gW p R0 n := by
  obtain ⟨T, vs, S, R, h1, h2, h3, h4, h5, h6⟩ := h
  exact ⟨T, vs, S, R, h1.keep hk, h2.keep hk, h3, h4.keep hk, h5, h6.trans hk⟩
theorem locks_skip (A : Option Addr) (n c : Nat) (w : World) (h : 100 < n) : Calls Try.prog 5 #[.slice A n c] w fun e w' => e = .returned (.bool true) ∧ Kept noX w w' := by
  have HW := Lib.hid (works_any w)
  have e3 : decide ((100 : Int) < (n : Int)) = true := by simp; omega
  clear h
  go_enter Try.func5, Try.ntmps5
  go_wp2_with (go_at_call 11; refine HW.out.mono ?_; rintro e W1 ⟨rfl, hk⟩)
  go_ret
  exact ⟨rfl, hk⟩
set_option maxRecDepth 100000 in
set_option maxHeartbeats 8000000 in
theorem locks_any (A : Option Addr) (c : Nat) (l : List AC) (w : World) (ha : ActsAt w A l) : Calls Try.prog 5 #[.slice A l.length c] w fun e w' => e = .returned (.bool true) ∧ Kept noX w w' := by
  by_cases h : 100 < l.length
  · exact locks_skip A l.length c w h
  have e3 : decide ((100 : Int) < (l.length : Int)) = false := by simp; omega
  have hl : l.length ≤ 100 := by omega
  have HN := Lib.hid (new_any 2 0 none 0 [] (by simp) w .nilrow)
  have hok : okN 2 0 [] = true := by simp [okN, inI]
  have HA := Lib.hid ha
  clear h ha
  go_enter Try.func5, Try.ntmps5
  go_wp2_with fail
  refine HN.out.mono ?_
  rintro e W1 (⟨_, p, T, rfl, h1, h2, h3⟩ | ⟨hf, _⟩)
  rotate_left
  · rw [hok] at hf; cases hf
  have HZ := Lib.hid (znew_ok 2 0 (by omega) (by omega) none 0 [] (by simp) rfl W1 .nilrow)
  have H1 := Lib.hid h1
  have H2 := Lib.hid h2
  have H3 := Lib.hid h3
  clear h1 h2 h3
  go_wp2_with fail
  refine HZ.out.mono ?_
  rintro e W2 ⟨vs, rfl, hR, hk2⟩
  have hL0 := like_init 2 0 []
  have hO0 := ok_init (m := 2) (c := 0) (rooms := []) (by omega) (by omega) (by simp) rfl
  have hZ0 : SzR (initR 2 0 []) (initR 2 0 []) := SzR.rfl'
  generalize hRR : initR 2 0 [] = R0 at hR hL0 hO0 hZ0
  have HR2 := Lib.hid hR
  obtain ⟨q0', q1', q2', q3', q4', hvs, r0', r1', r2', r3', r4'⟩ := hR
  obtain ⟨B0, n0', e0, rfl, hn0', -⟩ := r0'.form
  obtain ⟨B1, n1', e1, rfl, hn1', -⟩ := r1'.form
  obtain ⟨B2, n2', e2, rfl, hn2', -⟩ := r2'.form
  obtain ⟨B3, n3', e3, rfl, hn3', -⟩ := r3'.form
  obtain ⟨B4, n4', e4, rfl, hn4', -⟩ := r4'.form
  rw [List.length_map] at hn0' hn1' hn2' hn3' hn4'
  subst hn0' hn1' hn2' hn3' hn4'
  subst hvs
  clear r0' r1' r2' r3' r4'
  have HI : Hid (LkI w (W2.alloc (.cells #[.slice B0 R0.ow.length e0, .slice B1 R0.cs.length e1, .slice B2 R0.rm.length e2, .slice B3 R0.st.length e3, .slice B4 R0.tk.length e4] 33)) W2.heap.size p R0 0) := Lib.hid (by
    have hs1 := H3.out.size
    have hs2 := hk2.size
    have hts := H1.out.tagLt
    have hka : Kept noX W1 (W2.alloc (.cells #[.slice B0 R0.ow.length e0, .slice B1 R0.cs.length e1, .slice B2 R0.rm.length e2, .slice B3 R0.st.length e3, .slice B4 R0.tk.length e4] 33)) := hk2.alloc _
    refine ⟨T, _, _, R0, H1.out.keep hka, (HR2.out.mono (fun g hg h => ?_)).keep ((Kept.refl _ _).alloc _), ⟨hL0, hO0, hZ0⟩, Cells.fresh W2 33 _, ⟨Classical.byContradiction fun h => by have := hts _ h; omega, H2.out, by omega⟩, H3.out.trans hka⟩
    rcases h with h | h
    · exact hts g h
    · omega)
  clear HR2 hk2 H1 H2 H3 HN HZ hok
  go_wp2_with fail
  go_loopw [7] (fun i wr => ∃ k : Nat, k ≤ l.length ∧ i = .int .i64 k ∧ LkI w wr W2.heap.size p R0 k) (fun i _ => l.length - (intOf i).toNat)
  case atStart => exact ⟨0, Nat.zero_le _, rfl, HI.out⟩
  case round =>
    obtain ⟨k, hk, rfl, T1, vs, S, R, h1, h2, ⟨h3, h4, h5⟩, h6, h7, h8⟩ := hrel
    have HWK := Lib.hid (works_any wr)
    by_cases hlt : k < l.length
    · have hdl : decide ((k : Int) < (l.length : Int)) = true := by simpa using hlt
      obtain ⟨b, o', rfl, hcell⟩ := HA.out k hlt
      have p0 : wr.cell? ⟨b, o' + k * 4, none⟩ = some (.int .i64 l[k].what) := h8.cell (hcell 0 (by omega))
      have p1 : wr.cell? ⟨b, o' + k * 4 + 1, none⟩ = some (.int .i64 l[k].n) := h8.cell (hcell 1 (by omega))
      have p2 : wr.cell? ⟨b, o' + k * 4 + 2, none⟩ = some (.int .i64 l[k].t) := h8.cell (hcell 2 (by omega))
      have p3 : wr.cell? ⟨b, o' + k * 4 + 3, none⟩ = some (.int .i64 l[k].v) := h8.cell (hcell 3 (by omega))
      generalize l[k].what = a at *
      generalize l[k].n = nn at *
      generalize l[k].t = t at *
      generalize l[k].v = x at *
      have HR1 := Lib.hid h2
      have HS1 := Lib.hid h1
      have hgl := h6.lt
      have hts := h1.tagLt
      obtain ⟨q0', q1', q2', q3', q4', hvs, r0', r1', r2', r3', r4'⟩ := h2
      obtain ⟨D0, n0', d0, rfl, hn0', -⟩ := r0'.form
      obtain ⟨D1, n1', d1, rfl, hn1', -⟩ := r1'.form
      obtain ⟨D2, n2', d2, rfl, hn2', -⟩ := r2'.form
      obtain ⟨D3, n3', d3, rfl, hn3', -⟩ := r3'.form
      obtain ⟨D4, n4', d4, rfl, hn4', -⟩ := r4'.form
      rw [List.length_map] at hn0' hn1' hn2' hn3' hn4'
      subst hn0' hn1' hn2' hn3' hn4'
      subst hvs
      clear r0' r1' r2' r3' r4'
      have HL1 := Lib.hid h3
      have HO1 := Lib.hid h4
      have HZ1 := Lib.hid h5
      have HC1 := Lib.hid h6
      have HT1 := Lib.hid h7
      have HK1 := Lib.hid h8
      have HTS := Lib.hid hts
      clear h1 h3 h4 h5 h6 h7 h8 hts hcell HI
      by_cases a0 : a = 0
      · subst a0
        have hka : Kept noX wr (wr.alloc (.cells #[.int .i64 0, .int .i64 nn, .int .i64 t, .int .i64 x] 62)) := (Kept.refl _ _).alloc _
        have hC0 := HC1.out.keep hka
        have s0 := hC0.cell 0
        have s1 := hC0.cell 1
        have s2 := hC0.cell 2
        have s3 := hC0.cell 3
        have s4 := hC0.cell 4
        simp only [List.getElem?_cons_zero, List.getElem?_cons_succ] at s0 s1 s2 s3 s4
        have HB := Lib.hid (both_lock (HS1.out.keep hka) (HR1.out.keep hka) HL1.out HO1.out (by omega) (fun g hg => Or.inl hg) (fun g hg => by rw [World.size_alloc]; rcases hg with hg | hg; exact Nat.lt_succ_of_lt (HTS.out g hg); omega) nn t x)
        have HC0 := Lib.hid hC0
        have HKA := Lib.hid hka
        clear hC0 hka
        go_wp2_with fail
        (try clear aa0)
        (try clear dd2)
        (try clear dd4)
        (try clear aa3)
        refine HB.out.mono ?_
        rintro e W3 ⟨S', R', ⟨vs', T', rfl, hS', hTT, hk3, hR'⟩, hL', hO', hz'⟩
        have hC3 := HC0.out.kept hk3 (fun h => h HT1.out.1)
        have HR3 := Lib.hid hR'
        obtain ⟨q0', q1', q2', q3', q4', hvs, r0', r1', r2', r3', r4'⟩ := hR'
        obtain ⟨F0, n0', f0, rfl, hn0', -⟩ := r0'.form
        obtain ⟨F1, n1', f1, rfl, hn1', -⟩ := r1'.form
        obtain ⟨F2, n2', f2, rfl, hn2', -⟩ := r2'.form
        obtain ⟨F3, n3', f3, rfl, hn3', -⟩ := r3'.form
        obtain ⟨F4, n4', f4, rfl, hn4', -⟩ := r4'.form
        rw [List.length_map] at hn0' hn1' hn2' hn3' hn4'
        subst hn0' hn1' hn2' hn3' hn4'
        subst hvs
        clear r0' r1' r2' r3' r4'
        have hY := hC3.alloc (.cells #[.slice F0 R'.ow.length f0, .slice F1 R'.cs.length f1, .slice F2 R'.rm.length f2, .slice F3 R'.st.length f3, .slice F4 R'.tk.length f4] 33)
        have y0 := hY.cell 0
        have z0 := hY.free 0
        have y1 := hY.cell 1
        have z1 := hY.free 1
        have y2 := hY.cell 2
        have z2 := hY.free 2
        have y3 := hY.cell 3
        have z3 := hY.free 3
        have y4 := hY.cell 4
        have z4 := hY.free 4
        simp only [List.getElem?_cons_zero, List.getElem?_cons_succ] at y0 y1 y2 y3 y4
        have hk4 : Kept (· = W2.heap.size) W3 ((((((W3.alloc (.cells #[.slice F0 R'.ow.length f0, .slice F1 R'.cs.length f1, .slice F2 R'.rm.length f2, .slice F3 R'.st.length f3, .slice F4 R'.tk.length f4] 33)).setCell ⟨W2.heap.size, 0, none⟩ (.slice F0 R'.ow.length f0)).setCell ⟨W2.heap.size, 1, none⟩ (.slice F1 R'.cs.length f1)).setCell ⟨W2.heap.size, 2, none⟩ (.slice F2 R'.rm.length f2)).setCell ⟨W2.heap.size, 3, none⟩ (.slice F3 R'.st.length f3)).setCell ⟨W2.heap.size, 4, none⟩ (.slice F4 R'.tk.length f4)) := ((Kept.refl _ _).alloc _).trans (Kept.put5 _ _ _ _ _ _ _)
        have hC4 := ((((hY.put 0 (.slice F0 R'.ow.length f0)).put 1 (.slice F1 R'.cs.length f1)).put 2 (.slice F2 R'.rm.length f2)).put 3 (.slice F3 R'.st.length f3)).put 4 (.slice F4 R'.tk.length f4)
        simp only [List.set_cons_zero, List.set_cons_succ] at hC4
        have hgT : T' W2.heap.size = 0 := by rw [hTT W2.heap.size (by rw [World.size_alloc]; omega)]; exact HT1.out.1
        have hQ := is_any (hS'.kept hk4 (fun g e => by rw [e]; exact hgT)) (HR3.out.kept hk4 (fun g _ e => .inr (.inr e))).any hL'
        have hN := LkI.next HT1.out hgl HK1.out HKA.out hS' hTT hk3 HR3.out hL' hO' hz' HZ1.out hk4 hC4
        have HN := Lib.hid hN
        have HQ := Lib.hid hQ
        clear hY hC3 hC4 hk4 hN hQ hgT hS' hTT hk3 hL' hO' hz' HR3 HB HC0 HKA s0 s1 s2 s3 s4
        go_wp2_with fail
        refine HQ.out.mono ?_
        rintro e W5 ⟨rfl, hk5⟩
        have HM := Lib.hid (HN.out.keep hk5)
        clear HQ HN
        go_wp2_with fail
        go_roundw
        case rel => exact ⟨k + 1, hlt, by go_num, HM.out⟩
        case measure => simp [intOf]; omega
      · have a1 : (a != 0) = true := by simpa using a0
        have a2 : (a == 0) = false := by simpa using a0
        have hka : Kept noX wr (wr.alloc (.cells #[.int .i64 1, .int .i64 nn, .int .i64 t, .int .i64 x] 62)) := (Kept.refl _ _).alloc _
        have hC0 := HC1.out.keep hka
        have s0 := hC0.cell 0
        have s1 := hC0.cell 1
        have s2 := hC0.cell 2
        have s3 := hC0.cell 3
        have s4 := hC0.cell 4
        simp only [List.getElem?_cons_zero, List.getElem?_cons_succ] at s0 s1 s2 s3 s4
        have HB := Lib.hid (both_unlock (HS1.out.keep hka) (HR1.out.keep hka) HL1.out HO1.out (by omega) (fun g hg => Or.inl hg) (fun g hg => by rw [World.size_alloc]; rcases hg with hg | hg; exact Nat.lt_succ_of_lt (HTS.out g hg); omega) nn t x)
        have HC0 := Lib.hid hC0
        have HKA := Lib.hid hka
        clear hC0 hka
        go_wp2_with fail
        (try clear aa0)
        (try clear dd2)
        (try clear dd4)
        (try clear aa3)
        refine HB.out.mono ?_
        rintro e W3 ⟨S', R', ⟨vs', T', rfl, hS', hTT, hk3, hR'⟩, hL', hO', hz'⟩
        have hC3 := HC0.out.kept hk3 (fun h => h HT1.out.1)
        have HR3 := Lib.hid hR'
        obtain ⟨q0', q1', q2', q3', q4', hvs, r0', r1', r2', r3', r4'⟩ := hR'
        obtain ⟨F0, n0', f0, rfl, hn0', -⟩ := r0'.form
        obtain ⟨F1, n1', f1, rfl, hn1', -⟩ := r1'.form
        obtain ⟨F2, n2', f2, rfl, hn2', -⟩ := r2'.form
        obtain ⟨F3, n3', f3, rfl, hn3', -⟩ := r3'.form
        obtain ⟨F4, n4', f4, rfl, hn4', -⟩ := r4'.form
        rw [List.length_map] at hn0' hn1' hn2' hn3' hn4'
        subst hn0' hn1' hn2' hn3' hn4'
        subst hvs
        clear r0' r1' r2' r3' r4'
        have hY := hC3.alloc (.cells #[.slice F0 R'.ow.length f0, .slice F1 R'.cs.length f1, .slice F2 R'.rm.length f2, .slice F3 R'.st.length f3, .slice F4 R'.tk.length f4] 33)
        have y0 := hY.cell 0
        have z0 := hY.free 0
        have y1 := hY.cell 1
        have z1 := hY.free 1
        have y2 := hY.cell 2
        have z2 := hY.free 2
        have y3 := hY.cell 3
        have z3 := hY.free 3
        have y4 := hY.cell 4
        have z4 := hY.free 4
        simp only [List.getElem?_cons_zero, List.getElem?_cons_succ] at y0 y1 y2 y3 y4
        have hk4 : Kept (· = W2.heap.size) W3 ((((((W3.alloc (.cells #[.slice F0 R'.ow.length f0, .slice F1 R'.cs.length f1, .slice F2 R'.rm.length f2, .slice F3 R'.st.length f3, .slice F4 R'.tk.length f4] 33)).setCell ⟨W2.heap.size, 0, none⟩ (.slice F0 R'.ow.length f0)).setCell ⟨W2.heap.size, 1, none⟩ (.slice F1 R'.cs.length f1)).setCell ⟨W2.heap.size, 2, none⟩ (.slice F2 R'.rm.length f2)).setCell ⟨W2.heap.size, 3, none⟩ (.slice F3 R'.st.length f3)).setCell ⟨W2.heap.size, 4, none⟩ (.slice F4 R'.tk.length f4)) := ((Kept.refl _ _).alloc _).trans (Kept.put5 _ _ _ _ _ _ _)
        have hC4 := ((((hY.put 0 (.slice F0 R'.ow.length f0)).put 1 (.slice F1 R'.cs.length f1)).put 2 (.slice F2 R'.rm.length f2)).put 3 (.slice F3 R'.st.length f3)).put 4 (.slice F4 R'.tk.length f4)
        simp only [List.set_cons_zero, List.set_cons_succ] at hC4
        have hgT : T' W2.heap.size = 0 := by rw [hTT W2.heap.size (by rw [World.size_alloc]; omega)]; exact HT1.out.1
        have hQ := is_any (hS'.kept hk4 (fun g e => by rw [e]; exact hgT)) (HR3.out.kept hk4 (fun g _ e => .inr (.inr e))).any hL'
        have hN := LkI.next HT1.out hgl HK1.out HKA.out hS' hTT hk3 HR3.out hL' hO' hz' HZ1.out hk4 hC4
        have HN := Lib.hid hN
        have HQ := Lib.hid hQ
        clear hY hC3 hC4 hk4 hN hQ hgT hS' hTT hk3 hL' hO' hz' HR3 HB HC0 HKA s0 s1 s2 s3 s4
        go_wp2_with fail
        refine HQ.out.mono ?_
        rintro e W5 ⟨rfl, hk5⟩
        have HM := Lib.hid (HN.out.keep hk5)
        clear HQ HN
        go_wp2_with fail
        go_roundw
        case rel => exact ⟨k + 1, hlt, by go_num, HM.out⟩
        case measure => simp [intOf]; omega
    · have hdl : decide ((k : Int) < (l.length : Int)) = false := by simpa using hlt
      clear h1 h2 h3 h4 h5 h6 h7 HI
      go_wp2_with (go_at_call 23; refine (num_any _ _).mono ?_; rintro e Wn ⟨rfl, rfl⟩)
      refine HWK.out.mono ?_
      rintro e W4 ⟨rfl, hk4⟩
      go_wp2_with fail
      go_ret
      exact ⟨rfl, h8.trans hk4⟩
end Go.Proofs.Ytehcfahfbdphpaa
namespace Go.Proofs.Ytehcfahfbdphpaa
open Go.RowKit Go.Shelf

section
variable {w : World} {T : Nat → Nat} {p : Nat} {S : SS} {vs : List Value} {R : RS} {Z0 : Nat → Prop} {n : Nat}
theorem Like.setC (h : Like S R) (i : Nat) (l : List Int) : Like { S with cs := S.cs.set i l } { R with cs := R.cs.set i l } := ⟨h.os, by show S.cs.set i l = R.cs.set i l; rw [h.cs], h.qs, h.st, h.tk, h.q⟩
theorem OkR.setC (h : OkR R n) (i : Nat) (l : List Int) (hl : l.length ≤ n + 1) (ht : ∀ y ∈ l, (0 : Int) ≤ y) : OkR { R with cs := R.cs.set i l } (n + 1) := by
  refine ⟨h.ow, fun j hj => ?_, fun j hj => by have := h.st j hj; exact Nat.le_succ_of_le this, fun l' hl' y hy => ?_, h.full, by have := h.sz; simpa using this⟩
  · have hj' : j < R.cs.length := by simpa using hj
    show ((R.cs.set i l)[j]'_).length ≤ n + 1
    rw [List.getElem_set]
    split
    · exact hl
    · have := h.cs j hj'; omega
  · rcases List.mem_or_eq_of_mem_set hl' with h1 | h1
    · exact h.th l' h1 y hy
    · rw [h1] at hy; exact ht y hy
variable (hS : SyAt w T p S) (h : RV w Z0 vs R) (hL : Like S R) (hO : OkR R n) (hn : n ≤ 1000000) (hTZ : ∀ g, T g ≠ 0 → Z0 g) (hZs : ∀ g, Z0 g → g < w.heap.size)
include hS h hL hO hn hTZ hZs
theorem both_wait (m t v : Int) : Calls Try.prog 32 #[.pointer (some ⟨p, 0, none⟩), .agg vs.toArray, .agg #[.int .i64 2, .int .i64 m, .int .i64 t, .int .i64 v]] w (BP w T Z0 p R n) := by
  have hwe : ∀ wb, R.cs.flatten.any (· == t) = wb → S.cs.flatten.any (· == t) = wb := fun wb h => by rw [hL.cs]; exact h
  rcases out_or (m := m) (k := R.cs.length) with hm | ⟨i, rfl, hi⟩
  · exact (act_wait hS h.any hTZ (no := 4) (fun W0 hk hs => (zwait_out (h.any.keep hk) m hm).mono (fun e W' he => ⟨⟨vs, he.1, rv_zt h (hk.trans he.2)⟩, he.2⟩))
      (fun W1 hS1 => (wait_out hS1 t (hwe _ rfl) m (by rw [hL.lenC]; exact hm)).mono (fun e W' he => ⟨he.1, hS1.same he.2⟩))).mono (fun e W' he => BP.same he hL hO)
  · have hi' : i < S.cs.length := by rw [hL.lenC]; exact hi
    have hse : S.cs[i] = R.cs[i] := by simp [hL.cs]
    have hln := hO.cs i hi
    cases ht : inI 0 7 t with
    | false =>
      exact (act_wait hS h.any hTZ (no := 2) (fun W0 hk hs => (zwait_bad (h.any.keep hk) i hi ht).mono (fun e W' he => ⟨⟨vs, he.1, rv_zt h (hk.trans he.2)⟩, he.2⟩))
        (fun W1 hS1 => (wait_no hS1 t (hwe _ rfl) i hi' 2 rfl (by rw [ht]; cases !(R.cs.flatten.any (· == t)) <;> rfl)).mono (fun e W' he => ⟨he.1, hS1.same he.2⟩))).mono (fun e W' he => BP.same he hL hO)
    | true =>
      cases hwb : R.cs.flatten.any (· == t) with
      | true =>
        exact (act_wait hS h.any hTZ (no := 141) (fun W0 hk hs => (zwait_in (h.any.keep hk) (hO.rb (by omega)) i hi ht (by omega) hwb).mono (fun e W' he => by
            rcases he.1 with ⟨_, h1⟩ | ⟨h1, _⟩
            · exact ⟨⟨vs, h1, rv_zt h (hk.trans he.2)⟩, he.2⟩
            · cases h1))
          (fun W1 hS1 => (wait_no hS1 t (hwe _ hwb) i hi' 141 rfl (by rw [ht]; rfl)).mono (fun e W' he => ⟨he.1, hS1.same he.2⟩))).mono (fun e W' he => BP.same he hL hO)
      | false =>
        exact (act_wait hS h.any hTZ (no := 0) (S' := { S with cs := S.cs.set i (S.cs[i] ++ [t]) }) (R' := { R with cs := R.cs.set i (R.cs[i] ++ [t]) }) (fun W0 hk hs => (zwait_in (h.any.keep hk) (hO.rb (by omega)) i hi ht (by omega) hwb).mono (fun e W' he => by
            rcases he.1 with ⟨h1, _⟩ | ⟨_, vs', h1, h2⟩
            · cases h1
            · exact ⟨⟨vs', h1, rv_zt2 hZs hs h2⟩, he.2⟩))
          (fun W1 hS1 => wait_ok hS1 t (hwe _ hwb) i hi' (by rw [ht]; rfl) (by rw [hse]; omega))).mono (fun e W' he => ⟨_, _, he, by rw [hse]; exact hL.setC i _, hO.setC i _ (by simp; omega) (fun y hy => by
            rcases List.mem_append.1 hy with h1 | h1
            · exact hO.th _ (List.getElem_mem hi) y h1
            · obtain rfl := List.mem_singleton.1 h1
              simp [inI] at ht; omega), ⟨rfl, by simp, rfl⟩⟩)
theorem both_signal (m t v : Int) : Calls Try.prog 32 #[.pointer (some ⟨p, 0, none⟩), .agg vs.toArray, .agg #[.int .i64 3, .int .i64 m, .int .i64 t, .int .i64 v]] w (BP w T Z0 p R n) := by
  rcases out_or (m := m) (k := R.cs.length) with hm | ⟨i, rfl, hi⟩
  · exact (act_signal hS h.any hTZ (tt := -1) (u := 0) (ok := false) (no := 4) (.inl ⟨rfl, rfl, rfl⟩) (fun W0 hk hs => (zsignal_out (h.any.keep hk) m hm).mono (fun e W' he => ⟨⟨vs, he.1, rv_zt h (hk.trans he.2)⟩, he.2⟩))
      (fun W1 hS1 => (signal_out hS1 m (by rw [hL.lenC]; exact hm)).mono (fun e W' he => ⟨he.1, hS1.same he.2⟩))).mono (fun e W' he => BP.same he hL hO)
  · have hi' : i < S.cs.length := by rw [hL.lenC]; exact hi
    have hse : S.cs[i] = R.cs[i] := by simp [hL.cs]
    have hln := hO.cs i hi
    cases hx : R.cs[i] with
    | nil =>
      exact (act_signal hS h.any hTZ (tt := -1) (u := 0) (ok := false) (no := 0) (.inl ⟨rfl, rfl, rfl⟩) (fun W0 hk hs => (zsignal_nil (h.any.keep hk) i hi hx).mono (fun e W' he => ⟨⟨vs, he.1, rv_zt h (hk.trans he.2)⟩, he.2⟩))
        (fun W1 hS1 => (signal_nil hS1 i hi' (hse.trans hx)).mono (fun e W' he => ⟨he.1, hS1.same he.2⟩))).mono (fun e W' he => BP.same he hL hO)
    | cons x r =>
      have hx0 : 0 ≤ x := hO.th _ (List.getElem_mem hi) x (by rw [hx]; simp)
      exact (act_signal hS h.any hTZ (tt := x) (u := x) (ok := true) (no := 0) (.inr ⟨hx0, rfl, rfl⟩) (S' := { S with cs := S.cs.set i r }) (R' := { R with cs := R.cs.set i r }) (fun W0 hk hs => (zsignal_some (h.any.keep hk) (hO.rb (by omega)) i hi x r hx).mono (fun e W' he => by
            obtain ⟨⟨vs', h1, h2⟩, h3⟩ := he
            exact ⟨⟨vs', h1, rv_zt2 hZs hs h2⟩, h3⟩))
          (fun W1 hS1 => signal_some hS1 i hi' x r (hse.trans hx))).mono (fun e W' he => ⟨_, _, he, hL.setC i _, hO.setC i _ (by rw [hx] at hln; simp at hln; omega) (fun y hy => hO.th _ (List.getElem_mem hi) y (by rw [hx]; exact List.mem_cons_of_mem _ hy)), ⟨rfl, by simp, rfl⟩⟩)
theorem both_all (m t v : Int) : Calls Try.prog 32 #[.pointer (some ⟨p, 0, none⟩), .agg vs.toArray, .agg #[.int .i64 4, .int .i64 m, .int .i64 t, .int .i64 v]] w (BP w T Z0 p R n) := by
  rcases out_or (m := m) (k := R.cs.length) with hm | ⟨i, rfl, hi⟩
  · exact (act_all hS h.any hTZ (no := 4) (xs := []) (by simp) (fun W0 hk hs => (zall_out (h.any.keep hk) m hm).mono (fun e W' he => ⟨⟨vs, none, 0, he.1, rv_zt h (hk.trans he.2), .nilrow⟩, he.2⟩))
      (fun W1 hS1 => (all_out hS1 m (by rw [hL.lenC]; exact hm)).mono (fun e W' he => ⟨⟨none, 0, he.1, .nilrow⟩, hS1.same he.2⟩))).mono (fun e W' he => BP.same he hL hO)
  · have hi' : i < S.cs.length := by rw [hL.lenC]; exact hi
    have hse : S.cs[i] = R.cs[i] := by simp [hL.cs]
    have hln := hO.cs i hi
    have hz : ∀ W0, Kept noX w W0 → W0.heap.size = w.heap.size + 3 → Calls Try.prog 62 #[.agg vs.toArray, .int .i64 i] W0 fun e W' => (∃ vs' A c, e = .returned (.tuple #[.agg vs'.toArray, .slice A R.cs[i].length c, .int .i64 0]) ∧ RV W' (ZT Z0 w.heap.size (w.heap.size + 3)) vs' { R with cs := R.cs.set i [] } ∧ RowV W' Z0 (.slice A R.cs[i].length c) (dI R.cs[i])) ∧ Kept noX W0 W' :=
      fun W0 hk hs => (zall_in (h.any.keep hk) (h.keep hk) (hO.rb (by omega)) i hi).mono (fun e W' he => by
        obtain ⟨⟨vs', A, c, h1, h2, h3⟩, h4⟩ := he
        exact ⟨⟨vs', A, c, h1, rv_zt2 hZs hs h2, h3⟩, h4⟩)
    have hfin : ∀ e W', AP w T Z0 p { S with cs := S.cs.set i [] } { R with cs := R.cs.set i [] } e W' → BP w T Z0 p R n e W' := fun e W' he => ⟨_, _, he, hL.setC i _, hO.setC i _ (by simp) (fun y hy => by cases hy), ⟨rfl, by simp, rfl⟩⟩
    refine (act_all hS h.any hTZ (no := 0) (xs := R.cs[i]) (by omega) (S' := { S with cs := S.cs.set i [] }) hz (fun W1 hS1 => ?_)).mono hfin
    cases hx : R.cs[i] with
    | nil =>
      refine (all_nil hS1 i hi' (hse.trans hx)).mono (fun e W' he => ⟨⟨none, 0, he.1, .nilrow⟩, ?_⟩)
      have e1 : ({ S with cs := S.cs.set i [] } : SS) = S := by
        have : S.cs.set i [] = S.cs := by
          have h0 : S.cs[i] = [] := hse.trans hx
          conv => rhs; rw [← List.set_getElem_self hi']
          rw [h0]
        rw [this]
      rw [e1]
      exact hS1.same he.2
    | cons x r =>
      refine (all_some hS1 i hi' x r (hse.trans hx)).mono (fun e W' he => ?_)
      obtain ⟨⟨v, h1, h2⟩, h3⟩ := he
      obtain ⟨A, c, rfl, _, _⟩ := own_formN h2
      exact ⟨⟨A, c, h1, own_row (own_low h2 (Nat.zero_le _)) (fun _ _ h => h)⟩, h3⟩
end
end Go.Proofs.Ytehcfahfbdphpaa
namespace Go.Proofs.Ytehcfahfbdphpaa
open Go.RowKit Go.Shelf

section
variable {w : World} {T : Nat → Nat} {p : Nat} {S : SS} {vs : List Value} {R : RS} {Z0 : Nat → Prop} {n : Nat}
theorem Like.qi (h : Like S R) (i : Nat) (hi : i < R.rm.length) (h1 : i < S.qs.length) (h2 : i < R.st.length) (h3 : i < R.tk.length) : S.qs[i] = ⟨R.st[i].drop R.tk[i], R.rm[i], (R.st[i].length : Int)⟩ ∧ R.tk[i] ≤ R.st[i].length ∧ R.st[i].length ≤ 1000000000 := h.q i hi
theorem Like.sent (h : Like S R) (i : Nat) (hi : i < R.rm.length) (h2 : i < R.st.length) (h3 : i < R.tk.length) (hl : R.st[i].length < 1000000000) (t : Int) : Like { S with qs := S.qs.set i ⟨R.st[i].drop R.tk[i] ++ [t], R.rm[i], (R.st[i].length : Int) + 1⟩ } { R with st := R.st.set i (R.st[i] ++ [t]) } := by
  have hq := h.qi i hi (by rw [h.qs]; exact hi) h2 h3
  refine ⟨h.os, h.cs, by simpa using h.qs, by simpa using h.st, h.tk, fun j hj => ?_⟩
  have hj1 : j < S.qs.length := by rw [h.qs]; exact hj
  have hj2 : j < R.st.length := by rw [h.st]; exact hj
  have hj3 : j < R.tk.length := by rw [h.tk]; exact hj
  show (S.qs.set i _)[j]'_ = ⟨((R.st.set i _)[j]'_).drop (R.tk[j]'_), R.rm[j]'_, (((R.st.set i _)[j]'_).length : Int)⟩ ∧ R.tk[j]'_ ≤ ((R.st.set i _)[j]'_).length ∧ ((R.st.set i _)[j]'_).length ≤ 1000000000
  by_cases hij : i = j
  · subst hij
    simp only [List.getElem_set_self]
    refine ⟨?_, ?_, ?_⟩
    · rw [List.drop_append_of_le_length hq.2.1, List.length_append]
      rfl
    · rw [List.length_append]; have := hq.2.1; omega
    · rw [List.length_append]; simp; omega
  · simp only [List.getElem_set_ne hij]
    exact h.qi j hj hj1 hj2 hj3
theorem Like.taken (h : Like S R) (i : Nat) (hi : i < R.rm.length) (h2 : i < R.st.length) (h3 : i < R.tk.length) {x : Int} {r : List Int} (hx : R.st[i].drop R.tk[i] = x :: r) : Like { S with qs := S.qs.set i ⟨r, R.rm[i], (R.st[i].length : Int)⟩ } { R with tk := R.tk.set i (R.tk[i] + 1) } := by
  have hq := h.qi i hi (by rw [h.qs]; exact hi) h2 h3
  have htl : R.tk[i] < R.st[i].length := by
    have h1 : (R.st[i].drop R.tk[i]).length = r.length + 1 := by rw [hx]; rfl
    rw [List.length_drop] at h1
    omega
  have hr : R.st[i].drop (R.tk[i] + 1) = r := by
    have h1 := List.drop_eq_getElem_cons htl
    rw [hx] at h1
    injection h1 with _ h1
    exact h1.symm
  refine ⟨h.os, h.cs, by simpa using h.qs, h.st, by simpa using h.tk, fun j hj => ?_⟩
  have hj1 : j < S.qs.length := by rw [h.qs]; exact hj
  have hj2 : j < R.st.length := by rw [h.st]; exact hj
  have hj3 : j < R.tk.length := by rw [h.tk]; exact hj
  show (S.qs.set i _)[j]'_ = ⟨(R.st[j]'_).drop ((R.tk.set i _)[j]'_), R.rm[j]'_, ((R.st[j]'_).length : Int)⟩ ∧ (R.tk.set i _)[j]'_ ≤ (R.st[j]'_).length ∧ (R.st[j]'_).length ≤ 1000000000
  by_cases hij : i = j
  · subst hij
    simp only [List.getElem_set_self]
    exact ⟨by rw [hr], by omega, hq.2.2⟩
  · simp only [List.getElem_set_ne hij]
    exact h.qi j hj hj1 hj2 hj3
theorem OkR.sent (h : OkR R n) (i : Nat) (hi : i < R.rm.length) (h2 : i < R.st.length) (h3 : i < R.tk.length) (hf : ¬ R.rm[i] ≤ ((R.st[i].drop R.tk[i]).length : Int)) (t : Int) : OkR { R with st := R.st.set i (R.st[i] ++ [t]) } (n + 1) := by
  refine ⟨h.ow, fun j hj => Nat.le_succ_of_le (h.cs j hj), fun j hj => ?_, h.th, fun j hj hj1 hj2 => ?_, by have := h.sz; simpa using this⟩
  · have hj' : j < R.st.length := by simpa using hj
    show ((R.st.set i _)[j]'_).length ≤ n + 1
    rw [List.getElem_set]
    split
    · have := h.st i h2; simp; omega
    · exact Nat.le_succ_of_le (h.st j hj')
  · have hj' : j < R.st.length := by simpa using hj
    show ((((R.st.set i _)[j]'_).length - R.tk[j]'_ : Nat) : Int) ≤ R.rm[j]'_
    by_cases hij : i = j
    · subst hij
      simp only [List.getElem_set_self, List.length_append, List.length_cons, List.length_nil]
      rw [List.length_drop] at hf
      omega
    · simp only [List.getElem_set_ne hij]
      exact h.full j hj' hj1 hj2
theorem OkR.taken (h : OkR R n) (i : Nat) : OkR { R with tk := R.tk.set i (R.tk[i]?.getD 0 + 1) } (n + 1) := by
  refine ⟨h.ow, fun j hj => Nat.le_succ_of_le (h.cs j hj), fun j hj => Nat.le_succ_of_le (h.st j hj), h.th, fun j hj hj1 hj2 => ?_, by have := h.sz; simpa using this⟩
  have hj1' : j < R.tk.length := by simpa using hj1
  have hf := h.full j hj hj1' hj2
  show (((R.st[j]'_).length - (R.tk.set i _)[j]'_ : Nat) : Int) ≤ R.rm[j]'_
  by_cases hij : i = j
  · subst hij
    simp only [List.getElem_set_self, List.getElem?_eq_getElem hj1', Option.getD_some]
    have hf' : ((R.st[i].length - R.tk[i] : Nat) : Int) ≤ R.rm[i] := hf
    omega
  · simp only [List.getElem_set_ne hij]
    exact hf
variable (hS : SyAt w T p S) (h : RV w Z0 vs R) (hL : Like S R) (hO : OkR R n) (hn : n ≤ 1000000) (hTZ : ∀ g, T g ≠ 0 → Z0 g) (hZs : ∀ g, Z0 g → g < w.heap.size)
include hS h hL hO hn hTZ hZs
theorem both_send (m t v : Int) : Calls Try.prog 32 #[.pointer (some ⟨p, 0, none⟩), .agg vs.toArray, .agg #[.int .i64 5, .int .i64 m, .int .i64 t, .int .i64 v]] w (BP w T Z0 p R n) := by
  rcases out_or (m := m) (k := R.rm.length) with hm | ⟨i, rfl, hi⟩
  · exact (act_send hS h.any hTZ (tt := -1) (u := 0) (ok := false) (no := 4) (.inl ⟨rfl, rfl, rfl⟩) (fun W0 hk hs => (zsend_out (h.any.keep hk) m hm).mono (fun e W' he => ⟨⟨vs, he.1, rv_zt h (hk.trans he.2)⟩, he.2⟩))
      (fun W1 hS1 => (send_out hS1 v m (by rw [hL.qs]; exact hm)).mono (fun e W' he => ⟨he.1, hS1.same he.2⟩))).mono (fun e W' he => BP.same he hL hO)
  · have hi1 : i < S.qs.length := by rw [hL.qs]; exact hi
    have hi2 : i < R.st.length := by rw [hL.st]; exact hi
    have hi3 : i < R.tk.length := by rw [hL.tk]; exact hi
    have hq := hL.qi i hi hi1 hi2 hi3
    have hln := hO.st i hi2
    have hfu := hO.full i hi2 hi3 hi
    have hsz := hO.sz
    cases ht : inI (-2147483648) 2147483647 v with
    | false =>
      exact (act_send hS h.any hTZ (tt := -1) (u := 0) (ok := false) (no := 2) (.inl ⟨rfl, rfl, rfl⟩) (fun W0 hk hs => (zsend_bad (h.any.keep hk) i hi ht).mono (fun e W' he => ⟨⟨vs, he.1, rv_zt h (hk.trans he.2)⟩, he.2⟩))
        (fun W1 hS1 => (send_bad hS1 v i hi1 ht).mono (fun e W' he => ⟨he.1, hS1.same he.2⟩))).mono (fun e W' he => BP.same he hL hO)
    | true =>
      by_cases hf : R.rm[i] ≤ ((R.st[i].drop R.tk[i]).length : Int)
      · have hfe : (S.qs[i].it.length : Int) = S.qs[i].room := by
          rw [hq.1]
          show ((R.st[i].drop R.tk[i]).length : Int) = R.rm[i]
          rw [List.length_drop] at hf ⊢
          omega
        exact (act_send hS h.any hTZ (tt := -1) (u := 0) (ok := false) (no := 0) (.inl ⟨rfl, rfl, rfl⟩) (fun W0 hk hs => (zsend_full (h.any.keep hk) i hi hL.st hL.tk hq.2.1 ⟨by omega, hq.2.2⟩ ht hf).mono (fun e W' he => ⟨⟨vs, he.1, rv_zt h (hk.trans he.2)⟩, he.2⟩))
          (fun W1 hS1 => (send_full hS1 v i hi1 ht hfe).mono (fun e W' he => ⟨he.1, hS1.same he.2⟩))).mono (fun e W' he => BP.same he hL hO)
      · have hfe : ¬ (S.qs[i].it.length : Int) = S.qs[i].room := by
          rw [hq.1]
          show ¬ ((R.st[i].drop R.tk[i]).length : Int) = R.rm[i]
          omega
        refine (act_send hS h.any hTZ (tt := R.st[i].length) (u := R.st[i].length) (ok := true) (no := 0) (.inr ⟨by omega, rfl, rfl⟩) (S' := { S with qs := S.qs.set i ⟨R.st[i].drop R.tk[i] ++ [v], R.rm[i], (R.st[i].length : Int) + 1⟩ }) (R' := { R with st := R.st.set i (R.st[i] ++ [v]) }) (fun W0 hk hs => (zsend_ok (h.any.keep hk) (hO.rb (by omega)) i hi hL.st hL.tk hq.2.1 ⟨by omega, by omega⟩ ht hf).mono (fun e W' he => by
            obtain ⟨⟨vs', h1, h2⟩, h3⟩ := he
            exact ⟨⟨vs', h1, rv_zt2 hZs hs h2⟩, h3⟩))
          (fun W1 hS1 => ?_)).mono (fun e W' he => ⟨_, _, he, hL.sent i hi hi2 hi3 (by omega) v, hO.sent i hi hi2 hi3 hf v, ⟨rfl, rfl, rfl⟩⟩)
        have hc := send_ok hS1 v i hi1 ht hfe (by rw [hq.1]; show (R.st[i].drop R.tk[i]).length < 1000000000; rw [List.length_drop]; omega) (by rw [hq.1]; show (0 : Int) ≤ (R.st[i].length : Int); omega) (by rw [hq.1]; show (R.st[i].length : Int) ≤ 1000000000000; omega)
        rw [hq.1] at hc
        exact hc
theorem both_recv (q : Int) (hqq : (q == 0) = false ∧ (q == 1) = false ∧ (q == 2) = false ∧ (q == 3) = false ∧ (q == 4) = false ∧ (q == 5) = false) (m t v : Int) : Calls Try.prog 32 #[.pointer (some ⟨p, 0, none⟩), .agg vs.toArray, .agg #[.int .i64 q, .int .i64 m, .int .i64 t, .int .i64 v]] w (BP w T Z0 p R n) := by
  rcases out_or (m := m) (k := R.rm.length) with hm | ⟨i, rfl, hi⟩
  · exact (act_recv hS h.any hTZ hqq (tt := -1) (u := 0) (ok := false) (no := 4) (y := 0) (.inl ⟨rfl, rfl, rfl⟩) (fun W0 hk hs => (zrecv_out (h.any.keep hk) m hm).mono (fun e W' he => ⟨⟨vs, he.1, rv_zt h (hk.trans he.2)⟩, he.2⟩))
      (fun W1 hS1 => (recv_out hS1 m (by rw [hL.qs]; exact hm)).mono (fun e W' he => ⟨he.1, hS1.same he.2⟩))).mono (fun e W' he => BP.same he hL hO)
  · have hi1 : i < S.qs.length := by rw [hL.qs]; exact hi
    have hi2 : i < R.st.length := by rw [hL.st]; exact hi
    have hi3 : i < R.tk.length := by rw [hL.tk]; exact hi
    have hq := hL.qi i hi hi1 hi2 hi3
    have hln := hO.st i hi2
    have hsz := hO.sz
    cases hx : R.st[i].drop R.tk[i] with
    | nil =>
      exact (act_recv hS h.any hTZ hqq (tt := -1) (u := 0) (ok := false) (no := 0) (y := 0) (.inl ⟨rfl, rfl, rfl⟩) (fun W0 hk hs => (zrecv_nil (h.any.keep hk) i hi hL.st hL.tk hq.2.1 ⟨by omega, hq.2.2⟩ hx).mono (fun e W' he => ⟨⟨vs, he.1, rv_zt h (hk.trans he.2)⟩, he.2⟩))
        (fun W1 hS1 => (recv_nil hS1 i hi1 (by rw [hq.1]; exact hx)).mono (fun e W' he => ⟨he.1, hS1.same he.2⟩))).mono (fun e W' he => BP.same he hL hO)
    | cons x r =>
      have hrl : R.st[i].length - R.tk[i] = r.length + 1 := by
        have h1 : (R.st[i].drop R.tk[i]).length = r.length + 1 := by rw [hx]; rfl
        rwa [List.length_drop] at h1
      have hq2 := hq.2.1
      have hok := hO.taken i
      rw [List.getElem?_eq_getElem hi3, Option.getD_some] at hok
      refine (act_recv hS h.any hTZ hqq (tt := R.tk[i]) (u := R.tk[i]) (ok := true) (no := 0) (y := x) (.inr ⟨by omega, rfl, rfl⟩) (S' := { S with qs := S.qs.set i ⟨r, R.rm[i], (R.st[i].length : Int)⟩ }) (R' := { R with tk := R.tk.set i (R.tk[i] + 1) }) (fun W0 hk hs => (zrecv_some (h.any.keep hk) (hO.rb (by omega)) i hi hL.st hL.tk hq.2.1 ⟨by omega, hq.2.2⟩ x r hx).mono (fun e W' he => by
            obtain ⟨⟨vs', h1, h2⟩, h3⟩ := he
            exact ⟨⟨vs', h1, rv_zt2 hZs hs h2⟩, h3⟩))
          (fun W1 hS1 => ?_)).mono (fun e W' he => ⟨_, _, he, hL.taken i hi hi2 hi3 hx, hok, ⟨rfl, rfl, rfl⟩⟩)
      have hc := recv_some hS1 i hi1 x r (by rw [hq.1]; exact hx) (by rw [hq.1]; show (0 : Int) ≤ (R.st[i].length : Int); omega) (by rw [hq.1]; show (R.st[i].length : Int) ≤ 1000000000000; omega)
      rw [hq.1] at hc
      have he : ((R.st[i].length : Int) - ((r.length + 1 : Nat) : Int)) = (R.tk[i] : Int) := by omega
      refine hc.mono (fun e W' h1 => ⟨?_, h1.2⟩)
      rw [h1.1]
      show Ending.returned (.tuple #[.int .i64 x, .int .i64 ((R.st[i].length : Int) - ((r.length + 1 : Nat) : Int)), .bool true, .int .i64 0]) = _
      rw [he]
end
end Go.Proofs.Ytehcfahfbdphpaa
namespace Go.Proofs.Ytehcfahfbdphpaa
open Go.RowKit Go.Shelf

set_option maxRecDepth 100000 in
set_option maxHeartbeats 1000000 in
theorem znew_range (m c : Int) (A : Option Addr) (n rc : Nat) (h : m < 0 ∨ 64 < m ∨ c < 0 ∨ 64 < c ∨ 64 < n) (w : World) : Calls Try.prog 13 #[.int .i64 m, .int .i64 c, .slice A n rc] w fun e w' => e = .returned (.tuple #[.agg #[.slice none 0 0, .slice none 0 0, .slice none 0 0, .slice none 0 0, .slice none 0 0], .int .i64 2]) ∧ Kept noX w w' := by
  by_cases h0 : m < 0
  · have e0 : decide (m < 0) = true := by simpa using h0
    clear h
    go_enter Try.func13, Try.ntmps13
    go_wp2_with fail
    refine ret_2 Try.results13 rfl (resVal.box rfl ((Cells.fresh w 33 z5).alloc _) Try.underlying33 rfl (by kernel_rfl)) (resVal.tmp rfl) ?_
    exact ⟨rfl, ((Kept.refl _ _).alloc _).alloc _⟩
  have e0 : decide (m < 0) = false := by simpa using h0
  by_cases h1 : 64 < m
  · have e1 : decide ((64 : Int) < m) = true := by simpa using h1
    clear h
    go_enter Try.func13, Try.ntmps13
    go_wp2_with fail
    refine ret_2 Try.results13 rfl (resVal.box rfl ((Cells.fresh w 33 z5).alloc _) Try.underlying33 rfl (by kernel_rfl)) (resVal.tmp rfl) ?_
    exact ⟨rfl, ((Kept.refl _ _).alloc _).alloc _⟩
  have e1 : decide ((64 : Int) < m) = false := by simpa using h1
  by_cases h2 : c < 0
  · have e2 : decide (c < 0) = true := by simpa using h2
    clear h
    go_enter Try.func13, Try.ntmps13
    go_wp2_with fail
    refine ret_2 Try.results13 rfl (resVal.box rfl ((Cells.fresh w 33 z5).alloc _) Try.underlying33 rfl (by kernel_rfl)) (resVal.tmp rfl) ?_
    exact ⟨rfl, ((Kept.refl _ _).alloc _).alloc _⟩
  have e2 : decide (c < 0) = false := by simpa using h2
  by_cases h3 : 64 < c
  · have e3 : decide ((64 : Int) < c) = true := by simpa using h3
    clear h
    go_enter Try.func13, Try.ntmps13
    go_wp2_with fail
    refine ret_2 Try.results13 rfl (resVal.box rfl ((Cells.fresh w 33 z5).alloc _) Try.underlying33 rfl (by kernel_rfl)) (resVal.tmp rfl) ?_
    exact ⟨rfl, ((Kept.refl _ _).alloc _).alloc _⟩
  have e3 : decide ((64 : Int) < c) = false := by simpa using h3
  have hn : 64 < n := by omega
  have e4 : decide ((64 : Int) < (n : Int)) = true := by simp; omega
  clear h
  go_enter Try.func13, Try.ntmps13
  go_wp2_with fail
  refine ret_2 Try.results13 rfl (resVal.box rfl ((Cells.fresh w 33 z5).alloc _) Try.underlying33 rfl (by kernel_rfl)) (resVal.tmp rfl) ?_
  exact ⟨rfl, ((Kept.refl _ _).alloc _).alloc _⟩
set_option maxRecDepth 100000 in
set_option maxHeartbeats 4000000 in
theorem znew_room (m c : Nat) (hm : m ≤ 64) (hc : c ≤ 64) (A : Option Addr) (rc : Nat) (rooms : List Int) (hr : rooms.length ≤ 64) (hbad : rooms.all (inI 1 16) = false) (w : World) (hv : RowV w noX (.slice A rooms.length rc) (dI rooms)) :
    Calls Try.prog 13 #[.int .i64 m, .int .i64 c, .slice A rooms.length rc] w fun e w' => e = .returned (.tuple #[.agg #[.slice none 0 0, .slice none 0 0, .slice none 0 0, .slice none 0 0, .slice none 0 0], .int .i64 2]) ∧ Kept noX w w' := by
  have hmL := run_makeL c hc
  have hmS := run_makeL64 rooms.length hr
  have hmI := run_makeI rooms.length hr
  have HV := Lib.hid hv
  have HBAD := Lib.hid hbad
  clear hbad
  have e1 : decide ((m : Int) < 0) = false := by simp
  have e2 : decide ((64 : Int) < (m : Int)) = false := by simp; omega
  have e3 : decide ((c : Int) < 0) = false := by simp
  have e4 : decide ((64 : Int) < (c : Int)) = false := by simp; omega
  have e5 : decide ((64 : Int) < (rooms.length : Int)) = false := by simp; omega
  obtain ⟨i0, hi0, hz0, hz1, hz2⟩ := info_parts infoI
  clear hv
  go_enter Try.func13, Try.ntmps13
  go_wp2_with fail
  have hI : NwI w 0 ((w.alloc (.cells #[.slice none 0 0, .slice none 0 0, .slice none 0 0, .slice none 0 0, .slice none 0 0] 33)).alloc (.cells #[.slice none 0 0, .slice none 0 0, .slice none 0 0, .slice none 0 0, .slice none 0 0] 33)) := by
    have h2 := Cells.fresh (w.alloc (.cells #[.slice none 0 0, .slice none 0 0, .slice none 0 0, .slice none 0 0, .slice none 0 0] 33)) 33 z5
    rw [World.size_alloc] at h2
    exact ⟨.slice none 0 0, h2, (Cells.fresh w 33 z5).alloc _, World.ownsRow_nil _ _ _ _, ((Kept.refl _ _).alloc _).alloc _⟩
  go_loopw [9] (fun i wr => ∃ k : Nat, k ≤ m ∧ i = .int .i64 k ∧ NwI w k wr) (fun i _ => m - (intOf i).toNat)
  case atStart => exact ⟨0, Nat.zero_le _, rfl, hI⟩
  case round =>
    obtain ⟨k, hk, rfl, v, hC, hC6, hO, hkw⟩ := hrel
    obtain ⟨A0, n0, cc0, rfl⟩ := own_form0 hO
    by_cases hlt : k < m
    · have hdl : decide ((k : Int) < (m : Int)) = true := by simpa using hlt
      have x0 := hC.cell 0
      simp only [List.getElem?_cons_zero] at x0
      have HC := Lib.hid hC
      have HC6 := Lib.hid hC6
      have HO0 := Lib.hid hO
      have HO := Lib.hid (hO.alloc (.cells #[.int .i64 (-1)] 3))
      have HN := Lib.hid (cell_one_new wr (.int .i64 (-1)) 3)
      have hks := hkw.size
      have hBl := hC.lt
      clear hC hC6 hO
      go_wp2_with (at_builtin; refine wpList_append_own_at _ rfl _ _ 22 rfl w.heap.size 3 i0 (.int .i64 0) 1 8 Try.underlying22 hi0 hz0 hz1 hz2 rfl (by decide) (.slice A0 n0 cc0) k (List.replicate k (.int .i64 (-1))) rfl HO.out ⟨wr.heap.size, 0, none⟩ 1 1 [.int .i64 (-1)] rfl rfl HN.out (by intro u hu; obtain rfl := List.mem_singleton.1 hu; rfl) (by unfold maxLen; omega) (by omega) (by rw [World.size_alloc]; omega) ?_
                   intro v' W5 hown' hgrow _ hat
                   have hk5 : Kept (fun k => (Value.slice A0 n0 cc0).ownBlock = some k) wr W5 := ((Kept.refl _ _).alloc _).grown hgrow (fun k hk _ => hk)
                   have hC5 := HC.out.kept hk5 (fun e => own_ne HO0.out HC.out (by decide) e)
                   have c5 := hC5.cell 0
                   have f5 := hC5.free 0
                   simp only [List.getElem?_cons_zero] at c5
                   have HC5 := Lib.hid hC5
                   have HO5 := Lib.hid hown'
                   have HAT := Lib.hid hat
                   obtain ⟨A', n', c', rfl⟩ := own_form0 hown'
                   clear hC5 hown' hat hgrow)
      have hloc := HAT.out
      rw [World.size_alloc] at hloc
      have hkc : Kept (· = w.heap.size + 1) W5 (W5.setCell ⟨w.heap.size + 1, 0, none⟩ (.slice A' n' c')) := (Kept.refl (· = w.heap.size + 1) W5).setCell (p := ⟨w.heap.size + 1, 0, none⟩) (fun _ => rfl) _
      refine ⟨⟨k + 1, hlt, by go_num, .slice A' n' c', HC5.out.put 0 _, (HC6.out.kept hk5 (fun e => own_ne HO0.out HC6.out (by decide) e)).kept hkc (by omega), ?_, (hkw.join hk5 (fun i hi hl => by have := own_ge HO0.out hi; omega)).own hkc (by omega)⟩, by simp [intOf]; omega⟩
      rw [List.replicate_succ']
      exact own_kept HO5.out hkc (fun g hg e => own_ne HO5.out HC5.out (by decide) (by rw [hg, e]))
    · have hdl : decide ((k : Int) < (m : Int)) = false := by simpa using hlt
      obtain rfl : k = m := by omega
      have x1 := hC.cell 1
      have f1 := hC.free 1
      simp only [List.getElem?_cons_zero, List.getElem?_cons_succ] at x1
      have HC := Lib.hid hC
      have HC6 := Lib.hid hC6
      have HO0 := Lib.hid hO
      have hks := hkw.size
      have hBl := hC.lt
      clear hC hC6 hO
      go_wp2_with fail
      have hkc : Kept (· = w.heap.size + 1) wr (wr.setCell ⟨w.heap.size + 1, 1, none⟩ (.slice (some ⟨wr.heap.size, 0, none⟩) c c)) := (Kept.refl (· = w.heap.size + 1) _).setCell (p := ⟨w.heap.size + 1, 1, none⟩) (fun _ => rfl) _
      have hsz : (wr.setCell ⟨w.heap.size + 1, 1, none⟩ (.slice (some ⟨wr.heap.size, 0, none⟩) c c)).heap.size = wr.heap.size := by simp [World.setCell]
      have hCs := HC.out.put 1 (.slice (some ⟨wr.heap.size, 0, none⟩) c c)
      have hC6s := HC6.out.kept hkc (by omega)
      have hO0s := own_kept HO0.out hkc (fun g hg e => own_ne HO0.out HC.out (by decide) (by rw [hg, e]))
      have hkws := hkw.own hkc (by omega)
      have hJ : NwJ w k c rooms 0 ((wr.setCell ⟨w.heap.size + 1, 1, none⟩ (.slice (some ⟨wr.heap.size, 0, none⟩) c c)).alloc (.cells (List.replicate c (.slice none 0 0)).toArray 22)) := by
        have hg := Cells.fresh (wr.setCell ⟨w.heap.size + 1, 1, none⟩ (.slice (some ⟨wr.heap.size, 0, none⟩) c c)) 22 (List.replicate c (.slice none 0 0))
        rw [hsz] at hg
        exact ⟨.slice A0 n0 cc0, .slice none 0 0, wr.heap.size, hCs.alloc _, hC6s.alloc _, hO0s.alloc _, World.ownsRow_nil _ _ _ _, ⟨hg, hks⟩, ⟨fun g _ (h : (Value.slice none 0 0).ownBlock = some g) => (by cases h), hkws.alloc _⟩⟩
      rw [List.toArray_replicate] at hJ
      clear hkc hsz hCs hC6s hO0s hkws
      go_loopw [10] (fun i wr => ∃ j : Nat, j ≤ rooms.length ∧ i = .int .i64 j ∧ NwJ w k c rooms j wr ∧ (rooms.take j).all (inI 1 16) = true) (fun i _ => rooms.length - (intOf i).toNat)
      case atStart => exact ⟨0, Nat.zero_le _, rfl, hJ, by simp⟩
      case round =>
        clear hJ HC HC6 HO0 hks hBl x1 f1 hkw hI
        obtain ⟨j, hj, rfl, ⟨v0, v2, gc, hC, hC6, hO0, hO2, ⟨hCg, hgc⟩, hne, hkw⟩, hall⟩ := hrel
        obtain ⟨A1, n1, cc1, rfl⟩ := own_form0 hO0
        obtain ⟨A2, n2, cc2, rfl⟩ := own_form0 hO2
        by_cases hlt : j < rooms.length
        · have hdl : decide ((j : Int) < (rooms.length : Int)) = true := by simpa using hlt
          obtain ⟨b, o, c3, hveq, hcell, _⟩ := rowN_at HV.out hlt
          injection hveq with hA _ hcq
          subst hA hcq
          by_cases hin : 1 ≤ rooms[j] ∧ rooms[j] ≤ 16
          rotate_left
          · have b0 := hC6.cell 0
            have b1 := hC6.cell 1
            have b2 := hC6.cell 2
            have b3 := hC6.cell 3
            have b4 := hC6.cell 4
            have d0 := hC6.free 0
            have d1 := hC6.free 1
            have d2 := hC6.free 2
            have d3 := hC6.free 3
            have d4 := hC6.free 4
            simp only [z5, List.getElem?_cons_zero, List.getElem?_cons_succ] at b0 b1 b2 b3 b4
            have q0 := hkw.cell hcell
            have HC6 := Lib.hid hC6
            have HKW := Lib.hid hkw
            have hks := hkw.size
            have hbl := hC6.lt
            clear hC6 hkw hC hO0 hO2 hCg hall hcell
            generalize rooms[j] = rm at *
            by_cases hg : rm < 1
            · have g1 : decide (rm < 1) = true := by simpa using hg
              go_wp2_with fail
              refine ret_2 Try.results13 rfl (resVal.box rfl (((((HC6.out.put 0 _).put 1 _).put 2 _).put 3 _).put 4 _) Try.underlying33 rfl (by kernel_rfl)) (resVal.tmp rfl) ?_
              exact ⟨rfl, HKW.out.own (Kept.put5 _ _ _ _ _ _ _) (Nat.le_refl _)⟩
            · have g1 : decide (rm < 1) = false := by simpa using hg
              have g2 : decide ((16 : Int) < rm) = true := by simp; omega
              go_wp2_with fail
              refine ret_2 Try.results13 rfl (resVal.box rfl (((((HC6.out.put 0 _).put 1 _).put 2 _).put 3 _).put 4 _) Try.underlying33 rfl (by kernel_rfl)) (resVal.tmp rfl) ?_
              exact ⟨rfl, HKW.out.own (Kept.put5 _ _ _ _ _ _ _) (Nat.le_refl _)⟩
          have hall2 : (rooms.take (j + 1)).all (inI 1 16) = true := by
            rw [List.take_succ_eq_append_getElem hlt, List.all_append, hall]
            simp [inI, hin]
          have HALL := Lib.hid hall2
          clear hall hall2
          have g1 : decide (rooms[j] < 1) = false := by simp; omega
          have g2 : decide (16 < rooms[j]) = false := by simp; omega
          have htk : (rooms.take (j + 1)).map (Value.int .i64) = (rooms.take j).map (Value.int .i64) ++ [.int .i64 rooms[j]] := by rw [List.take_succ_eq_append_getElem hlt, List.map_append]; rfl
          have x2 := hC.cell 2
          have f2 := hC.free 2
          simp only [List.getElem?_cons_zero, List.getElem?_cons_succ] at x2
          have q0 := hkw.cell hcell
          generalize rooms[j] = rm at *
          have HTK := Lib.hid htk
          have HC := Lib.hid hC
          have HC6 := Lib.hid hC6
          have HO0 := Lib.hid hO0
          have HO2 := Lib.hid hO2
          have HCG := Lib.hid hCg
          have HNE := Lib.hid hne
          have HOA := Lib.hid ((hO2.alloc (.cells #[.int .i64 rm] 3)).drew)
          have HN := Lib.hid (cell_one_new wr (.int .i64 rm) 3)
          have mixed : Try.prog.follows .mixedOrders = true := by kernel_rfl
          have hks := hkw.size
          have x2a : (wr.alloc (.cells #[.int .i64 rm] 3)).drew.cell? ⟨w.heap.size + 1, 2, none⟩ = some (.slice A2 n2 cc2) := (((Kept.refl noX wr).alloc _).drew).cell x2
          clear hC hC6 hO0 hO2 hCg hne htk hcell hin
          go_wp2_with fail
          go_region_law_o (refine step_append_at rfl (.tmp 65) (.tmp 70) 22 rfl w.heap.size 3 i0 (.int .i64 0) 1 8 Try.underlying22 hi0 hz0 hz1 hz2 rfl (by decide) (.slice A2 n2 cc2) j ((rooms.take j).map (.int .i64)) (by simp [Act.eval]) HOA.out ⟨wr.heap.size, 0, none⟩ 1 1 [.int .i64 rm] (by simp [Act.eval]) rfl HN.out (by intro u hu; obtain rfl := List.mem_singleton.1 hu; rfl) (by unfold maxLen; omega) (by omega) (by show _ ≤ (wr.alloc _).heap.size; rw [World.size_alloc]; omega) ?_; intro v' W5 hown' hgrow hat; (have hk5 : Kept (fun k => (Value.slice A2 n2 cc2).ownBlock = some k) wr W5 := ((((Kept.refl _ _).alloc _).drew).grown hgrow (fun k hk _ => hk))); (have hC5 := HC.out.kept hk5 (fun e => own_ne HO2.out HC.out (by decide) e)); (have c5 := hC5.cell 2); (have f5 := hC5.free 2); simp only [List.getElem?_cons_zero, List.getElem?_cons_succ] at c5; (have HC5 := Lib.hid hC5); (have HO5 := Lib.hid hown'); (have HAT := Lib.hid hat); obtain ⟨A5, n5, c5', rfl⟩ := own_form0 hown'; clear hC5 hown' hgrow hat)
          all_goals
            have hloc : (Value.slice A5 n5 c5').ownBlock = (Value.slice A2 n2 cc2).ownBlock ∨ (Value.slice A5 n5 c5').ownBlock = some (wr.heap.size + 1) := by
              have h := HAT.out
              rwa [show ((wr.alloc (.cells #[.int .i64 rm] 3)).drew).heap.size = wr.heap.size + 1 from World.size_alloc _ _] at h
            have hkc : Kept (· = w.heap.size + 1) W5 (W5.setCell ⟨w.heap.size + 1, 2, none⟩ (.slice A5 n5 c5')) := (Kept.refl (· = w.heap.size + 1) W5).setCell (p := ⟨w.heap.size + 1, 2, none⟩) (fun _ => rfl) _
            have hnew : ∀ g, (Value.slice A1 n1 cc1).ownBlock = some g → (Value.slice A5 n5 c5').ownBlock ≠ some g := fun g hg he => by
              rcases hloc with h1 | h1
              · exact HNE.out g hg (h1.symm.trans he)
              · have h2 : wr.heap.size + 1 = g := Option.some.inj (h1.symm.trans he)
                have := own_lt HO0.out hg
                omega
            have hrel : NwJ w k c rooms (j + 1) (W5.setCell ⟨w.heap.size + 1, 2, none⟩ (.slice A5 n5 c5')) := by
              refine ⟨.slice A1 n1 cc1, .slice A5 n5 c5', gc, HC5.out.put 2 _, (HC6.out.kept hk5 (fun e => own_ne HO2.out HC6.out (by decide) e)).kept hkc (by omega), own_kept (own_kept HO0.out hk5 (fun g hg e => HNE.out g hg e)) hkc (fun g hg e => own_ne HO0.out HC.out (by decide) (by rw [hg, e])), ?_, ⟨(HCG.out.kept hk5 (fun e => own_ne HO2.out HCG.out (by decide) e)).kept hkc (cells_ne HCG.out HC.out (by decide)), hgc⟩, ⟨hnew, (hkw.join hk5 (fun i hi hl => by have := own_ge HO2.out hi; omega)).own hkc (by omega)⟩⟩
              rw [HTK.out]
              exact own_kept HO5.out hkc (fun g hg e => own_ne HO5.out HC5.out (by decide) (by rw [hg, e]))
            have HREL := Lib.hid hrel
            clear hrel hnew hkc hloc HC HC6 HO0 HO2 HCG HNE HOA HN HC5 HO5 HAT
            (try simp only [Act.put, List.getElem_toArray, List.getElem_cons_succ, List.getElem_cons_zero, List.setIfInBounds_toArray, List.set_cons_zero, List.set_cons_succ])
            go_wp2
            go_roundw
            case rel => exact ⟨j + 1, hlt, by go_num, HREL.out, HALL.out⟩
            case measure => simp [intOf]; omega
        · have hx : j = rooms.length := by omega
          rw [hx, List.take_length, HBAD.out] at hall
          cases hall
end Go.Proofs.Ytehcfahfbdphpaa
namespace Go.Proofs.Ytehcfahfbdphpaa
open Go.RowKit Go.Shelf

theorem okN_iff {m c : Int} {rooms : List Int} : okN m c rooms = true ↔ (0 ≤ m ∧ m ≤ 64 ∧ 0 ≤ c ∧ c ≤ 64 ∧ rooms.length ≤ 64) ∧ rooms.all (inI 1 16) = true := by
  unfold okN
  rw [Bool.and_eq_true]
  refine and_congr ?_ Iff.rfl
  simp [inI]
  omega
theorem znew_any (m c : Int) (A : Option Addr) (rc : Nat) (rooms : List Int) (w : World) (hv : RowV w noX (.slice A rooms.length rc) (dI rooms)) :
    Calls Try.prog 13 #[.int .i64 m, .int .i64 c, .slice A rooms.length rc] w fun e w' => (okN m c rooms = true ∧ ∃ vs, e = .returned (.tuple #[.agg vs.toArray, .int .i64 0]) ∧ RV w' (· < w.heap.size) vs (initR m.toNat c.toNat rooms) ∧ Kept noX w w') ∨
      (okN m c rooms = false ∧ e = .returned (.tuple #[.agg #[.slice none 0 0, .slice none 0 0, .slice none 0 0, .slice none 0 0, .slice none 0 0], .int .i64 2]) ∧ Kept noX w w') := by
  by_cases hr : m < 0 ∨ 64 < m ∨ c < 0 ∨ 64 < c ∨ 64 < rooms.length
  · refine (znew_range m c A rooms.length rc hr w).mono (fun e w' he => .inr ⟨?_, he⟩)
    cases hok : okN m c rooms with
    | false => rfl
    | true => have := (okN_iff.1 hok).1; omega
  · obtain ⟨mn, rfl⟩ : ∃ mn : Nat, m = mn := ⟨m.toNat, by omega⟩
    obtain ⟨cn, rfl⟩ : ∃ cn : Nat, c = cn := ⟨c.toNat, by omega⟩
    cases hall : rooms.all (inI 1 16) with
    | true => exact (znew_ok mn cn (by omega) (by omega) A rc rooms (by omega) hall w hv).mono (fun e w' he => .inl ⟨okN_iff.2 ⟨by omega, hall⟩, he⟩)
    | false =>
      refine (znew_room mn cn (by omega) (by omega) A rc rooms (by omega) hall w hv).mono (fun e w' he => .inr ⟨?_, he⟩)
      cases hok : okN mn cn rooms with
      | false => rfl
      | true => have := (okN_iff.1 hok).2; rw [hall] at this; cases this
set_option maxRecDepth 100000 in
set_option maxHeartbeats 1000000 in
theorem small_any (m c : Int) (A : Option Addr) (rc : Nat) (rooms : List Int) (B : Option Addr) (n bc : Nat) (w : World) (hv : RowV w noX (.slice A rooms.length rc) (dI rooms)) :
    Calls Try.prog 30 #[.agg #[.int .i64 m, .int .i64 c, .slice A rooms.length rc], .slice B n bc] w fun e w' => e = .returned (.bool (okN m c rooms && decide (n ≤ 100))) ∧ Kept noX w w' := by
  have HN := Lib.hid (fun w' (hk : Kept noX w w') => znew_any m c A rc rooms w' (Rep.keep hv hk))
  generalize okN m c rooms = ok at HN ⊢
  clear hv
  go_enter Try.func30, Try.ntmps30
  go_wp2_with fail
  refine (HN.out _ ((Kept.refl _ _).alloc _)).mono ?_
  rintro e W1 (⟨hok, vs, rfl, hR, hk⟩ | ⟨hok, rfl, hk⟩)
  · generalize initR m.toNat c.toNat rooms = R0 at hR
    obtain ⟨q0', q1', q2', q3', q4', hvs, r0', r1', r2', r3', r4'⟩ := hR
    obtain ⟨U0, n0', u0, rfl, hn0', -⟩ := r0'.form
    obtain ⟨U1, n1', u1, rfl, hn1', -⟩ := r1'.form
    obtain ⟨U2, n2', u2, rfl, hn2', -⟩ := r2'.form
    obtain ⟨U3, n3', u3, rfl, hn3', -⟩ := r3'.form
    obtain ⟨U4, n4', u4, rfl, hn4', -⟩ := r4'.form
    rw [List.length_map] at hn0' hn1' hn2' hn3' hn4'
    subst hn0' hn1' hn2' hn3' hn4'
    subst hvs
    clear r0' r1' r2' r3' r4'
    by_cases hn : n ≤ 100
    · have e1 : decide ((n : Int) ≤ 100) = true := by simp; omega
      have e2 : decide (n ≤ 100) = true := by simpa using hn
      go_wp2_with fail
      go_ret
      exact ⟨by rw [hok, e2]; rfl, (((Kept.refl _ _).alloc _).trans hk).alloc _⟩
    · have e1 : decide ((n : Int) ≤ 100) = false := by simp; omega
      have e2 : decide (n ≤ 100) = false := by simpa using hn
      go_wp2_with fail
      go_ret
      exact ⟨by rw [e2]; simp, (((Kept.refl _ _).alloc _).trans hk).alloc _⟩
  · go_wp2_with fail
    go_ret
    exact ⟨by rw [hok]; rfl, (((Kept.refl _ _).alloc _).trans hk).alloc _⟩
end Go.Proofs.Ytehcfahfbdphpaa
namespace Go.Proofs.Ytehcfahfbdphpaa
open Go.RowKit Go.Shelf

theorem both_any {w : World} {T : Nat → Nat} {p : Nat} {S : SS} {vs : List Value} {R : RS} {Z0 : Nat → Prop} {n : Nat} (hS : SyAt w T p S) (h : RV w Z0 vs R) (hL : Like S R) (hO : OkR R n) (hn : n ≤ 1000000) (hTZ : ∀ g, T g ≠ 0 → Z0 g) (hZs : ∀ g, Z0 g → g < w.heap.size) (q m t v : Int) :
    Calls Try.prog 32 #[.pointer (some ⟨p, 0, none⟩), .agg vs.toArray, .agg #[.int .i64 q, .int .i64 m, .int .i64 t, .int .i64 v]] w (BP w T Z0 p R n) := by
  by_cases h0 : q = 0
  · subst h0; exact both_lock hS h hL hO hn hTZ hZs m t v
  by_cases h1 : q = 1
  · subst h1; exact both_unlock hS h hL hO hn hTZ hZs m t v
  by_cases h2 : q = 2
  · subst h2; exact both_wait hS h hL hO hn hTZ hZs m t v
  by_cases h3 : q = 3
  · subst h3; exact both_signal hS h hL hO hn hTZ hZs m t v
  by_cases h4 : q = 4
  · subst h4; exact both_all hS h hL hO hn hTZ hZs m t v
  by_cases h5 : q = 5
  · subst h5; exact both_send hS h hL hO hn hTZ hZs m t v
  exact both_recv hS h hL hO hn hTZ hZs q ⟨by simpa using h0, by simpa using h1, by simpa using h2, by simpa using h3, by simpa using h4, by simpa using h5⟩ m t v
end Go.Proofs.Ytehcfahfbdphpaa
namespace Go.Proofs.Ytehcfahfbdphpaa
open Go.RowKit Go.Shelf

/-- What played tells: a state, and the document's, that stand alike. -/
def PlP (w : World) (R0 : RS) (n : Nat) (e : Ending) (W' : World) : Prop :=
  ∃ vs' p T S R, e = .returned (.tuple #[.pointer (some ⟨p, 0, none⟩), .agg vs'.toArray, .bool true]) ∧ SyAt W' T p S ∧ RV W' (fun g => T g ≠ 0) vs' R ∧ (Like S R ∧ OkR R n ∧ SzR R0 R) ∧ (∀ g, T g ≠ 0 → w.heap.size ≤ g) ∧ Kept noX w W'
/-- As LkI; and the document's rows are all new. -/
def LkP (w wr : World) (gW p : Nat) (R0 : RS) (n : Nat) : Prop :=
  ∃ T vs S R, SyAt wr T p S ∧ RV wr (fun g => T g ≠ 0 ∨ g = gW ∨ g < w.heap.size) vs R ∧ (Like S R ∧ OkR R n ∧ SzR R0 R) ∧ Cells wr gW 33 vs ∧ (T gW = 0 ∧ (∀ g, T g ≠ 0 → w.heap.size ≤ g) ∧ w.heap.size ≤ gW) ∧ Kept noX w wr
theorem LkP.next {w wr W0 W3 W4 : World} {gW p n : Nat} {R0 R S' R'} {T : Nat → Nat} {vs' : List Value} {T' : Nat → Nat} (hT : T gW = 0 ∧ (∀ g, T g ≠ 0 → w.heap.size ≤ g) ∧ w.heap.size ≤ gW) (hg : gW < wr.heap.size) (hk : Kept noX w wr) (hk0 : Kept noX wr W0) (hS : SyAt W3 T' p S') (hTT : ∀ g, g < W0.heap.size → T' g = T g)
    (hk3 : Kept (fun g => T g ≠ 0) W0 W3) (hR : RV W3 (fun g => T' g ≠ 0 ∨ (T g ≠ 0 ∨ g = gW ∨ g < w.heap.size)) vs' R') (hL : Like S' R') (hO : OkR R' (n + 1)) (hz : SzR R R') (hz0 : SzR R0 R) (hk4 : Kept (· = gW) W3 W4) (hC : Cells W4 gW 33 vs') : LkP w W4 gW p R0 (n + 1) := by
  have h1 := hk.size
  have h2 := hk0.size
  have hgT : T' gW = 0 := by rw [hTT gW (by omega)]; exact hT.1
  refine ⟨T', vs', S', R', hS.kept hk4 (fun g e => by rw [e]; exact hgT), (hR.kept hk4 (fun g _ e => .inr (.inr (.inl e)))).mono (fun g _ h => h.elim .inl (fun h => .inr (.inr h))), ⟨hL, hO, ⟨hz.1.trans hz0.1, hz.2.1.trans hz0.2.1, hz.2.2.trans hz0.2.2⟩⟩, hC, ⟨hgT, fun g hg' => ?_, hT.2.2⟩, ((hk.trans hk0).join hk3 (fun g h hl => by have := hT.2.1 g h; omega)).own hk4 hT.2.2⟩
  rcases Nat.lt_or_ge g W0.heap.size with hl | hl
  · exact hT.2.1 g (by rw [← hTT g hl]; exact hg')
  · omega
set_option maxRecDepth 100000 in
set_option maxHeartbeats 8000000 in
theorem played_any (m c : Int) (A B : Option Addr) (rc bc : Nat) (rooms : List Int) (l : List AC) (w : World) (hv : RowV w noX (.slice A rooms.length rc) (dI rooms)) (ha : ActsAt w B l) (hok : okN m c rooms = true) (hl : l.length ≤ 100) :
    Calls Try.prog 31 #[.agg #[.int .i64 m, .int .i64 c, .slice A rooms.length rc], .slice B l.length bc] w (PlP w (initR m.toNat c.toNat rooms) l.length) := by
  have hin := okN_iff.1 hok
  obtain ⟨mn, rfl⟩ : ∃ mn : Nat, m = mn := ⟨m.toNat, by omega⟩
  obtain ⟨cn, rfl⟩ : ∃ cn : Nat, c = cn := ⟨c.toNat, by omega⟩
  simp only [Int.toNat_natCast]
  have HN := Lib.hid (fun w' (hk : Kept noX w w') => new_any mn cn A rc rooms (by omega) w' (Rep.keep hv hk))
  have HZ := Lib.hid (fun w' (hk : Kept noX w w') => znew_ok mn cn (by omega) (by omega) A rc rooms (by omega) hin.2 w' (Rep.keep hv hk))
  have HA := Lib.hid ha
  have hL0 := like_init mn cn rooms
  have hO0 := ok_init (m := mn) (c := cn) (rooms := rooms) (by omega) (by omega) (by omega) hin.2
  generalize initR mn cn rooms = R0 at HZ hL0 hO0 ⊢
  clear hv ha hin
  go_enter Try.func31, Try.ntmps31
  go_wp2_with fail
  obtain ⟨W0, hW0⟩ : ∃ W0, W0 = ((w.alloc (.cells #[.int .i64 mn, .int .i64 cn, .slice A rooms.length rc] 24)).alloc (.cells #[.slice none 0 0, .slice none 0 0, .slice none 0 0, .slice none 0 0, .slice none 0 0] 33)) := ⟨_, rfl⟩
  have hF0 : Cells W0 w.heap.size 24 [.int .i64 mn, .int .i64 cn, .slice A rooms.length rc] := by rw [hW0]; exact (Cells.fresh w 24 _).alloc _
  have hB0 : Cells W0 (w.heap.size + 1) 33 z5 := by rw [hW0]; exact cells_second _ _ _ _
  have hk0 : Kept noX w W0 := by rw [hW0]; exact ((Kept.refl _ _).alloc _).alloc _
  have hs0 : W0.heap.size = w.heap.size + 2 := by rw [hW0, World.size_alloc, World.size_alloc]
  rw [← hW0]
  clear hW0
  refine (HN.out _ hk0).mono ?_
  rintro e W1 (⟨_, p, T, rfl, h1, h2, h3⟩ | ⟨hf, _⟩)
  rotate_left
  · rw [hok] at hf; cases hf
  have hF1 := hF0.keep h3
  have hB1 := hB0.keep h3
  have f0 := hF1.cell 0
  have f1 := hF1.cell 1
  have f2 := hF1.cell 2
  simp only [List.getElem?_cons_zero, List.getElem?_cons_succ] at f0 f1 f2
  have H1 := Lib.hid h1
  have H2 := Lib.hid h2
  have H3 := Lib.hid (hk0.trans h3)
  have H4 := Lib.hid h3
  have HB0 := Lib.hid hB0
  have HK0 := Lib.hid hk0
  clear h1 h2 h3 hF0 hB0 hk0 hF1 hB1
  go_wp2_with fail
  refine (HZ.out _ H3.out).mono ?_
  rintro e W2 ⟨vs, rfl, hR, hk2⟩
  have HR2 := Lib.hid hR
  obtain ⟨q0', q1', q2', q3', q4', hvs, r0', r1', r2', r3', r4'⟩ := hR
  obtain ⟨V0, n0', e0, rfl, hn0', -⟩ := r0'.form
  obtain ⟨V1, n1', e1, rfl, hn1', -⟩ := r1'.form
  obtain ⟨V2, n2', e2, rfl, hn2', -⟩ := r2'.form
  obtain ⟨V3, n3', e3, rfl, hn3', -⟩ := r3'.form
  obtain ⟨V4, n4', e4, rfl, hn4', -⟩ := r4'.form
  rw [List.length_map] at hn0' hn1' hn2' hn3' hn4'
  subst hn0' hn1' hn2' hn3' hn4'
  subst hvs
  clear r0' r1' r2' r3' r4'
  have HI : Hid (LkP W0 (W2.alloc (.cells #[.slice V0 R0.ow.length e0, .slice V1 R0.cs.length e1, .slice V2 R0.rm.length e2, .slice V3 R0.st.length e3, .slice V4 R0.tk.length e4] 33)) W2.heap.size p R0 0) := Lib.hid (by
    have hs1 := H4.out.size
    have hs2 := hk2.size
    have hts := H1.out.tagLt
    have hka : Kept noX W1 (W2.alloc (.cells #[.slice V0 R0.ow.length e0, .slice V1 R0.cs.length e1, .slice V2 R0.rm.length e2, .slice V3 R0.st.length e3, .slice V4 R0.tk.length e4] 33)) := hk2.alloc _
    refine ⟨T, _, _, R0, H1.out.keep hka, (HR2.out.mono (fun g hg h => ?_)).keep ((Kept.refl _ _).alloc _), ⟨hL0, hO0, SzR.rfl'⟩, Cells.fresh W2 33 _, ⟨Classical.byContradiction fun h => by have := hts _ h; omega, H2.out, by omega⟩, H4.out.trans hka⟩
    rcases h with h | h | h
    · exact hts g h
    · omega
    · omega)
  clear HR2 hk2 H1 H2 H3 H4 HN HZ hok hL0 hO0 f0 f1 f2
  go_wp2_with (go_at_call 23; refine (num_any _ _).mono ?_; rintro e Wn ⟨rfl, rfl⟩)
  go_loopw [12, 11] (fun i fi wr => ∃ k : Nat, k ≤ l.length ∧ i = .int .i64 k ∧ fi = .bool true ∧ LkP W0 wr W2.heap.size p R0 k) (fun i _ _ => l.length - (intOf i).toNat)
  case atStart => exact ⟨0, Nat.zero_le _, rfl, rfl, HI.out⟩
  case round =>
    obtain ⟨k, hk, rfl, rfl, T1, vs, S, R, h1, h2, ⟨h3, h4, h5⟩, h6, h7, h8⟩ := hrel
    by_cases hlt : k < l.length
    · have hdl : decide ((k : Int) < (l.length : Int)) = true := by simpa using hlt
      obtain ⟨b, o', rfl, hcell⟩ := HA.out k hlt
      have p0 : wr.cell? ⟨b, o' + k * 4, none⟩ = some (.int .i64 l[k].what) := (HK0.out.trans h8).cell (hcell 0 (by omega))
      have p1 : wr.cell? ⟨b, o' + k * 4 + 1, none⟩ = some (.int .i64 l[k].n) := (HK0.out.trans h8).cell (hcell 1 (by omega))
      have p2 : wr.cell? ⟨b, o' + k * 4 + 2, none⟩ = some (.int .i64 l[k].t) := (HK0.out.trans h8).cell (hcell 2 (by omega))
      have p3 : wr.cell? ⟨b, o' + k * 4 + 3, none⟩ = some (.int .i64 l[k].v) := (HK0.out.trans h8).cell (hcell 3 (by omega))
      generalize l[k].what = a at *
      generalize l[k].n = nn at *
      generalize l[k].t = t at *
      generalize l[k].v = x at *
      have HR1 := Lib.hid h2
      have HS1 := Lib.hid h1
      have hgl := h6.lt
      have hts := h1.tagLt
      have mixed : Try.prog.follows .mixedOrders = true := by kernel_rfl
      obtain ⟨q0', q1', q2', q3', q4', hvs, r0', r1', r2', r3', r4'⟩ := h2
      obtain ⟨D0, n0', d0, rfl, hn0', -⟩ := r0'.form
      obtain ⟨D1, n1', d1, rfl, hn1', -⟩ := r1'.form
      obtain ⟨D2, n2', d2, rfl, hn2', -⟩ := r2'.form
      obtain ⟨D3, n3', d3, rfl, hn3', -⟩ := r3'.form
      obtain ⟨D4, n4', d4, rfl, hn4', -⟩ := r4'.form
      rw [List.length_map] at hn0' hn1' hn2' hn3' hn4'
      subst hn0' hn1' hn2' hn3' hn4'
      subst hvs
      clear r0' r1' r2' r3' r4'
      have HL1 := Lib.hid h3
      have HO1 := Lib.hid h4
      have HZ1 := Lib.hid h5
      have HC1 := Lib.hid h6
      have HT1 := Lib.hid h7
      have HK1 := Lib.hid h8
      have HTS := Lib.hid hts
      clear h1 h3 h4 h5 h6 h7 h8 hts hcell HI
      have hka : Kept noX wr wr.drew := (Kept.refl _ _).drew
      have hC0 := HC1.out.keep hka
      have s0 := HC1.out.cell 0
      have s1 := HC1.out.cell 1
      have s2 := HC1.out.cell 2
      have s3 := HC1.out.cell 3
      have s4 := HC1.out.cell 4
      simp only [List.getElem?_cons_zero, List.getElem?_cons_succ] at s0 s1 s2 s3 s4
      have HBB := Lib.hid (both_any (HS1.out.keep hka) (HR1.out.keep hka) HL1.out HO1.out (by omega) (fun g hg => Or.inl hg) (fun g hg => by show g < wr.heap.size; rcases hg with hg | hg | hg; exact HTS.out g hg; omega; have := HK1.out.size; omega) a nn t x)
      have HC0 := Lib.hid hC0
      have HKA := Lib.hid hka
      clear hC0 hka
      go_wp2_with fail
      go_region_with_o (go_at_call 32; refine HBB.out.mono ?_; rintro e W3 ⟨S', R', ⟨vs', T', rfl, hS', hTT, hk3, hR'⟩, hL', hO', hz'⟩; (have hC3 := HC0.out.kept hk3 (fun h => h HT1.out.1)); (have HR3 := Lib.hid hR'); obtain ⟨q0', q1', q2', q3', q4', hvs, r0', r1', r2', r3', r4'⟩ := hR'; obtain ⟨F0, n0', f0, rfl, hn0', -⟩ := r0'.form; obtain ⟨F1, n1', f1, rfl, hn1', -⟩ := r1'.form; obtain ⟨F2, n2', f2, rfl, hn2', -⟩ := r2'.form; obtain ⟨F3, n3', f3, rfl, hn3', -⟩ := r3'.form; obtain ⟨F4, n4', f4, rfl, hn4', -⟩ := r4'.form; rw [List.length_map] at hn0' hn1' hn2' hn3' hn4'; subst hn0' hn1' hn2' hn3' hn4'; subst hvs; clear r0' r1' r2' r3' r4'; (have y0 := hC3.cell 0); (have z0 := hC3.free 0); (have y1 := hC3.cell 1); (have z1 := hC3.free 1); (have y2 := hC3.cell 2); (have z2 := hC3.free 2); (have y3 := hC3.cell 3); (have z3 := hC3.free 3); (have y4 := hC3.cell 4); (have z4 := hC3.free 4); simp only [List.getElem?_cons_zero, List.getElem?_cons_succ] at y0 y1 y2 y3 y4; (have HS' := Lib.hid hS'); (have HTT := Lib.hid hTT); (have HK3 := Lib.hid hk3); (have HL' := Lib.hid hL'); (have HO' := Lib.hid hO'); (have HZ' := Lib.hid hz'); (have HC3 := Lib.hid hC3); clear hS' hTT hk3 hL' hO' hz' hC3)
      all_goals
        (try simp only [Act.put, List.getElem_toArray, List.getElem_cons_succ, List.getElem_cons_zero, List.setIfInBounds_toArray, List.set_cons_zero, List.set_cons_succ])
        have hk4 : Kept (· = W2.heap.size) W3 (((((W3.setCell ⟨W2.heap.size, 0, none⟩ (.slice F0 R'.ow.length f0)).setCell ⟨W2.heap.size, 1, none⟩ (.slice F1 R'.cs.length f1)).setCell ⟨W2.heap.size, 2, none⟩ (.slice F2 R'.rm.length f2)).setCell ⟨W2.heap.size, 3, none⟩ (.slice F3 R'.st.length f3)).setCell ⟨W2.heap.size, 4, none⟩ (.slice F4 R'.tk.length f4)) := Kept.put5 _ _ _ _ _ _ _
        have hC4 := ((((HC3.out.put 0 (.slice F0 R'.ow.length f0)).put 1 (.slice F1 R'.cs.length f1)).put 2 (.slice F2 R'.rm.length f2)).put 3 (.slice F3 R'.st.length f3)).put 4 (.slice F4 R'.tk.length f4)
        simp only [List.set_cons_zero, List.set_cons_succ] at hC4
        have hN := LkP.next HT1.out hgl HK1.out HKA.out HS'.out HTT.out HK3.out HR3.out HL'.out HO'.out HZ'.out HZ1.out hk4 hC4
        generalize (((((W3.setCell ⟨W2.heap.size, 0, none⟩ (.slice F0 R'.ow.length f0)).setCell ⟨W2.heap.size, 1, none⟩ (.slice F1 R'.cs.length f1)).setCell ⟨W2.heap.size, 2, none⟩ (.slice F2 R'.rm.length f2)).setCell ⟨W2.heap.size, 3, none⟩ (.slice F3 R'.st.length f3)).setCell ⟨W2.heap.size, 4, none⟩ (.slice F4 R'.tk.length f4)) = W6 at hN ⊢
        have HN := Lib.hid hN
        clear hk4 hC4 hN y0 y1 y2 y3 y4 z0 z1 z2 z3 z4 HS' HTT HK3 HL' HO' HZ' HC3 HR3
        clear HBB HC0 HKA s0 s1 s2 s3 s4 HS1 HR1 HL1 HO1 HZ1 HC1 HT1 HK1 HTS p0 p1 p2 p3
        go_wp2_with fail
        go_roundw
        case rel => exact ⟨k + 1, hlt, by go_num, by first | rfl | trivial, HN.out⟩
        case measure => simp [intOf]; omega
    · have hdl : decide ((k : Int) < (l.length : Int)) = false := by simpa using hlt
      obtain rfl : k = l.length := by omega
      have mixed : Try.prog.follows .mixedOrders = true := by kernel_rfl
      have HQ := Lib.hid (is_any (h1.keep ((Kept.refl _ _).drew)) (h2.any.keep ((Kept.refl _ _).drew)) h3)
      have HRF := Lib.hid h2
      obtain ⟨q0', q1', q2', q3', q4', hvs, r0', r1', r2', r3', r4'⟩ := h2
      obtain ⟨D0, n0', d0, rfl, hn0', -⟩ := r0'.form
      obtain ⟨D1, n1', d1, rfl, hn1', -⟩ := r1'.form
      obtain ⟨D2, n2', d2, rfl, hn2', -⟩ := r2'.form
      obtain ⟨D3, n3', d3, rfl, hn3', -⟩ := r3'.form
      obtain ⟨D4, n4', d4, rfl, hn4', -⟩ := r4'.form
      rw [List.length_map] at hn0' hn1' hn2' hn3' hn4'
      subst hn0' hn1' hn2' hn3' hn4'
      subst hvs
      clear r0' r1' r2' r3' r4'
      have s0 := h6.cell 0
      have s1 := h6.cell 1
      have s2 := h6.cell 2
      have s3 := h6.cell 3
      have s4 := h6.cell 4
      simp only [List.getElem?_cons_zero, List.getElem?_cons_succ] at s0 s1 s2 s3 s4
      have HSF := Lib.hid h1
      have HLF := Lib.hid (And.intro h3 (And.intro h4 h5))
      have HTF := Lib.hid h7
      have HKF := Lib.hid h8
      have hA := HB0.out.keep h8
      have HAF := Lib.hid hA
      have hgb := h7.2.2
      have hHeld0 := (⟨s0, s1, s2, s3, s4⟩ : _ ∧ _ ∧ _ ∧ _ ∧ _)
      clear h1 h3 h4 h5 h6 h7 h8 hA HI
      go_wp2_with fail
      refine wp_region_held_drew (S := (fun w' => w'.cell? ⟨W2.heap.size, 0, none⟩ = some (.slice D0 R.ow.length d0) ∧ w'.cell? ⟨W2.heap.size, 1, none⟩ = some (.slice D1 R.cs.length d1) ∧ w'.cell? ⟨W2.heap.size, 2, none⟩ = some (.slice D2 R.rm.length d2) ∧ w'.cell? ⟨W2.heap.size, 3, none⟩ = some (.slice D3 R.st.length d3) ∧ w'.cell? ⟨W2.heap.size, 4, none⟩ = some (.slice D4 R.tk.length d4))) (by kernel_rfl) hHeld0 (fun hHeld => ?_)
      refine wpAnyH_take (i := 0) (v := ?_) rfl (by kernel_rfl) (by kernel_rfl) (by kernel_rfl) (fun _ _ _ h => h) (Or.inl ⟨by rfl, ?_⟩) (by assumption) ?_
      rotate_left
      · intro wS hSw
        (try dsimp only at hSw)
        go_simp
        (try with_reducible rfl)
      refine wpAnyH_take (i := 1) (v := ?_) rfl (by kernel_rfl) (by kernel_rfl) (by kernel_rfl) (fun _ _ _ h => h) (Or.inl ⟨by rfl, ?_⟩) (by assumption) ?_
      rotate_left
      · intro wS hSw
        (try dsimp only at hSw)
        go_simp
        (try with_reducible rfl)
      refine wpAnyH_take (i := 2) (v := ?_) rfl (by kernel_rfl) (by kernel_rfl) (by kernel_rfl) (fun _ _ _ h => h) (Or.inl ⟨by rfl, ?_⟩) (by assumption) ?_
      rotate_left
      · intro wS hSw
        (try dsimp only at hSw)
        go_simp
        (try with_reducible rfl)
      refine wpAnyH_take (i := 3) (v := ?_) rfl (by kernel_rfl) (by kernel_rfl) (by kernel_rfl) (fun _ _ _ h => h) (Or.inl ⟨by rfl, ?_⟩) (by assumption) ?_
      rotate_left
      · intro wS hSw
        (try dsimp only at hSw)
        go_simp
        (try with_reducible rfl)
      (try simp only [Act.put, List.getElem_toArray, List.getElem_cons_succ, List.getElem_cons_zero, List.setIfInBounds_toArray, List.set_cons_zero, List.set_cons_succ])
      refine wpAnyH_take (i := 4) (v := ?_) rfl (by kernel_rfl) (by kernel_rfl) (by kernel_rfl) (fun _ _ _ h => h) (Or.inl ⟨by rfl, ?_⟩) (by assumption) ?_
      rotate_left
      · intro wS hSw
        (try dsimp only at hSw)
        go_simp
        (try with_reducible rfl)
      refine wpAnyH_take (i := 5) (v := ?_) rfl (by kernel_rfl) (by kernel_rfl) (by kernel_rfl) (fun _ _ _ h => h) (Or.inl ⟨by rfl, ?_⟩) (by assumption) ?_
      rotate_left
      · intro wS hSw
        (try dsimp only at hSw)
        go_simp
        (try with_reducible rfl)
      (try simp only [Act.put, List.getElem_toArray, List.getElem_cons_succ, List.getElem_cons_zero, List.setIfInBounds_toArray, List.set_cons_zero, List.set_cons_succ])
      refine wpAnyH_ready (rs := [6]) (by kernel_rfl) (by simp) ?_
      refine (AllReadyH.cons rfl (fun K hK => ?_) AllReadyH.nil)
      go_simp
      refine HQ.out.mono ?_
      rintro e W5 ⟨rfl, hk5⟩
      replace hk5 := ((Kept.refl noX _).drew).trans hk5
      have hHeld1 := (⟨hk5.cell s0, hk5.cell s1, hk5.cell s2, hk5.cell s3, hk5.cell s4⟩ : _ ∧ _ ∧ _ ∧ _ ∧ _)
      have hA5 := HAF.out.keep hk5
      have a0 := hA5.cell 0
      have a1 := hA5.cell 1
      have a2 := hA5.cell 2
      have a3 := hA5.cell 3
      have a4 := hA5.cell 4
      have g0 := hA5.free 0
      have g1 := hA5.free 1
      have g2 := hA5.free 2
      have g3 := hA5.free 3
      have g4 := hA5.free 4
      simp only [z5, List.getElem?_cons_zero, List.getElem?_cons_succ] at a0 a1 a2 a3 a4
      have HA5 := Lib.hid hA5
      have HK5 := Lib.hid hk5
      clear hA5 HQ
      refine hK.out _ _ hHeld1 (fun hHeld => ?_)
      clear hK K
      (try simp only [Act.put, List.getElem_toArray, List.getElem_cons_succ, List.getElem_cons_zero, List.setIfInBounds_toArray, List.set_cons_zero, List.set_cons_succ])
      refine wpAnyH_take (i := 7) (v := ?_) rfl (by kernel_rfl) (by kernel_rfl) (by kernel_rfl) (fun _ _ _ h => h) (Or.inl ⟨by rfl, ?_⟩) (by assumption) ?_
      rotate_left
      · intro wS hSw
        (try dsimp only at hSw)
        go_simp
        (try with_reducible rfl)
      (try simp only [Act.put, List.getElem_toArray, List.getElem_cons_succ, List.getElem_cons_zero, List.setIfInBounds_toArray, List.set_cons_zero, List.set_cons_succ])
      refine wpAnyH_ready (rs := [8]) (by kernel_rfl) (by simp) ?_
      refine (AllReadyH.cons rfl (fun K hK => ?_) AllReadyH.nil)
      go_simp
      refine hK.out _ _ hHeld (fun hHeld => ?_)
      clear hK K
      (try simp only [Act.put, List.getElem_toArray, List.getElem_cons_succ, List.getElem_cons_zero, List.setIfInBounds_toArray, List.set_cons_zero, List.set_cons_succ])
      refine wpAnyH_ready (rs := [9]) (by kernel_rfl) (by simp) ?_
      refine (AllReadyH.cons rfl (fun K hK => ?_) AllReadyH.nil)
      go_simp
      have hkp : Kept (· = w.heap.size + 1) W5 (((((W5.setCell ⟨w.heap.size + 1, 0, none⟩ (.slice D0 R.ow.length d0)).setCell ⟨w.heap.size + 1, 1, none⟩ (.slice D1 R.cs.length d1)).setCell ⟨w.heap.size + 1, 2, none⟩ (.slice D2 R.rm.length d2)).setCell ⟨w.heap.size + 1, 3, none⟩ (.slice D3 R.st.length d3)).setCell ⟨w.heap.size + 1, 4, none⟩ (.slice D4 R.tk.length d4)) := Kept.put5 _ _ _ _ _ _ _
      have hfar : ¬ W2.heap.size = w.heap.size + 1 := by omega
      have hHeld2 := (⟨hkp.cell_far (hk5.cell s0) hfar, hkp.cell_far (hk5.cell s1) hfar, hkp.cell_far (hk5.cell s2) hfar, hkp.cell_far (hk5.cell s3) hfar, hkp.cell_far (hk5.cell s4) hfar⟩ : _ ∧ _ ∧ _ ∧ _ ∧ _)
      refine hK.out _ _ hHeld2 (fun hHeld => ?_)
      clear hK K
      (try simp only [Act.put, List.getElem_toArray, List.getElem_cons_succ, List.getElem_cons_zero, List.setIfInBounds_toArray, List.set_cons_zero, List.set_cons_succ])
      refine wpAnyH_ready (rs := [10]) (by kernel_rfl) (by simp) ?_
      refine (AllReadyH.cons rfl (fun K hK => ?_) AllReadyH.nil)
      go_simp
      refine hK.out _ _ hHeld (fun hHeld => ?_)
      clear hK K
      (try simp only [Act.put, List.getElem_toArray, List.getElem_cons_succ, List.getElem_cons_zero, List.setIfInBounds_toArray, List.set_cons_zero, List.set_cons_succ])
      refine wpAnyH_done (by kernel_rfl) ?_ _
      go_wp2_with fail
      refine ret_3 Try.results31 rfl (resVal.tmp rfl) (resVal.box rfl (((((HA5.out.put 0 _).put 1 _).put 2 _).put 3 _).put 4 _) Try.underlying33 rfl (by kernel_rfl)) (resVal.tmp rfl) ?_
      have hka := HK5.out.any.trans hkp
      have hT0 : T1 (w.heap.size + 1) = 0 := Classical.byContradiction fun h => by have := HTF.out.2.1 _ h; omega
      exact ⟨_, p, T1, S, R, rfl, HSF.out.kept hka (fun g e => by rw [e]; exact hT0), ((HRF.out.keep HK5.out).kept hkp (fun g _ e => .inr (.inr (by have e' : g = w.heap.size + 1 := e; omega)))).mono (fun g _ h => .inl h), HLF.out, fun g hg => by have := HTF.out.2.1 g hg; omega, (HK0.out.trans (HKF.out.trans HK5.out)).own hkp (by omega)⟩
end Go.Proofs.Ytehcfahfbdphpaa
namespace Go.Proofs.Ytehcfahfbdphpaa
open Go.RowKit Go.Shelf

set_option maxRecDepth 100000 in
set_option maxHeartbeats 1000000 in
theorem plays_any (m c : Int) (A B : Option Addr) (rc bc : Nat) (rooms : List Int) (l : List AC) (w : World) (hv : RowV w noX (.slice A rooms.length rc) (dI rooms)) (ha : ActsAt w B l) :
    Calls Try.prog 4 #[.agg #[.int .i64 m, .int .i64 c, .slice A rooms.length rc], .slice B l.length bc] w fun e W' => e = .returned (.bool true) ∧ Kept noX w W' := by
  have HS := Lib.hid (small_any m c A rc rooms B l.length bc)
  have HV := Lib.hid hv
  have HA := Lib.hid ha
  have HW := Lib.hid works_any
  cases hb : (okN m c rooms && decide (l.length ≤ 100)) with
  | false =>
    rw [hb] at HS
    clear hb hv ha
    go_enter Try.func4, Try.ntmps4
    go_wp2_with fail
    refine (HS.out _ (Rep.keep HV.out (by first | exact Kept.refl _ _ | exact (Kept.refl _ _).alloc _))).mono ?_
    rintro e W1 ⟨rfl, hk1⟩
    go_wp2_with (go_at_call 11; refine (HW.out _).mono ?_; rintro e W2 ⟨rfl, hk2⟩)
    go_ret
    exact ⟨rfl, by first | exact hk1.trans hk2 | exact (((Kept.refl _ _).alloc _).trans hk1).trans hk2⟩
  | true =>
    rw [hb] at HS
    rw [Bool.and_eq_true, decide_eq_true_eq] at hb
    have HP := Lib.hid (fun w' (hk : Kept noX w w') => played_any m c A B rc bc rooms l w' (Rep.keep hv hk) (ha.keep hk) hb.1 hb.2)
    clear hb hv ha
    go_enter Try.func4, Try.ntmps4
    go_wp2_with fail
    refine (HS.out _ (Rep.keep HV.out (by first | exact Kept.refl _ _ | exact (Kept.refl _ _).alloc _))).mono ?_
    rintro e W1 ⟨rfl, hk1⟩
    have hF := (Cells.fresh w 24 [.int .i64 m, .int .i64 c, .slice A rooms.length rc]).keep hk1
    have f0 := hF.cell 0
    have f1 := hF.cell 1
    have f2 := hF.cell 2
    simp only [List.getElem?_cons_zero, List.getElem?_cons_succ] at f0 f1 f2
    have HK1 := Lib.hid (((Kept.refl noX w).alloc _).trans hk1)
    clear hF hk1
    go_wp2_with fail
    refine (HP.out _ HK1.out).mono ?_
    rintro e W2 ⟨vs', p, T, S, R, rfl, -, hR, -, -, hk2⟩
    obtain ⟨q0', q1', q2', q3', q4', hvs, r0', r1', r2', r3', r4'⟩ := hR
    obtain ⟨D0, n0', d0, rfl, hn0', -⟩ := r0'.form
    obtain ⟨D1, n1', d1, rfl, hn1', -⟩ := r1'.form
    obtain ⟨D2, n2', d2, rfl, hn2', -⟩ := r2'.form
    obtain ⟨D3, n3', d3, rfl, hn3', -⟩ := r3'.form
    obtain ⟨D4, n4', d4, rfl, hn4', -⟩ := r4'.form
    rw [List.length_map] at hn0' hn1' hn2' hn3' hn4'
    subst hn0' hn1' hn2' hn3' hn4'
    subst hvs
    clear r0' r1' r2' r3' r4'
    go_wp2_with (go_at_call 11; refine (HW.out _).mono ?_; rintro e W3 ⟨rfl, hk3⟩)
    go_ret
    exact ⟨rfl, ((HK1.out.trans hk2).alloc _).trans hk3⟩
end Go.Proofs.Ytehcfahfbdphpaa
