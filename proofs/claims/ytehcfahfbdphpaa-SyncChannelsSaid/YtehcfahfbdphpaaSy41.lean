/- Layer 4: Lock and Unlock by both (conditions: a state stands as the document's). -/
import Derived.Test.YtehcfahfbdphpaaSy40
namespace Go.Proofs.Ytehcfahfbdphpaa
open Go.RowKit Go.Shelf

/-- Both have answered alike, and stand alike. -/
def BP (w : World) (T : Nat → Nat) (Z0 : Nat → Prop) (p : Nat) (R : RS) (n : Nat) (e : Ending) (W' : World) : Prop := ∃ S' R', AP w T Z0 p S' R' e W' ∧ Like S' R' ∧ OkR R' (n + 1) ∧ SzR R R'
section
variable {w : World} {T : Nat → Nat} {p : Nat} {S : SS} {vs : List Value} {R : RS} {Z0 : Nat → Prop} {n : Nat}
theorem rv_zt {W' : World} (h : RV w Z0 vs R) (hk : Kept noX w W') : RV W' (ZT Z0 w.heap.size (w.heap.size + 3)) vs R :=
  (h.mono (fun g hg h => h.elim id (fun h => by omega))).keep hk
theorem rv_zt2 {W0 W' : World} {vs' : List Value} {R' : RS} (hZ : ∀ g, Z0 g → g < w.heap.size) (hs : W0.heap.size = w.heap.size + 3) (h : RV W' (· < W0.heap.size) vs' R') : RV W' (ZT Z0 w.heap.size (w.heap.size + 3)) vs' R' :=
  h.mono (fun g _ h => by
    rcases h with h | h
    · have := hZ g h
      show g < W0.heap.size
      omega
    · show g < W0.heap.size
      omega)
theorem Like.lenO (h : Like S R) : S.os.length = R.ow.length := by rw [h.os]
theorem Like.lenC (h : Like S R) : S.cs.length = R.cs.length := by rw [h.cs]
theorem Like.setO (h : Like S R) (i : Nat) (t : Int) : Like { S with os := S.os.set i t } { R with ow := R.ow.set i t } := ⟨by show S.os.set i t = R.ow.set i t; rw [h.os], h.cs, h.qs, h.st, h.tk, h.q⟩
theorem OkR.setO (h : OkR R n) (i : Nat) (t : Int) (ht : t = -1 ∨ 0 ≤ t) : OkR { R with ow := R.ow.set i t } (n + 1) := by
  refine ⟨fun j hj => ?_, fun j hj => by have := h.cs j hj; exact Nat.le_succ_of_le this, fun j hj => by have := h.st j hj; exact Nat.le_succ_of_le this, h.th, h.full, by have := h.sz; simpa using this⟩
  have hj' : j < R.ow.length := by simpa using hj
  show (R.ow.set i t)[j]'_ = -1 ∨ 0 ≤ (R.ow.set i t)[j]'_
  rw [List.getElem_set]
  split
  · exact ht
  · exact h.ow j hj'
theorem SzR.rfl' : SzR R R := ⟨rfl, rfl, rfl⟩
theorem BP.same {e : Ending} {W' : World} (h : AP w T Z0 p S R e W') (hL : Like S R) (hO : OkR R n) : BP w T Z0 p R n e W' := ⟨S, R, h, hL, hO.more, SzR.rfl'⟩
theorem out_or {m : Int} {k : Nat} : (m < 0 ∨ (k : Int) ≤ m) ∨ ∃ i : Nat, m = i ∧ i < k := by
  by_cases h : m < 0 ∨ (k : Int) ≤ m
  · exact .inl h
  · exact .inr ⟨m.toNat, by omega, by omega⟩
variable (hS : SyAt w T p S) (h : RV w Z0 vs R) (hL : Like S R) (hO : OkR R n) (hn : n ≤ 1000000) (hTZ : ∀ g, T g ≠ 0 → Z0 g) (hZs : ∀ g, Z0 g → g < w.heap.size)
include hS h hL hO hn hTZ hZs
theorem both_lock (m t v : Int) : Calls Try.prog 32 #[.pointer (some ⟨p, 0, none⟩), .agg vs.toArray, .agg #[.int .i64 0, .int .i64 m, .int .i64 t, .int .i64 v]] w (BP w T Z0 p R n) := by
  rcases out_or (m := m) (k := R.ow.length) with hm | ⟨i, rfl, hi⟩
  · exact (act_lock hS h.any hTZ (ok := false) (no := 4) (fun W0 hk hs => (zlock_out (h.any.keep hk) m hm).mono (fun e W' he => ⟨⟨vs, he.1, rv_zt h (hk.trans he.2)⟩, he.2⟩))
      (fun W1 hS1 => (lock_out hS1 t m (by rw [hL.lenO]; exact hm)).mono (fun e W' he => ⟨he.1, hS1.same he.2⟩))).mono (fun e W' he => BP.same he hL hO)
  · have hi' : i < S.os.length := by rw [hL.lenO]; exact hi
    have hse : S.os[i] = R.ow[i] := by simp [hL.os]
    cases ht : inI 0 7 t with
    | false =>
      exact (act_lock hS h.any hTZ (ok := false) (no := 2) (fun W0 hk hs => (zlock_bad (h.any.keep hk) i hi ht).mono (fun e W' he => ⟨⟨vs, he.1, rv_zt h (hk.trans he.2)⟩, he.2⟩))
        (fun W1 hS1 => (lock_bad hS1 t i hi' ht).mono (fun e W' he => ⟨he.1, hS1.same he.2⟩))).mono (fun e W' he => BP.same he hL hO)
    | true =>
      rcases hO.ow i hi with ho | ho
      · exact (act_lock hS h.any hTZ (ok := true) (no := 0) (S' := { S with os := S.os.set i t }) (R' := { R with ow := R.ow.set i t }) (fun W0 hk hs => (zlock_ok (h.any.keep hk) (hO.rb (by omega)) i hi ht ho).mono (fun e W' he => ⟨by obtain ⟨⟨vs', h1, h2⟩, _⟩ := he; exact ⟨vs', h1, rv_zt2 hZs hs h2⟩, he.2⟩))
          (fun W1 hS1 => lock_ok hS1 t i hi' ht (hse.trans ho))).mono (fun e W' he => ⟨_, _, he, hL.setO i t, hO.setO i t (.inr (by simp [inI] at ht; omega)), ⟨by simp, rfl, rfl⟩⟩)
      · exact (act_lock hS h.any hTZ (ok := false) (no := 0) (fun W0 hk hs => (zlock_own (h.any.keep hk) i hi ht ho).mono (fun e W' he => ⟨⟨vs, he.1, rv_zt h (hk.trans he.2)⟩, he.2⟩))
          (fun W1 hS1 => (lock_own hS1 t i hi' ht (by rw [hse]; omega)).mono (fun e W' he => ⟨he.1, hS1.same he.2⟩))).mono (fun e W' he => BP.same he hL hO)
theorem both_unlock (m t v : Int) : Calls Try.prog 32 #[.pointer (some ⟨p, 0, none⟩), .agg vs.toArray, .agg #[.int .i64 1, .int .i64 m, .int .i64 t, .int .i64 v]] w (BP w T Z0 p R n) := by
  rcases out_or (m := m) (k := R.ow.length) with hm | ⟨i, rfl, hi⟩
  · exact (act_unlock hS h.any hTZ (no := 4) (fun W0 hk hs => (zunlock_out (h.any.keep hk) m hm).mono (fun e W' he => ⟨⟨vs, he.1, rv_zt h (hk.trans he.2)⟩, he.2⟩))
      (fun W1 hS1 => (unlock_out hS1 t m (by rw [hL.lenO]; exact hm)).mono (fun e W' he => ⟨he.1, hS1.same he.2⟩))).mono (fun e W' he => BP.same he hL hO)
  · have hi' : i < S.os.length := by rw [hL.lenO]; exact hi
    have hse : S.os[i] = R.ow[i] := by simp [hL.os]
    cases ht : inI 0 7 t with
    | false =>
      exact (act_unlock hS h.any hTZ (no := 2) (fun W0 hk hs => (zunlock_bad (h.any.keep hk) i hi ht).mono (fun e W' he => ⟨⟨vs, he.1, rv_zt h (hk.trans he.2)⟩, he.2⟩))
        (fun W1 hS1 => (unlock_no hS1 t i hi' 2 rfl (by rw [ht]; rfl)).mono (fun e W' he => ⟨he.1, hS1.same he.2⟩))).mono (fun e W' he => BP.same he hL hO)
    | true =>
      by_cases ho : R.ow[i] = t
      · exact (act_unlock hS h.any hTZ (no := 0) (S' := { S with os := S.os.set i (-1) }) (R' := { R with ow := R.ow.set i (-1) }) (fun W0 hk hs => (zunlock_ok (h.any.keep hk) (hO.rb (by omega)) i hi ht ho).mono (fun e W' he => ⟨by obtain ⟨⟨vs', h1, h2⟩, _⟩ := he; exact ⟨vs', h1, rv_zt2 hZs hs h2⟩, he.2⟩))
          (fun W1 hS1 => unlock_ok hS1 t i hi' ht (hse.trans ho))).mono (fun e W' he => ⟨_, _, he, hL.setO i (-1), hO.setO i (-1) (.inl rfl), ⟨by simp, rfl, rfl⟩⟩)
      · exact (act_unlock hS h.any hTZ (no := 140) (fun W0 hk hs => (zunlock_no (h.any.keep hk) i hi ht ho).mono (fun e W' he => ⟨⟨vs, he.1, rv_zt h (hk.trans he.2)⟩, he.2⟩))
          (fun W1 hS1 => (unlock_no hS1 t i hi' 140 rfl (by have hb : (S.os[i] == t) = false := (by rw [hse]; simpa using ho); rw [ht, hb]; rfl)).mono (fun e W' he => ⟨he.1, hS1.same he.2⟩))).mono (fun e W' he => BP.same he hL hO)
end
end Go.Proofs.Ytehcfahfbdphpaa
