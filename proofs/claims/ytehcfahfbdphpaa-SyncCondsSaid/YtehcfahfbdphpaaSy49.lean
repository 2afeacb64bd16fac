/- Layer 4: Wait, Signal and All by both (conditions: a state stands as the document's). -/
import Derived.Test.YtehcfahfbdphpaaSy41
import Derived.Test.YtehcfahfbdphpaaSy45
import Derived.Test.YtehcfahfbdphpaaSy46
import Derived.Test.YtehcfahfbdphpaaSy47
import Derived.Test.YtehcfahfbdphpaaSy48
import Derived.Test.YtehcfahfbdphpaaSy32
namespace Go.Proofs.Ytehcfahfbdphpaa
open Go.RowKit Go.Shelf

section
variable {w : World} {T : Nat → Nat} {p : Nat} {S : SS} {vs : List Value} {R : RS} {Z0 : Nat → Prop} {n : Nat}
theorem Like.setC (h : Like S R) (i : Nat) (l : List Int) : Like { S with cs := S.cs.set i l } { R with cs := R.cs.set i l } := ⟨h.os, by show S.cs.set i l = R.cs.set i l; rw [h.cs], h.qs, h.st, h.tk, h.q⟩
theorem OkR.setC (h : OkR R n) (i : Nat) (l : List Int) (hl : l.length ≤ n + 1) (ht : ∀ y ∈ l, (0 : Int) ≤ y) : OkR { R with cs := R.cs.set i l } (n + 1) := by
  refine ⟨h.ow, fun j hj => ?_, fun j hj => by have := h.st j hj; exact Nat.le_succ_of_le this, fun l' hl' y hy => ?_, h.full, by have := h.sz; simpa using this⟩
  · have hj' : j < R.cs.length := by simpa using hj
    show ((R.cs.set i l)[j]'_).length ≤ n + 1
    rw [List.getElem_set]
    split
    · exact hl
    · have := h.cs j hj'; omega
  · rcases List.mem_or_eq_of_mem_set hl' with h1 | h1
    · exact h.th l' h1 y hy
    · rw [h1] at hy; exact ht y hy
variable (hS : SyAt w T p S) (h : RV w Z0 vs R) (hL : Like S R) (hO : OkR R n) (hn : n ≤ 1000000) (hTZ : ∀ g, T g ≠ 0 → Z0 g) (hZs : ∀ g, Z0 g → g < w.heap.size)
include hS h hL hO hn hTZ hZs
theorem both_wait (m t v : Int) : Calls Try.prog 32 #[.pointer (some ⟨p, 0, none⟩), .agg vs.toArray, .agg #[.int .i64 2, .int .i64 m, .int .i64 t, .int .i64 v]] w (BP w T Z0 p R n) := by
  have hwe : ∀ wb, R.cs.flatten.any (· == t) = wb → S.cs.flatten.any (· == t) = wb := fun wb h => by rw [hL.cs]; exact h
  rcases out_or (m := m) (k := R.cs.length) with hm | ⟨i, rfl, hi⟩
  · exact (act_wait hS h.any hTZ (no := 4) (fun W0 hk hs => (zwait_out (h.any.keep hk) m hm).mono (fun e W' he => ⟨⟨vs, he.1, rv_zt h (hk.trans he.2)⟩, he.2⟩))
      (fun W1 hS1 => (wait_out hS1 t (hwe _ rfl) m (by rw [hL.lenC]; exact hm)).mono (fun e W' he => ⟨he.1, hS1.same he.2⟩))).mono (fun e W' he => BP.same he hL hO)
  · have hi' : i < S.cs.length := by rw [hL.lenC]; exact hi
    have hse : S.cs[i] = R.cs[i] := by simp [hL.cs]
    have hln := hO.cs i hi
    cases ht : inI 0 7 t with
    | false =>
      exact (act_wait hS h.any hTZ (no := 2) (fun W0 hk hs => (zwait_bad (h.any.keep hk) i hi ht).mono (fun e W' he => ⟨⟨vs, he.1, rv_zt h (hk.trans he.2)⟩, he.2⟩))
        (fun W1 hS1 => (wait_no hS1 t (hwe _ rfl) i hi' 2 rfl (by rw [ht]; cases !(R.cs.flatten.any (· == t)) <;> rfl)).mono (fun e W' he => ⟨he.1, hS1.same he.2⟩))).mono (fun e W' he => BP.same he hL hO)
    | true =>
      cases hwb : R.cs.flatten.any (· == t) with
      | true =>
        exact (act_wait hS h.any hTZ (no := 141) (fun W0 hk hs => (zwait_in (h.any.keep hk) (hO.rb (by omega)) i hi ht (by omega) hwb).mono (fun e W' he => by
            rcases he.1 with ⟨_, h1⟩ | ⟨h1, _⟩
            · exact ⟨⟨vs, h1, rv_zt h (hk.trans he.2)⟩, he.2⟩
            · cases h1))
          (fun W1 hS1 => (wait_no hS1 t (hwe _ hwb) i hi' 141 rfl (by rw [ht]; rfl)).mono (fun e W' he => ⟨he.1, hS1.same he.2⟩))).mono (fun e W' he => BP.same he hL hO)
      | false =>
        exact (act_wait hS h.any hTZ (no := 0) (S' := { S with cs := S.cs.set i (S.cs[i] ++ [t]) }) (R' := { R with cs := R.cs.set i (R.cs[i] ++ [t]) }) (fun W0 hk hs => (zwait_in (h.any.keep hk) (hO.rb (by omega)) i hi ht (by omega) hwb).mono (fun e W' he => by
            rcases he.1 with ⟨h1, _⟩ | ⟨_, vs', h1, h2⟩
            · cases h1
            · exact ⟨⟨vs', h1, rv_zt2 hZs hs h2⟩, he.2⟩))
          (fun W1 hS1 => wait_ok hS1 t (hwe _ hwb) i hi' (by rw [ht]; rfl) (by rw [hse]; omega))).mono (fun e W' he => ⟨_, _, he, by rw [hse]; exact hL.setC i _, hO.setC i _ (by simp; omega) (fun y hy => by
            rcases List.mem_append.1 hy with h1 | h1
            · exact hO.th _ (List.getElem_mem hi) y h1
            · obtain rfl := List.mem_singleton.1 h1
              simp [inI] at ht; omega), ⟨rfl, by simp, rfl⟩⟩)
theorem both_signal (m t v : Int) : Calls Try.prog 32 #[.pointer (some ⟨p, 0, none⟩), .agg vs.toArray, .agg #[.int .i64 3, .int .i64 m, .int .i64 t, .int .i64 v]] w (BP w T Z0 p R n) := by
  rcases out_or (m := m) (k := R.cs.length) with hm | ⟨i, rfl, hi⟩
  · exact (act_signal hS h.any hTZ (tt := -1) (u := 0) (ok := false) (no := 4) (.inl ⟨rfl, rfl, rfl⟩) (fun W0 hk hs => (zsignal_out (h.any.keep hk) m hm).mono (fun e W' he => ⟨⟨vs, he.1, rv_zt h (hk.trans he.2)⟩, he.2⟩))
      (fun W1 hS1 => (signal_out hS1 m (by rw [hL.lenC]; exact hm)).mono (fun e W' he => ⟨he.1, hS1.same he.2⟩))).mono (fun e W' he => BP.same he hL hO)
  · have hi' : i < S.cs.length := by rw [hL.lenC]; exact hi
    have hse : S.cs[i] = R.cs[i] := by simp [hL.cs]
    have hln := hO.cs i hi
    cases hx : R.cs[i] with
    | nil =>
      exact (act_signal hS h.any hTZ (tt := -1) (u := 0) (ok := false) (no := 0) (.inl ⟨rfl, rfl, rfl⟩) (fun W0 hk hs => (zsignal_nil (h.any.keep hk) i hi hx).mono (fun e W' he => ⟨⟨vs, he.1, rv_zt h (hk.trans he.2)⟩, he.2⟩))
        (fun W1 hS1 => (signal_nil hS1 i hi' (hse.trans hx)).mono (fun e W' he => ⟨he.1, hS1.same he.2⟩))).mono (fun e W' he => BP.same he hL hO)
    | cons x r =>
      have hx0 : 0 ≤ x := hO.th _ (List.getElem_mem hi) x (by rw [hx]; simp)
      exact (act_signal hS h.any hTZ (tt := x) (u := x) (ok := true) (no := 0) (.inr ⟨hx0, rfl, rfl⟩) (S' := { S with cs := S.cs.set i r }) (R' := { R with cs := R.cs.set i r }) (fun W0 hk hs => (zsignal_some (h.any.keep hk) (hO.rb (by omega)) i hi x r hx).mono (fun e W' he => by
            obtain ⟨⟨vs', h1, h2⟩, h3⟩ := he
            exact ⟨⟨vs', h1, rv_zt2 hZs hs h2⟩, h3⟩))
          (fun W1 hS1 => signal_some hS1 i hi' x r (hse.trans hx))).mono (fun e W' he => ⟨_, _, he, hL.setC i _, hO.setC i _ (by rw [hx] at hln; simp at hln; omega) (fun y hy => hO.th _ (List.getElem_mem hi) y (by rw [hx]; exact List.mem_cons_of_mem _ hy)), ⟨rfl, by simp, rfl⟩⟩)
theorem both_all (m t v : Int) : Calls Try.prog 32 #[.pointer (some ⟨p, 0, none⟩), .agg vs.toArray, .agg #[.int .i64 4, .int .i64 m, .int .i64 t, .int .i64 v]] w (BP w T Z0 p R n) := by
  rcases out_or (m := m) (k := R.cs.length) with hm | ⟨i, rfl, hi⟩
  · exact (act_all hS h.any hTZ (no := 4) (xs := []) (by simp) (fun W0 hk hs => (zall_out (h.any.keep hk) m hm).mono (fun e W' he => ⟨⟨vs, none, 0, he.1, rv_zt h (hk.trans he.2), .nilrow⟩, he.2⟩))
      (fun W1 hS1 => (all_out hS1 m (by rw [hL.lenC]; exact hm)).mono (fun e W' he => ⟨⟨none, 0, he.1, .nilrow⟩, hS1.same he.2⟩))).mono (fun e W' he => BP.same he hL hO)
  · have hi' : i < S.cs.length := by rw [hL.lenC]; exact hi
    have hse : S.cs[i] = R.cs[i] := by simp [hL.cs]
    have hln := hO.cs i hi
    have hz : ∀ W0, Kept noX w W0 → W0.heap.size = w.heap.size + 3 → Calls Try.prog 62 #[.agg vs.toArray, .int .i64 i] W0 fun e W' => (∃ vs' A c, e = .returned (.tuple #[.agg vs'.toArray, .slice A R.cs[i].length c, .int .i64 0]) ∧ RV W' (ZT Z0 w.heap.size (w.heap.size + 3)) vs' { R with cs := R.cs.set i [] } ∧ RowV W' Z0 (.slice A R.cs[i].length c) (dI R.cs[i])) ∧ Kept noX W0 W' :=
      fun W0 hk hs => (zall_in (h.any.keep hk) (h.keep hk) (hO.rb (by omega)) i hi).mono (fun e W' he => by
        obtain ⟨⟨vs', A, c, h1, h2, h3⟩, h4⟩ := he
        exact ⟨⟨vs', A, c, h1, rv_zt2 hZs hs h2, h3⟩, h4⟩)
    have hfin : ∀ e W', AP w T Z0 p { S with cs := S.cs.set i [] } { R with cs := R.cs.set i [] } e W' → BP w T Z0 p R n e W' := fun e W' he => ⟨_, _, he, hL.setC i _, hO.setC i _ (by simp) (fun y hy => by cases hy), ⟨rfl, by simp, rfl⟩⟩
    refine (act_all hS h.any hTZ (no := 0) (xs := R.cs[i]) (by omega) (S' := { S with cs := S.cs.set i [] }) hz (fun W1 hS1 => ?_)).mono hfin
    cases hx : R.cs[i] with
    | nil =>
      refine (all_nil hS1 i hi' (hse.trans hx)).mono (fun e W' he => ⟨⟨none, 0, he.1, .nilrow⟩, ?_⟩)
      have e1 : ({ S with cs := S.cs.set i [] } : SS) = S := by
        have : S.cs.set i [] = S.cs := by
          have h0 : S.cs[i] = [] := hse.trans hx
          conv => rhs; rw [← List.set_getElem_self hi']
          rw [h0]
        rw [this]
      rw [e1]
      exact hS1.same he.2
    | cons x r =>
      refine (all_some hS1 i hi' x r (hse.trans hx)).mono (fun e W' he => ?_)
      obtain ⟨⟨v, h1, h2⟩, h3⟩ := he
      obtain ⟨A, c, rfl, _, _⟩ := own_formN h2
      exact ⟨⟨A, c, h1, own_row (own_low h2 (Nat.zero_le _)) (fun _ _ h => h)⟩, h3⟩
end
end Go.Proofs.Ytehcfahfbdphpaa
