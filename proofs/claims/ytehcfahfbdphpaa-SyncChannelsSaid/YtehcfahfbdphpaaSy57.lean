/- Layer 4: Send and Recv by both (conditions: a state stands as the document's). -/
import Derived.Test.YtehcfahfbdphpaaSy41
import Derived.Test.YtehcfahfbdphpaaSy52
import Derived.Test.YtehcfahfbdphpaaSy54
import Derived.Test.YtehcfahfbdphpaaSy55
import Derived.Test.YtehcfahfbdphpaaSy56
namespace Go.Proofs.Ytehcfahfbdphpaa
open Go.RowKit Go.Shelf

section
variable {w : World} {T : Nat → Nat} {p : Nat} {S : SS} {vs : List Value} {R : RS} {Z0 : Nat → Prop} {n : Nat}
theorem Like.qi (h : Like S R) (i : Nat) (hi : i < R.rm.length) (h1 : i < S.qs.length) (h2 : i < R.st.length) (h3 : i < R.tk.length) : S.qs[i] = ⟨R.st[i].drop R.tk[i], R.rm[i], (R.st[i].length : Int)⟩ ∧ R.tk[i] ≤ R.st[i].length ∧ R.st[i].length ≤ 1000000000 := h.q i hi
theorem Like.sent (h : Like S R) (i : Nat) (hi : i < R.rm.length) (h2 : i < R.st.length) (h3 : i < R.tk.length) (hl : R.st[i].length < 1000000000) (t : Int) : Like { S with qs := S.qs.set i ⟨R.st[i].drop R.tk[i] ++ [t], R.rm[i], (R.st[i].length : Int) + 1⟩ } { R with st := R.st.set i (R.st[i] ++ [t]) } := by
  have hq := h.qi i hi (by rw [h.qs]; exact hi) h2 h3
  refine ⟨h.os, h.cs, by simpa using h.qs, by simpa using h.st, h.tk, fun j hj => ?_⟩
  have hj1 : j < S.qs.length := by rw [h.qs]; exact hj
  have hj2 : j < R.st.length := by rw [h.st]; exact hj
  have hj3 : j < R.tk.length := by rw [h.tk]; exact hj
  show (S.qs.set i _)[j]'_ = ⟨((R.st.set i _)[j]'_).drop (R.tk[j]'_), R.rm[j]'_, (((R.st.set i _)[j]'_).length : Int)⟩ ∧ R.tk[j]'_ ≤ ((R.st.set i _)[j]'_).length ∧ ((R.st.set i _)[j]'_).length ≤ 1000000000
  by_cases hij : i = j
  · subst hij
    simp only [List.getElem_set_self]
    refine ⟨?_, ?_, ?_⟩
    · rw [List.drop_append_of_le_length hq.2.1, List.length_append]
      rfl
    · rw [List.length_append]; have := hq.2.1; omega
    · rw [List.length_append]; simp; omega
  · simp only [List.getElem_set_ne hij]
    exact h.qi j hj hj1 hj2 hj3
theorem Like.taken (h : Like S R) (i : Nat) (hi : i < R.rm.length) (h2 : i < R.st.length) (h3 : i < R.tk.length) {x : Int} {r : List Int} (hx : R.st[i].drop R.tk[i] = x :: r) : Like { S with qs := S.qs.set i ⟨r, R.rm[i], (R.st[i].length : Int)⟩ } { R with tk := R.tk.set i (R.tk[i] + 1) } := by
  have hq := h.qi i hi (by rw [h.qs]; exact hi) h2 h3
  have htl : R.tk[i] < R.st[i].length := by
    have h1 : (R.st[i].drop R.tk[i]).length = r.length + 1 := by rw [hx]; rfl
    rw [List.length_drop] at h1
    omega
  have hr : R.st[i].drop (R.tk[i] + 1) = r := by
    have h1 := List.drop_eq_getElem_cons htl
    rw [hx] at h1
    injection h1 with _ h1
    exact h1.symm
  refine ⟨h.os, h.cs, by simpa using h.qs, h.st, by simpa using h.tk, fun j hj => ?_⟩
  have hj1 : j < S.qs.length := by rw [h.qs]; exact hj
  have hj2 : j < R.st.length := by rw [h.st]; exact hj
  have hj3 : j < R.tk.length := by rw [h.tk]; exact hj
  show (S.qs.set i _)[j]'_ = ⟨(R.st[j]'_).drop ((R.tk.set i _)[j]'_), R.rm[j]'_, ((R.st[j]'_).length : Int)⟩ ∧ (R.tk.set i _)[j]'_ ≤ (R.st[j]'_).length ∧ (R.st[j]'_).length ≤ 1000000000
  by_cases hij : i = j
  · subst hij
    simp only [List.getElem_set_self]
    exact ⟨by rw [hr], by omega, hq.2.2⟩
  · simp only [List.getElem_set_ne hij]
    exact h.qi j hj hj1 hj2 hj3
theorem OkR.sent (h : OkR R n) (i : Nat) (hi : i < R.rm.length) (h2 : i < R.st.length) (h3 : i < R.tk.length) (hf : ¬ R.rm[i] ≤ ((R.st[i].drop R.tk[i]).length : Int)) (t : Int) : OkR { R with st := R.st.set i (R.st[i] ++ [t]) } (n + 1) := by
  refine ⟨h.ow, fun j hj => Nat.le_succ_of_le (h.cs j hj), fun j hj => ?_, h.th, fun j hj hj1 hj2 => ?_, by have := h.sz; simpa using this⟩
  · have hj' : j < R.st.length := by simpa using hj
    show ((R.st.set i _)[j]'_).length ≤ n + 1
    rw [List.getElem_set]
    split
    · have := h.st i h2; simp; omega
    · exact Nat.le_succ_of_le (h.st j hj')
  · have hj' : j < R.st.length := by simpa using hj
    show ((((R.st.set i _)[j]'_).length - R.tk[j]'_ : Nat) : Int) ≤ R.rm[j]'_
    by_cases hij : i = j
    · subst hij
      simp only [List.getElem_set_self, List.length_append, List.length_cons, List.length_nil]
      rw [List.length_drop] at hf
      omega
    · simp only [List.getElem_set_ne hij]
      exact h.full j hj' hj1 hj2
theorem OkR.taken (h : OkR R n) (i : Nat) : OkR { R with tk := R.tk.set i (R.tk[i]?.getD 0 + 1) } (n + 1) := by
  refine ⟨h.ow, fun j hj => Nat.le_succ_of_le (h.cs j hj), fun j hj => Nat.le_succ_of_le (h.st j hj), h.th, fun j hj hj1 hj2 => ?_, by have := h.sz; simpa using this⟩
  have hj1' : j < R.tk.length := by simpa using hj1
  have hf := h.full j hj hj1' hj2
  show (((R.st[j]'_).length - (R.tk.set i _)[j]'_ : Nat) : Int) ≤ R.rm[j]'_
  by_cases hij : i = j
  · subst hij
    simp only [List.getElem_set_self, List.getElem?_eq_getElem hj1', Option.getD_some]
    have hf' : ((R.st[i].length - R.tk[i] : Nat) : Int) ≤ R.rm[i] := hf
    omega
  · simp only [List.getElem_set_ne hij]
    exact hf
variable (hS : SyAt w T p S) (h : RV w Z0 vs R) (hL : Like S R) (hO : OkR R n) (hn : n ≤ 1000000) (hTZ : ∀ g, T g ≠ 0 → Z0 g) (hZs : ∀ g, Z0 g → g < w.heap.size)
include hS h hL hO hn hTZ hZs
theorem both_send (m t v : Int) : Calls Try.prog 32 #[.pointer (some ⟨p, 0, none⟩), .agg vs.toArray, .agg #[.int .i64 5, .int .i64 m, .int .i64 t, .int .i64 v]] w (BP w T Z0 p R n) := by
  rcases out_or (m := m) (k := R.rm.length) with hm | ⟨i, rfl, hi⟩
  · exact (act_send hS h.any hTZ (tt := -1) (u := 0) (ok := false) (no := 4) (.inl ⟨rfl, rfl, rfl⟩) (fun W0 hk hs => (zsend_out (h.any.keep hk) m hm).mono (fun e W' he => ⟨⟨vs, he.1, rv_zt h (hk.trans he.2)⟩, he.2⟩))
      (fun W1 hS1 => (send_out hS1 v m (by rw [hL.qs]; exact hm)).mono (fun e W' he => ⟨he.1, hS1.same he.2⟩))).mono (fun e W' he => BP.same he hL hO)
  · have hi1 : i < S.qs.length := by rw [hL.qs]; exact hi
    have hi2 : i < R.st.length := by rw [hL.st]; exact hi
    have hi3 : i < R.tk.length := by rw [hL.tk]; exact hi
    have hq := hL.qi i hi hi1 hi2 hi3
    have hln := hO.st i hi2
    have hfu := hO.full i hi2 hi3 hi
    have hsz := hO.sz
    cases ht : inI (-2147483648) 2147483647 v with
    | false =>
      exact (act_send hS h.any hTZ (tt := -1) (u := 0) (ok := false) (no := 2) (.inl ⟨rfl, rfl, rfl⟩) (fun W0 hk hs => (zsend_bad (h.any.keep hk) i hi ht).mono (fun e W' he => ⟨⟨vs, he.1, rv_zt h (hk.trans he.2)⟩, he.2⟩))
        (fun W1 hS1 => (send_bad hS1 v i hi1 ht).mono (fun e W' he => ⟨he.1, hS1.same he.2⟩))).mono (fun e W' he => BP.same he hL hO)
    | true =>
      by_cases hf : R.rm[i] ≤ ((R.st[i].drop R.tk[i]).length : Int)
      · have hfe : (S.qs[i].it.length : Int) = S.qs[i].room := by
          rw [hq.1]
          show ((R.st[i].drop R.tk[i]).length : Int) = R.rm[i]
          rw [List.length_drop] at hf ⊢
          omega
        exact (act_send hS h.any hTZ (tt := -1) (u := 0) (ok := false) (no := 0) (.inl ⟨rfl, rfl, rfl⟩) (fun W0 hk hs => (zsend_full (h.any.keep hk) i hi hL.st hL.tk hq.2.1 ⟨by omega, hq.2.2⟩ ht hf).mono (fun e W' he => ⟨⟨vs, he.1, rv_zt h (hk.trans he.2)⟩, he.2⟩))
          (fun W1 hS1 => (send_full hS1 v i hi1 ht hfe).mono (fun e W' he => ⟨he.1, hS1.same he.2⟩))).mono (fun e W' he => BP.same he hL hO)
      · have hfe : ¬ (S.qs[i].it.length : Int) = S.qs[i].room := by
          rw [hq.1]
          show ¬ ((R.st[i].drop R.tk[i]).length : Int) = R.rm[i]
          omega
        refine (act_send hS h.any hTZ (tt := R.st[i].length) (u := R.st[i].length) (ok := true) (no := 0) (.inr ⟨by omega, rfl, rfl⟩) (S' := { S with qs := S.qs.set i ⟨R.st[i].drop R.tk[i] ++ [v], R.rm[i], (R.st[i].length : Int) + 1⟩ }) (R' := { R with st := R.st.set i (R.st[i] ++ [v]) }) (fun W0 hk hs => (zsend_ok (h.any.keep hk) (hO.rb (by omega)) i hi hL.st hL.tk hq.2.1 ⟨by omega, by omega⟩ ht hf).mono (fun e W' he => by
            obtain ⟨⟨vs', h1, h2⟩, h3⟩ := he
            exact ⟨⟨vs', h1, rv_zt2 hZs hs h2⟩, h3⟩))
          (fun W1 hS1 => ?_)).mono (fun e W' he => ⟨_, _, he, hL.sent i hi hi2 hi3 (by omega) v, hO.sent i hi hi2 hi3 hf v, ⟨rfl, rfl, rfl⟩⟩)
        have hc := send_ok hS1 v i hi1 ht hfe (by rw [hq.1]; show (R.st[i].drop R.tk[i]).length < 1000000000; rw [List.length_drop]; omega) (by rw [hq.1]; show (0 : Int) ≤ (R.st[i].length : Int); omega) (by rw [hq.1]; show (R.st[i].length : Int) ≤ 1000000000000; omega)
        rw [hq.1] at hc
        exact hc
theorem both_recv (q : Int) (hqq : (q == 0) = false ∧ (q == 1) = false ∧ (q == 2) = false ∧ (q == 3) = false ∧ (q == 4) = false ∧ (q == 5) = false) (m t v : Int) : Calls Try.prog 32 #[.pointer (some ⟨p, 0, none⟩), .agg vs.toArray, .agg #[.int .i64 q, .int .i64 m, .int .i64 t, .int .i64 v]] w (BP w T Z0 p R n) := by
  rcases out_or (m := m) (k := R.rm.length) with hm | ⟨i, rfl, hi⟩
  · exact (act_recv hS h.any hTZ hqq (tt := -1) (u := 0) (ok := false) (no := 4) (y := 0) (.inl ⟨rfl, rfl, rfl⟩) (fun W0 hk hs => (zrecv_out (h.any.keep hk) m hm).mono (fun e W' he => ⟨⟨vs, he.1, rv_zt h (hk.trans he.2)⟩, he.2⟩))
      (fun W1 hS1 => (recv_out hS1 m (by rw [hL.qs]; exact hm)).mono (fun e W' he => ⟨he.1, hS1.same he.2⟩))).mono (fun e W' he => BP.same he hL hO)
  · have hi1 : i < S.qs.length := by rw [hL.qs]; exact hi
    have hi2 : i < R.st.length := by rw [hL.st]; exact hi
    have hi3 : i < R.tk.length := by rw [hL.tk]; exact hi
    have hq := hL.qi i hi hi1 hi2 hi3
    have hln := hO.st i hi2
    have hsz := hO.sz
    cases hx : R.st[i].drop R.tk[i] with
    | nil =>
      exact (act_recv hS h.any hTZ hqq (tt := -1) (u := 0) (ok := false) (no := 0) (y := 0) (.inl ⟨rfl, rfl, rfl⟩) (fun W0 hk hs => (zrecv_nil (h.any.keep hk) i hi hL.st hL.tk hq.2.1 ⟨by omega, hq.2.2⟩ hx).mono (fun e W' he => ⟨⟨vs, he.1, rv_zt h (hk.trans he.2)⟩, he.2⟩))
        (fun W1 hS1 => (recv_nil hS1 i hi1 (by rw [hq.1]; exact hx)).mono (fun e W' he => ⟨he.1, hS1.same he.2⟩))).mono (fun e W' he => BP.same he hL hO)
    | cons x r =>
      have hrl : R.st[i].length - R.tk[i] = r.length + 1 := by
        have h1 : (R.st[i].drop R.tk[i]).length = r.length + 1 := by rw [hx]; rfl
        rwa [List.length_drop] at h1
      have hq2 := hq.2.1
      have hok := hO.taken i
      rw [List.getElem?_eq_getElem hi3, Option.getD_some] at hok
      refine (act_recv hS h.any hTZ hqq (tt := R.tk[i]) (u := R.tk[i]) (ok := true) (no := 0) (y := x) (.inr ⟨by omega, rfl, rfl⟩) (S' := { S with qs := S.qs.set i ⟨r, R.rm[i], (R.st[i].length : Int)⟩ }) (R' := { R with tk := R.tk.set i (R.tk[i] + 1) }) (fun W0 hk hs => (zrecv_some (h.any.keep hk) (hO.rb (by omega)) i hi hL.st hL.tk hq.2.1 ⟨by omega, hq.2.2⟩ x r hx).mono (fun e W' he => by
            obtain ⟨⟨vs', h1, h2⟩, h3⟩ := he
            exact ⟨⟨vs', h1, rv_zt2 hZs hs h2⟩, h3⟩))
          (fun W1 hS1 => ?_)).mono (fun e W' he => ⟨_, _, he, hL.taken i hi hi2 hi3 hx, hok, ⟨rfl, rfl, rfl⟩⟩)
      have hc := recv_some hS1 i hi1 x r (by rw [hq.1]; exact hx) (by rw [hq.1]; show (0 : Int) ≤ (R.st[i].length : Int); omega) (by rw [hq.1]; show (R.st[i].length : Int) ≤ 1000000000000; omega)
      rw [hq.1] at hc
      have he : ((R.st[i].length : Int) - ((r.length + 1 : Nat) : Int)) = (R.tk[i] : Int) := by omega
      refine hc.mono (fun e W' h1 => ⟨?_, h1.2⟩)
      rw [h1.1]
      show Ending.returned (.tuple #[.int .i64 x, .int .i64 ((R.st[i].length : Int) - ((r.length + 1 : Nat) : Int)), .bool true, .int .i64 0]) = _
      rw [he]
end
end Go.Proofs.Ytehcfahfbdphpaa
