/- A region that draws its order, by what holds whatever has come up so far (conditions: none; it is of no program). -/
import Derived.Test.YtehcfahfbdphpaaRangeDS
import Derived.Deep.RegionHeld
namespace Go.Proofs.Ytehcfahfbdphpaa
open Go.RowKit Go.Shelf

section
variable {P : Program} {ops : Array Oper} {Q : Exit → Act → World → Prop} {md : Region.Mode}
theorem ready_iff {l : Array Bool} {i : Nat} : i ∈ Region.ready md ops l ↔ i < ops.size ∧ l.getD i true = false ∧ ((ops[i]?).map (·.after.all fun e => !Region.binds md e || l.getD e.on false)).getD false = true := by
  unfold Region.ready
  rw [List.mem_filter, List.mem_range, Bool.and_eq_true, Bool.not_eq_true']
def unlisted (l : Array Bool) : Nat := l.toList.countP (fun b => !b)
theorem unlisted_set {l : Array Bool} {i : Nat} (h : l.getD i true = false) : unlisted (l.setIfInBounds i true) + 1 = unlisted l := by
  have hi : i < l.toList.length := by
    rcases Nat.lt_or_ge i l.size with h1 | h1
    · simpa using h1
    · rw [Array.getD_eq_getD_getElem?, Array.getElem?_eq_none h1] at h; cases h
  have hb : l.toList[i] = false := by
    rw [Array.getD_eq_getD_getElem?, Array.getElem?_eq_getElem (by simpa using hi)] at h
    simpa using h
  unfold unlisted
  rw [Array.toList_setIfInBounds, List.set_eq_take_append_cons_drop, if_pos hi]
  have e : l.toList = l.toList.take i ++ l.toList[i] :: l.toList.drop (i + 1) := by rw [List.getElem_cons_drop, List.take_append_drop]
  conv => rhs; rw [e]
  rw [List.countP_append, List.countP_append, List.countP_cons, List.countP_cons, hb]
  simp
  omega
theorem wpOp_shut {i : Nat} {o : Oper} {a : Act} {w : World} {K : Act → World → Prop} (ho : ops[i]? = some o)
    (h : ∀ K' : Act → World → Prop, Shut (∀ a w, K a w → K' a w) → if Region.wanted o (yielded ops a.tmps) = true then Oper.wp P o a w K' Q else K' (a.put o.dst undef) w) : wpOp P ops Q i K a w :=
  wpOp_step ho (fun K' hK => h K' hK)
theorem wpAnyH_inv (J : Array Bool → Act → World → Prop)
    (hstep : ∀ l a w, J l a w → ∀ i ∈ Region.ready md ops l, wpOp P ops Q i (fun a' w' => J (l.setIfInBounds i true) a' w') a w)
    (hend : ∀ l a w, J l a w → Region.ready md ops l = [] → Q .normal a w) :
    ∀ fuel l a w, J l a w → unlisted l ≤ fuel → wpAnyH P md ops Q (fun _ => True) fuel l a w := by
  intro fuel
  induction fuel with
  | zero =>
    intro l a w hJ hu
    have h0 : Region.ready md ops l = [] := by
      rw [List.eq_nil_iff_forall_not_mem]
      intro i hi
      obtain ⟨h1, h2, _⟩ := ready_iff.1 hi
      have := unlisted_set h2
      omega
    exact ⟨h0, hend l a w hJ h0⟩
  | succ fuel ih =>
    intro l a w hJ hu
    refine ⟨hend l a w hJ, fun i hi => wpOp_mono (fun a' w' h => ⟨trivial, ih _ a' w' h ?_⟩) (hstep l a w hJ i hi)⟩
    have := unlisted_set (ready_iff.1 hi).2.1
    omega
end
end Go.Proofs.Ytehcfahfbdphpaa
