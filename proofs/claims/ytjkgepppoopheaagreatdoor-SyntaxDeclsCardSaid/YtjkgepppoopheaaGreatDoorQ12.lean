/- The document's reader of layer 2: where something has not stood nothing more is read; a statement goes on or misses (conditions: none). -/
import Derived.Test.YtjkgepppoopheaaGreatDoorAbb
import Derived.Test.YtjkgepppoopheaaGreatDoorQ6
set_option maxRecDepth 100000
set_option maxHeartbeats 1000000
namespace Go.Proofs.YtjkgepppoopheaaGreatDoor
open Go.RowKit Go.Shelf
section
variable {n : Nat} {T : Nat → TokD}
theorem isP_bad {k : Nat} {s : ByteArray} : isP n T k true s = false := rfl
theorem kindP_bad {k : Nat} {q : Int} : kindP n T k true q = false := by unfold kindP; simp
theorem kindStep_bad {k : Nat} {q : Int} : kindStep n T k true q = k := by unfold kindStep; rw [kindP_bad, if_neg Bool.false_ne_true]
theorem kindBad_bad {k : Nat} {q : Int} : kindBad n T k true q = true := by unfold kindBad; rw [kindP_bad] <;> rfl
theorem nextP_bad {k : Nat} {q : Int} : nextP n T k true q = 0 := by
 by_cases h : nextP n T k true q = 0
 ·exact h
 ·exact absurd (nextP_some h).2.1 (by decide)
theorem reads_stuck : ∀ f, (∀ k, (primP n T f k true).2 = (k, true)) ∧ (∀ k, (unP n T f k true).2 = (k, true)) ∧ (∀ q k, (exprP n T f q k true).2 = (k, true)) ∧ (∀ q e k, (loopP n T f q e k true).2 = (k, true)) := by
 intro f
 induction f with
 | zero => exact ⟨fun k => (by rw [primP]), fun k => (by rw [unP]), fun q k => (by rw [exprP]), fun q e k => (by rw [loopP])⟩
 | succ f ih =>
  obtain ⟨h1, h2, h3, h4⟩ := ih
  refine ⟨fun k => ?_, fun k => ?_, fun q k => ?_, fun q e k => ?_⟩
  ·rw [primP, isP_bad, if_neg Bool.false_ne_true]
   split
   ·rw [kindStep_bad, kindBad_bad]
   ·rw [kindStep_bad, kindBad_bad, isP_bad, if_neg Bool.false_ne_true]
  ·rw [unP, isP_bad, isP_bad, if_neg Bool.false_ne_true, if_neg Bool.false_ne_true]
   exact h1 k
  ·rw [exprP]
   split
   ·exact h2 k
   ·rw [h3 (q + 1) k]
    exact h4 q _ k
  ·rw [loopP, nextP_bad, if_pos rfl]
theorem exR_stuck (k : Nat) : (exR n T (k, true)).2 = (k, true) := (reads_stuck _).2.2.1 1 k
theorem muR_stuck (k : Nat) (s : ByteArray) : muR n T (k, true) s = (k, true) := by
 show mustK n T k true s = (k, true)
 unfold mustK stepP
 rw [isP_bad, if_neg Bool.false_ne_true]
 rfl
theorem naR_stuck (k : Nat) : (naR n T (k, true)).2 = (k, true) := by
 show (kindStep n T k true 1, kindBad n T k true 1) = (k, true)
 rw [kindStep_bad, kindBad_bad]
theorem nuR_stuck (k : Nat) : (nuR n T (k, true)).2 = (k, true) := by
 show (kindStep n T k true 2, kindBad n T k true 2) = (k, true)
 rw [kindStep_bad, kindBad_bad]
theorem isR_bad (k : Nat) (s : ByteArray) : isR n T (k, true) s = false := rfl
theorem setR_stuck (s0 : RS) (k : Nat) (nm : ByteArray) : (setR n T s0 (nm, (k, true))).2 = (k, true) := by
 show muR n T (exR n T (muR n T (k, true) _)).2 _ = _
 rw [muR_stuck, exR_stuck, muR_stuck]
theorem rest_stuck (f k : Nat) : restR n T f (k, true) = ([], (k, true)) := by
 cases f with
 | zero => rw [restR]
 | succ f => rw [restR] <;> rfl
theorem block_stuck (f k : Nat) : (blockR n T f (k, true)).2 = (k, true) := by
 cases f with
 | zero => rw [blockR]
 | succ f => rw [blockR, muR_stuck, rest_stuck]; exact muR_stuck k _
theorem stmt_prog (f k : Nat) : k < (stmtR n T (f + 1) (k, false)).2.1 ∨ (stmtR n T (f + 1) (k, false)).2.2 = true := by
 by_cases hk : kindR n T (k, false) = 0
 ·rw [stmtR, if_pos hk]
  cases hp : kindP n T k false 1 with
  | true =>
   have h1 : (naR n T (k, false)).2.1 = k + 1 := by
    show kindStep n T k false 1 = k + 1
    unfold kindStep
    rw [hp, if_pos rfl]
   refine .inl ?_
   split
   ·rename_i hb
    have := ((nextR_on (n := n) (isR_lt hb).1).trans ((exR_on (T := T) _).trans (putR_on (T := T) (k, false) (naR n T (k, false)) _))).1
    rw [h1] at this
    exact this
   ·have := (setR_on (n := n) (T := T) (k, false) (naR n T (k, false))).1
    rw [h1] at this
    exact this
  | false =>
   have h1 : (naR n T (k, false)).2 = (k, true) := by
    show (kindStep n T k false 1, kindBad n T k false 1) = (k, true)
    unfold kindStep kindBad
    rw [hp, if_neg Bool.false_ne_true]
    rfl
   refine .inr ?_
   rw [show isR n T (naR n T (k, false)).2 ⟨#[91]⟩ = false from by rw [h1] <;> rfl, if_neg Bool.false_ne_true]
   have e : naR n T (k, false) = ((naR n T (k, false)).1, (k, true)) := Prod.ext rfl h1
   rw [e, setR_stuck]
 ·refine .inl ?_
  have h0 := (stmts_on (n := n) (T := T) f).2.1
  rw [stmtR, if_neg hk]
  have hnx : ∀ st' : RS, On n (nextR (k, false)) st' → k < st'.1 := fun st' h => h.1
  split
  ·exact hnx _ ((naR_on _).trans (letR_on _ _))
  ·split
   ·split
    ·rename_i hb
     exact hnx _ ((((exR_on _)).trans (h0 _)).trans ((nextR_on (isR_lt hb).1).trans (h0 _)))
    ·exact hnx _ ((exR_on _).trans (h0 _))
   ·split
    ·exact hnx _ ((exR_on _).trans (h0 _))
    ·split
     ·exact hnx _ (((naR_on _).trans (naR_on _)).trans (muR_on _ _))
     ·split
      ·exact hnx _ (((naR_on _).trans (exR_on _)).trans (muR_on _ _))
      ·split
       ·exact hnx _ (muR_on _ _)
       ·split
        ·exact hnx _ ((exR_on _).trans (muR_on _ _))
        ·exact hnx _ ((naR_on _).trans (muR_on _ _))
end
end Go.Proofs.YtjkgepppoopheaaGreatDoor
