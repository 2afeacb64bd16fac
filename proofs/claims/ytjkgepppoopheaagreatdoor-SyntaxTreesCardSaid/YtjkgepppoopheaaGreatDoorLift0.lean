/- Names of an expression fit an int, however deep they stand (conditions: none). -/
import Derived.Test.YtjkgepppoopheaaGreatDoorG24
namespace Go.Proofs.YtjkgepppoopheaaGreatDoor
open Go.RowKit Go.Shelf

/-- Names fit an int, however deep they stand. -/
def SmE (e : ET) : Prop := ∀ d, smE d e = true
theorem SmE.node {k m : Int} {s : ByteArray} {sl : Int} {lo : Bool} {o : Int} {l : List ET} (hs : s.size ≤ 9223372036854775807) (hl : ∀ e ∈ l, SmE e) : SmE (.node k m s sl lo o l) := by
  intro d
  cases d with
  | zero => rfl
  | succ d =>
    rw [smE, decide_eq_true hs, Bool.true_and, List.all_eq_true]
    exact fun e he => hl e he d
theorem SmE.name {k m : Int} {s : ByteArray} {sl : Int} {lo : Bool} {o : Int} {l : List ET} (h : SmE (.node k m s sl lo o l)) : s.size ≤ 9223372036854775807 := by
  have := h 1
  rw [smE, Bool.and_eq_true] at this
  exact of_decide_eq_true this.1
theorem SmE.arg {k m : Int} {s : ByteArray} {sl : Int} {lo : Bool} {o : Int} {l : List ET} (h : SmE (.node k m s sl lo o l)) {e : ET} (he : e ∈ l) : SmE e := by
  intro d
  have := h (d + 1)
  rw [smE, Bool.and_eq_true, List.all_eq_true] at this
  exact this.2 e he
end Go.Proofs.YtjkgepppoopheaaGreatDoor
