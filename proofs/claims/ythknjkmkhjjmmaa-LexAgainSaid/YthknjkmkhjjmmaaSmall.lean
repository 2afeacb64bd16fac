/- Contracts of the small functions of lex and of the document's answer: which bytes are letters, digits, blanks; a reader at its begin (conditions: none). -/
import Derived.Test.YthknjkmkhjjmmaaBase
namespace Go.Proofs.Ythknjkmkhjjmmaa
open Go.RowKit Go.Shelf

def letB (x : Int) : Bool := decide (97 ≤ x) && decide (x ≤ 122)
def digB (x : Int) : Bool := decide (48 ≤ x) && decide (x ≤ 57)
def alnB (x : Int) : Bool := letB x || digB x
def blkB (x : Int) : Bool := (x == 32) || (x == 9) || (x == 13) || (x == 10)

set_option maxHeartbeats 400000 in
theorem letter_any (x : Int) (w : World) :
    Calls Try.prog 25 #[.int .u8 x] w fun e w' => e = .returned (.bool (letB x)) ∧ w = w' := by
  go_enter Try.func25, Try.ntmps25
  go_wp2
  all_goals go_ret
  all_goals exact ⟨by simp [letB]; try omega, rfl⟩

set_option maxHeartbeats 400000 in
theorem digit_any (x : Int) (w : World) :
    Calls Try.prog 41 #[.int .u8 x] w fun e w' => e = .returned (.bool (digB x)) ∧ w = w' := by
  go_enter Try.func41, Try.ntmps41
  go_wp2
  all_goals go_ret
  all_goals exact ⟨by simp [digB]; try omega, rfl⟩

set_option maxHeartbeats 400000 in
theorem rletter_any (x : Int) (w : World) :
    Calls Try.prog 29 #[.int .u8 x] w fun e w' => e = .returned (.bool (letB x)) ∧ w = w' := by
  go_enter Try.func29, Try.ntmps29
  go_wp2
  all_goals go_ret
  all_goals exact ⟨by simp [letB]; try omega, rfl⟩

set_option maxHeartbeats 400000 in
theorem rdigit_any (x : Int) (w : World) :
    Calls Try.prog 30 #[.int .u8 x] w fun e w' => e = .returned (.bool (digB x)) ∧ w = w' := by
  go_enter Try.func30, Try.ntmps30
  go_wp2
  all_goals go_ret
  all_goals exact ⟨by simp [digB]; try omega, rfl⟩

set_option maxHeartbeats 400000 in
theorem aln_any (x : Int) (w : World) :
    Calls Try.prog 28 #[.int .u8 x] w fun e w' => e = .returned (.bool (alnB x)) ∧ w = w' := by
  cases hl : letB x with
  | true =>
    have h1 : Calls Try.prog 25 #[.int .u8 x] w fun e w' => e = .returned (.bool true) ∧ w = w' := by rw [← hl]; exact letter_any x w
    have e1 : alnB x = true := by simp [alnB, hl]
    have E1 := Lib.hid e1; have H1 := Lib.hid h1; clear e1 h1 hl
    go_enter Try.func28, Try.ntmps28
    go_wp2_with (go_at_call 25; refine H1.out.mono ?_; rintro e w' ⟨rfl, rfl⟩)
    go_ret
    exact ⟨by rw [E1.out]; rfl, rfl⟩
  | false =>
    have h1 : Calls Try.prog 25 #[.int .u8 x] w fun e w' => e = .returned (.bool false) ∧ w = w' := by rw [← hl]; exact letter_any x w
    have e1 : alnB x = digB x := by simp [alnB, hl]
    have E1 := Lib.hid e1; have H1 := Lib.hid h1; clear e1 h1 hl
    go_enter Try.func28, Try.ntmps28
    go_wp2_with (first | (go_at_call 25; refine H1.out.mono ?_; rintro e w' ⟨rfl, rfl⟩) | (go_at_call 41; refine (digit_any _ _).mono ?_; rintro e w' ⟨rfl, rfl⟩))
    go_ret
    exact ⟨by rw [E1.out]; rfl, rfl⟩

set_option maxHeartbeats 400000 in
theorem blank_any (x : Int) (w : World) :
    Calls Try.prog 44 #[.int .u8 x] w fun e w' => e = .returned (.bool (blkB x)) ∧ w = w' := by
  go_enter Try.func44, Try.ntmps44
  go_wp2
  all_goals go_ret
  all_goals exact ⟨by first | rfl | simp_all [blkB], rfl⟩

set_option maxHeartbeats 400000 in
theorem end1_any (x : Int) (w : World) :
    Calls Try.prog 32 #[.int .u8 x] w fun e w' => e = .returned (.bool true) ∧ w = w' := by
  go_enter Try.func32, Try.ntmps32
  go_wp2
  go_ret
  exact ⟨rfl, rfl⟩

set_option maxHeartbeats 400000 in
theorem begin_any (s : ByteArray) (w : World) :
    Calls Try.prog 26 #[.string s] w fun e w' => e = .returned (.pointer (some ⟨w.heap.size, 0, none⟩)) ∧
      w' = w.alloc (.cells #[.int .i64 1, .int .i64 1, .string s, .int .i64 0] 55) := by
  go_enter Try.func26, Try.ntmps26
  go_wp2
  go_ret
  exact ⟨rfl, rfl⟩
end Go.Proofs.Ythknjkmkhjjmmaa
