/- Layer 4: the part of a number, if there is one: mutexes, conditions, channels (conditions: a slice of less than 2^63 - 1 elements). -/
import Derived.Test.YtehcfahfbdphpaaSy1
namespace Go.Proofs.Ytehcfahfbdphpaa
open Go.RowKit Go.Shelf
set_option maxRecDepth 100000 in
set_option maxHeartbeats 1000000 in
theorem findM_in (g l c i : Nat) (hi : i < l) (hl : l ≤ 9223372036854775806) (w : World) :
    Calls Try.prog 38 #[.slice (some ⟨g, 0, none⟩) l c, .int .i64 i] w fun e w' => e = .returned (.tuple #[.pointer (some ⟨g, i * 1, none⟩), .bool true]) ∧ Kept noX w w' := by
  have hC := Cells.fresh w 3 [.int .i64 i]
  have hk : Kept noX w (w.alloc (.cells #[.int .i64 i] 3)) := (Kept.refl _ _).alloc _
  have HW := Lib.hid (within_any 0 ((l : Int) - 1) w.heap.size 0 1 [(i : Int)] (by simp) _ (cells_ints (xs := [(i : Int)]) hC))
  have HB : Hid ([(i : Int)].all (inI 0 ((l : Int) - 1)) = true) := Lib.hid (by simp [inI]; omega)
  clear hC
  have hd0 : decide ((i : Int) < (l : Int)) = true := by simpa using hi
  go_enter Try.func38, Try.ntmps38
  go_wp2_with fail
  refine HW.out.mono ?_
  rintro e W1 ⟨rfl, rfl⟩
  rw [HB.out]
  go_wp2
  go_ret2
  exact ⟨by simp, hk⟩
set_option maxRecDepth 100000 in
set_option maxHeartbeats 1000000 in
theorem findM_out (A : Option Addr) (l c : Nat) (i : Int) (hi : i < 0 ∨ (l : Int) ≤ i) (hl : l ≤ 9223372036854775806) (w : World) :
    Calls Try.prog 38 #[.slice A l c, .int .i64 i] w fun e w' => ∃ g, e = .returned (.tuple #[.pointer (some ⟨g, 0, none⟩), .bool false]) ∧ Kept noX w w' ∧ w.heap.size ≤ g ∧ Cells w' g 86 [.int .i64 0] := by
  have hC := Cells.fresh w 3 [.int .i64 i]
  have hk : Kept noX w (w.alloc (.cells #[.int .i64 i] 3)) := (Kept.refl _ _).alloc _
  have HW := Lib.hid (within_any 0 ((l : Int) - 1) w.heap.size 0 1 [(i : Int)] (by simp) _ (cells_ints (xs := [(i : Int)]) hC))
  have HB : Hid ([(i : Int)].all (inI 0 ((l : Int) - 1)) = false) := Lib.hid (by simp [inI]; omega)
  clear hC
  go_enter Try.func38, Try.ntmps38
  go_wp2_with fail
  refine HW.out.mono ?_
  rintro e W1 ⟨rfl, rfl⟩
  rw [HB.out]
  go_wp2
  go_ret2
  exact ⟨_, rfl, hk.alloc _, by simp, by have h := Cells.fresh (w.alloc (.cells #[.int .i64 i] 3)) 86 [.int .i64 0]; rw [World.size_alloc] at h; exact h⟩
set_option maxRecDepth 100000 in
set_option maxHeartbeats 1000000 in
theorem findC_in (g l c i : Nat) (hi : i < l) (hl : l ≤ 9223372036854775806) (w : World) :
    Calls Try.prog 52 #[.slice (some ⟨g, 0, none⟩) l c, .int .i64 i] w fun e w' => e = .returned (.tuple #[.pointer (some ⟨g, i * 1, none⟩), .bool true]) ∧ Kept noX w w' := by
  have hC := Cells.fresh w 3 [.int .i64 i]
  have hk : Kept noX w (w.alloc (.cells #[.int .i64 i] 3)) := (Kept.refl _ _).alloc _
  have HW := Lib.hid (within_any 0 ((l : Int) - 1) w.heap.size 0 1 [(i : Int)] (by simp) _ (cells_ints (xs := [(i : Int)]) hC))
  have HB : Hid ([(i : Int)].all (inI 0 ((l : Int) - 1)) = true) := Lib.hid (by simp [inI]; omega)
  clear hC
  have hd0 : decide ((i : Int) < (l : Int)) = true := by simpa using hi
  go_enter Try.func52, Try.ntmps52
  go_wp2_with fail
  refine HW.out.mono ?_
  rintro e W1 ⟨rfl, rfl⟩
  rw [HB.out]
  go_wp2
  go_ret2
  exact ⟨by simp, hk⟩
set_option maxRecDepth 100000 in
set_option maxHeartbeats 1000000 in
theorem findC_out (A : Option Addr) (l c : Nat) (i : Int) (hi : i < 0 ∨ (l : Int) ≤ i) (hl : l ≤ 9223372036854775806) (w : World) :
    Calls Try.prog 52 #[.slice A l c, .int .i64 i] w fun e w' => ∃ g, e = .returned (.tuple #[.pointer (some ⟨g, 0, none⟩), .bool false]) ∧ Kept noX w w' ∧ w.heap.size ≤ g ∧ Cells w' g 99 [.slice none 0 0] := by
  have hC := Cells.fresh w 3 [.int .i64 i]
  have hk : Kept noX w (w.alloc (.cells #[.int .i64 i] 3)) := (Kept.refl _ _).alloc _
  have HW := Lib.hid (within_any 0 ((l : Int) - 1) w.heap.size 0 1 [(i : Int)] (by simp) _ (cells_ints (xs := [(i : Int)]) hC))
  have HB : Hid ([(i : Int)].all (inI 0 ((l : Int) - 1)) = false) := Lib.hid (by simp [inI]; omega)
  clear hC
  go_enter Try.func52, Try.ntmps52
  go_wp2_with fail
  refine HW.out.mono ?_
  rintro e W1 ⟨rfl, rfl⟩
  rw [HB.out]
  go_wp2
  go_ret2
  exact ⟨_, rfl, hk.alloc _, by simp, by have h := Cells.fresh (w.alloc (.cells #[.int .i64 i] 3)) 99 [.slice none 0 0]; rw [World.size_alloc] at h; exact h⟩
set_option maxRecDepth 100000 in
set_option maxHeartbeats 1000000 in
theorem findQ_in (g l c i : Nat) (hi : i < l) (hl : l ≤ 9223372036854775806) (w : World) :
    Calls Try.prog 45 #[.slice (some ⟨g, 0, none⟩) l c, .int .i64 i] w fun e w' => e = .returned (.tuple #[.pointer (some ⟨g, i * 3, none⟩), .bool true]) ∧ Kept noX w w' := by
  have hC := Cells.fresh w 3 [.int .i64 i]
  have hk : Kept noX w (w.alloc (.cells #[.int .i64 i] 3)) := (Kept.refl _ _).alloc _
  have HW := Lib.hid (within_any 0 ((l : Int) - 1) w.heap.size 0 1 [(i : Int)] (by simp) _ (cells_ints (xs := [(i : Int)]) hC))
  have HB : Hid ([(i : Int)].all (inI 0 ((l : Int) - 1)) = true) := Lib.hid (by simp [inI]; omega)
  clear hC
  have hd0 : decide ((i : Int) < (l : Int)) = true := by simpa using hi
  go_enter Try.func45, Try.ntmps45
  go_wp2_with fail
  refine HW.out.mono ?_
  rintro e W1 ⟨rfl, rfl⟩
  rw [HB.out]
  go_wp2
  go_ret2
  exact ⟨by simp, hk⟩
set_option maxRecDepth 100000 in
set_option maxHeartbeats 1000000 in
theorem findQ_out (A : Option Addr) (l c : Nat) (i : Int) (hi : i < 0 ∨ (l : Int) ≤ i) (hl : l ≤ 9223372036854775806) (w : World) :
    Calls Try.prog 45 #[.slice A l c, .int .i64 i] w fun e w' => ∃ g, e = .returned (.tuple #[.pointer (some ⟨g, 0, none⟩), .bool false]) ∧ Kept noX w w' ∧ w.heap.size ≤ g ∧ Cells w' g 112 [.slice none 0 0, .int .i64 0, .int .i64 0] := by
  have hC := Cells.fresh w 3 [.int .i64 i]
  have hk : Kept noX w (w.alloc (.cells #[.int .i64 i] 3)) := (Kept.refl _ _).alloc _
  have HW := Lib.hid (within_any 0 ((l : Int) - 1) w.heap.size 0 1 [(i : Int)] (by simp) _ (cells_ints (xs := [(i : Int)]) hC))
  have HB : Hid ([(i : Int)].all (inI 0 ((l : Int) - 1)) = false) := Lib.hid (by simp [inI]; omega)
  clear hC
  go_enter Try.func45, Try.ntmps45
  go_wp2_with fail
  refine HW.out.mono ?_
  rintro e W1 ⟨rfl, rfl⟩
  rw [HB.out]
  go_wp2
  go_ret2
  exact ⟨_, rfl, hk.alloc _, by simp, by have h := Cells.fresh (w.alloc (.cells #[.int .i64 i] 3)) 112 [.slice none 0 0, .int .i64 0, .int .i64 0]; rw [World.size_alloc] at h; exact h⟩
set_option maxRecDepth 100000 in
set_option maxHeartbeats 1000000 in
theorem lookM_in (g l c i : Nat) (hi : i < l) (hl : l ≤ 9223372036854775806) (w : World) :
    Calls Try.prog 37 #[.bool true, .slice (some ⟨g, 0, none⟩) l c, .int .i64 i] w fun e w' => e = .returned (.tuple #[.pointer (some ⟨g, i * 1, none⟩), .int .i64 0]) ∧ Kept noX w w' := by
  go_enter Try.func37, Try.ntmps37
  go_wp2_with (first
    | (go_at_call 38; refine (findM_in g l c i hi hl _).mono ?_; rintro e W1 ⟨rfl, hk1⟩)
    | (go_at_call 40; refine (refusal_4 true true false false _).mono ?_; rintro e W2 ⟨rfl, hk2⟩))
  go_ret2
  exact ⟨by simp [ref4], hk1.trans hk2⟩
set_option maxRecDepth 100000 in
set_option maxHeartbeats 1000000 in
theorem lookM_out (m : Bool) (A : Option Addr) (l c : Nat) (i : Int) (hi : i < 0 ∨ (l : Int) ≤ i) (hl : l ≤ 9223372036854775806) (w : World) :
    Calls Try.prog 37 #[.bool m, .slice A l c, .int .i64 i] w fun e w' => ∃ g, e = .returned (.tuple #[.pointer (some ⟨g, 0, none⟩), .int .i64 (ref4 m false)]) ∧ Kept noX w w' ∧ w.heap.size ≤ g ∧ Cells w' g 86 [.int .i64 0] := by
  go_enter Try.func37, Try.ntmps37
  go_wp2_with (first
    | (go_at_call 38; refine (findM_out A l c i hi hl _).mono ?_; rintro e W1 ⟨g, rfl, hk1, hg, hC⟩)
    | (go_at_call 40; refine (refusal_4 m false false false _).mono ?_; rintro e W2 ⟨rfl, hk2⟩))
  go_ret2
  exact ⟨g, rfl, hk1.trans hk2, hg, hC.keep hk2⟩
set_option maxRecDepth 100000 in
set_option maxHeartbeats 1000000 in
theorem lookC_in (g l c i : Nat) (hi : i < l) (hl : l ≤ 9223372036854775806) (w : World) :
    Calls Try.prog 41 #[.bool true, .slice (some ⟨g, 0, none⟩) l c, .int .i64 i] w fun e w' => e = .returned (.tuple #[.pointer (some ⟨g, i * 1, none⟩), .int .i64 0]) ∧ Kept noX w w' := by
  go_enter Try.func41, Try.ntmps41
  go_wp2_with (first
    | (go_at_call 52; refine (findC_in g l c i hi hl _).mono ?_; rintro e W1 ⟨rfl, hk1⟩)
    | (go_at_call 40; refine (refusal_4 true true false false _).mono ?_; rintro e W2 ⟨rfl, hk2⟩))
  go_ret2
  exact ⟨by simp [ref4], hk1.trans hk2⟩
set_option maxRecDepth 100000 in
set_option maxHeartbeats 1000000 in
theorem lookC_out (m : Bool) (A : Option Addr) (l c : Nat) (i : Int) (hi : i < 0 ∨ (l : Int) ≤ i) (hl : l ≤ 9223372036854775806) (w : World) :
    Calls Try.prog 41 #[.bool m, .slice A l c, .int .i64 i] w fun e w' => ∃ g, e = .returned (.tuple #[.pointer (some ⟨g, 0, none⟩), .int .i64 (ref4 m false)]) ∧ Kept noX w w' ∧ w.heap.size ≤ g ∧ Cells w' g 99 [.slice none 0 0] := by
  go_enter Try.func41, Try.ntmps41
  go_wp2_with (first
    | (go_at_call 52; refine (findC_out A l c i hi hl _).mono ?_; rintro e W1 ⟨g, rfl, hk1, hg, hC⟩)
    | (go_at_call 40; refine (refusal_4 m false false false _).mono ?_; rintro e W2 ⟨rfl, hk2⟩))
  go_ret2
  exact ⟨g, rfl, hk1.trans hk2, hg, hC.keep hk2⟩
set_option maxRecDepth 100000 in
set_option maxHeartbeats 1000000 in
theorem lookQ_in (g l c i : Nat) (hi : i < l) (hl : l ≤ 9223372036854775806) (w : World) :
    Calls Try.prog 48 #[.bool true, .slice (some ⟨g, 0, none⟩) l c, .int .i64 i] w fun e w' => e = .returned (.tuple #[.pointer (some ⟨g, i * 3, none⟩), .int .i64 0]) ∧ Kept noX w w' := by
  go_enter Try.func48, Try.ntmps48
  go_wp2_with (first
    | (go_at_call 45; refine (findQ_in g l c i hi hl _).mono ?_; rintro e W1 ⟨rfl, hk1⟩)
    | (go_at_call 40; refine (refusal_4 true true false false _).mono ?_; rintro e W2 ⟨rfl, hk2⟩))
  go_ret2
  exact ⟨by simp [ref4], hk1.trans hk2⟩
set_option maxRecDepth 100000 in
set_option maxHeartbeats 1000000 in
theorem lookQ_out (m : Bool) (A : Option Addr) (l c : Nat) (i : Int) (hi : i < 0 ∨ (l : Int) ≤ i) (hl : l ≤ 9223372036854775806) (w : World) :
    Calls Try.prog 48 #[.bool m, .slice A l c, .int .i64 i] w fun e w' => ∃ g, e = .returned (.tuple #[.pointer (some ⟨g, 0, none⟩), .int .i64 (ref4 m false)]) ∧ Kept noX w w' ∧ w.heap.size ≤ g ∧ Cells w' g 112 [.slice none 0 0, .int .i64 0, .int .i64 0] := by
  go_enter Try.func48, Try.ntmps48
  go_wp2_with (first
    | (go_at_call 45; refine (findQ_out A l c i hi hl _).mono ?_; rintro e W1 ⟨g, rfl, hk1, hg, hC⟩)
    | (go_at_call 40; refine (refusal_4 m false false false _).mono ?_; rintro e W2 ⟨rfl, hk2⟩))
  go_ret2
  exact ⟨g, rfl, hk1.trans hk2, hg, hC.keep hk2⟩
end Go.Proofs.Ytehcfahfbdphpaa
