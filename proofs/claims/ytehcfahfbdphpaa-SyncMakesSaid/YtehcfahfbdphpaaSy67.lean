/- Layer 4: Same, of states and of none; a copy of none (conditions: none). -/
import Derived.Test.YtehcfahfbdphpaaSy66
import Derived.Test.YtehcfahfbdphpaaSy33
namespace Go.Proofs.Ytehcfahfbdphpaa
open Go.RowKit Go.Shelf

/-- Whether two say the same. -/
def sameS (S S' : SS) : Bool := decide (S.os = S'.os) && decide (S.cs = S'.cs) && decide (S.qs = S'.qs)
set_option maxRecDepth 100000 in
set_option maxHeartbeats 1000000 in
theorem same_ss {W : World} {p q : Nat} {S S' : SS} (h : PrV W p true S) (h' : PrV W q true S') :
    Calls Try.prog 27 #[.pointer (some ⟨p, 0, none⟩), .pointer (some ⟨q, 0, none⟩)] W fun e W' => e = .returned (.bool (sameS S S')) ∧ Kept noX W W' := by
  have HP := Lib.hid (fun w' (hk : Kept noX W w') => psame_any (h.keep hk) (h'.keep hk))
  have hr : (((true : Bool) == true) && decide (S.os = S'.os) && decide (S.cs = S'.cs) && decide (S.qs = S'.qs)) = sameS S S' := by simp [sameS]
  rw [hr] at HP
  generalize sameS S S' = r at HP ⊢
  clear h h' hr
  go_enter Try.func27, Try.ntmps27
  go_wp2_with fail
  refine (whole_p p _).mono ?_
  rintro e W0 ⟨rfl, rfl⟩
  go_wp2_with fail
  refine (whole_p q _).mono ?_
  rintro e W0 ⟨rfl, rfl⟩
  go_wp2_with fail
  refine (HP.out _ (Kept.refl _ _)).mono ?_
  rintro e W1 ⟨rfl, hk1⟩
  go_wp2
  go_ret
  exact ⟨rfl, hk1⟩
set_option maxRecDepth 100000 in
set_option maxHeartbeats 1000000 in
theorem same_sn {W : World} {p : Nat} {S : SS} (h : PrV W p true S) :
    Calls Try.prog 27 #[.pointer (some ⟨p, 0, none⟩), .pointer none] W fun e W' => e = .returned (.bool false) ∧ Kept noX W W' := by
  have HP := Lib.hid (fun w' q (hk : Kept noX W w') h' => psame_any (q := q) (mk' := false) (S' := ⟨[], [], []⟩) (h.keep hk) h')
  have hr : ((true == false) && decide (S.os = []) && decide (S.cs = []) && decide (S.qs = [])) = false := rfl
  simp only [hr] at HP
  clear h hr
  go_enter Try.func27, Try.ntmps27
  go_wp2_with fail
  refine (whole_p p _).mono ?_
  rintro e W0 ⟨rfl, rfl⟩
  go_wp2_with fail
  refine (whole_nil _).mono ?_
  rintro e W1 ⟨rfl, hW1⟩
  have hk1 : Kept noX W W1 := hW1 ▸ (Kept.refl noX W).alloc _
  have hv : PrV W1 W.heap.size false ⟨[], [], []⟩ := prv_nil (hW1 ▸ Cells.fresh W 76 _)
  clear hW1
  go_wp2_with fail
  refine (HP.out _ _ hk1 hv).mono ?_
  rintro e W2 ⟨rfl, hk2⟩
  go_wp2
  go_ret
  exact ⟨rfl, hk1.trans hk2⟩
set_option maxRecDepth 100000 in
set_option maxHeartbeats 1000000 in
theorem same_ns {W : World} {p : Nat} {S : SS} (h : PrV W p true S) :
    Calls Try.prog 27 #[.pointer none, .pointer (some ⟨p, 0, none⟩)] W fun e W' => e = .returned (.bool false) ∧ Kept noX W W' := by
  have HP := Lib.hid (fun w' q (hk : Kept noX W w') h' => psame_any (p := q) (mk := false) (S := ⟨[], [], []⟩) h' (h.keep hk))
  have hr : ((false == true) && decide ([] = S.os) && decide ([] = S.cs) && decide ([] = S.qs)) = false := rfl
  simp only [hr] at HP
  clear h hr
  go_enter Try.func27, Try.ntmps27
  go_wp2_with fail
  refine (whole_nil _).mono ?_
  rintro e W1 ⟨rfl, hW1⟩
  have hk1 : Kept noX W W1 := hW1 ▸ (Kept.refl noX W).alloc _
  have hv : PrV W1 W.heap.size false ⟨[], [], []⟩ := prv_nil (hW1 ▸ Cells.fresh W 76 _)
  clear hW1
  go_wp2_with fail
  refine (whole_p p _).mono ?_
  rintro e W0 ⟨rfl, rfl⟩
  go_wp2_with fail
  refine (HP.out _ _ hk1 hv).mono ?_
  rintro e W2 ⟨rfl, hk2⟩
  go_wp2
  go_ret
  exact ⟨rfl, hk1.trans hk2⟩
set_option maxRecDepth 100000 in
set_option maxHeartbeats 1000000 in
theorem same_nn (W : World) : Calls Try.prog 27 #[.pointer none, .pointer none] W fun e W' => e = .returned (.bool true) ∧ Kept noX W W' := by
  have HP := Lib.hid (fun w' p q h h' => psame_any (W := w') (p := p) (q := q) (mk := false) (S := ⟨[], [], []⟩) (mk' := false) (S' := ⟨[], [], []⟩) h h')
  simp only at HP
  go_enter Try.func27, Try.ntmps27
  go_wp2_with fail
  refine (whole_nil _).mono ?_
  rintro e W1 ⟨rfl, hW1⟩
  have hk1 : Kept noX W W1 := hW1 ▸ (Kept.refl noX W).alloc _
  have hv : PrV W1 W.heap.size false ⟨[], [], []⟩ := prv_nil (hW1 ▸ Cells.fresh W 76 _)
  clear hW1
  go_wp2_with fail
  refine (whole_nil _).mono ?_
  rintro e W2 ⟨rfl, hW2⟩
  have hk2 : Kept noX W1 W2 := hW2 ▸ (Kept.refl noX W1).alloc _
  have hv2 : PrV W2 W1.heap.size false ⟨[], [], []⟩ := prv_nil (hW2 ▸ Cells.fresh W1 76 _)
  clear hW2
  go_wp2_with fail
  refine (HP.out _ _ _ (hv.keep hk2) hv2).mono ?_
  rintro e W3 ⟨rfl, hk3⟩
  go_wp2
  go_ret
  exact ⟨rfl, (hk1.trans hk2).trans hk3⟩
set_option maxRecDepth 100000 in
set_option maxHeartbeats 1000000 in
theorem copy_nil (W : World) : Calls Try.prog 26 #[.pointer none] W fun e W' => e = .returned (.pointer none) ∧ Kept noX W W' := by
  go_enter Try.func26, Try.ntmps26
  go_wp2_with fail
  refine (whole_nil _).mono ?_
  rintro e W1 ⟨rfl, hW1⟩
  have hk1 : Kept noX W W1 := hW1 ▸ (Kept.refl noX W).alloc _
  have c0 := (show Cells W1 W.heap.size 76 [.bool false, .slice none 0 0, .slice none 0 0, .slice none 0 0] from hW1 ▸ Cells.fresh W 76 _).cell 0
  simp only [List.getElem?_cons_zero] at c0
  clear hW1
  go_wp2
  go_ret
  exact ⟨rfl, hk1⟩
end Go.Proofs.Ytehcfahfbdphpaa
