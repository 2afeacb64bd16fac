/- Layer 4: what every statement asks beside: a mutex, a condition, a channel, once each (conditions: none). -/
import Derived.Test.YtehcfahfbdphpaaSy22
import Derived.Test.YtehcfahfbdphpaaSy14
import Derived.Test.YtehcfahfbdphpaaSy17
import Derived.Test.YtehcfahfbdphpaaSy19
namespace Go.Proofs.Ytehcfahfbdphpaa
open Go.RowKit Go.Shelf

/-- A state of the caller's own. -/
def SyW (w W : World) (p : Nat) (S : SS) : Prop := ∃ T, SyAt W T p S ∧ (∀ g, T g ≠ 0 → w.heap.size ≤ g) ∧ Kept noX w W
theorem SyW.keep {w W W' : World} {p : Nat} {S : SS} (h : SyW w W p S) (hk : Kept noX W W') : SyW w W' p S := by
  obtain ⟨T, h1, h2, h3⟩ := h
  exact ⟨T, h1.keep hk, h2, h3.trans hk⟩
theorem syw_to {w W W' : World} {T : Nat → Nat} {p : Nat} {S' : SS} (h2 : ∀ g, T g ≠ 0 → w.heap.size ≤ g) (h3 : Kept noX w W) (ht : SyTo W T p S' W') : SyW w W' p S' := by
  obtain ⟨T', h4, h5, h6⟩ := ht
  have hs := h3.size
  refine ⟨T', h4, fun g hg => ?_, h3.join h6 (fun i hi hl => by have := h2 i hi; omega)⟩
  by_cases hlt : g < W.heap.size
  · rw [h5 g hlt] at hg
    exact h2 g hg
  · omega
set_option maxRecDepth 100000 in
set_option maxHeartbeats 1000000 in
theorem num_any (k : Int) (w : World) : Calls Try.prog 23 #[.int .i64 k] w fun e w' => e = .returned (.int .i64 k) ∧ w = w' := by
  go_enter Try.func23, Try.ntmps23
  go_wp2
  go_ret
  exact ⟨rfl, rfl⟩
def s0 : SS := ⟨[-1], [[]], [⟨[], 1, 0⟩]⟩
def s1 : SS := ⟨[1], [[]], [⟨[], 1, 0⟩]⟩
def s2 : SS := ⟨[1], [[3]], [⟨[], 1, 0⟩]⟩
def s3 : SS := ⟨[1], [[]], [⟨[7], 1, 1⟩]⟩
def s4 : SS := ⟨[1], [[]], [⟨[], 1, 1⟩]⟩
set_option maxRecDepth 100000 in
set_option maxHeartbeats 1000000 in
theorem works_any (w : World) : Calls Try.prog 11 #[] w fun e w' => e = .returned (.bool true) ∧ Kept noX w w' := by
  have hR : RowV (w.alloc (.cells #[.int .i64 1] 3)) noX (.slice (some ⟨w.heap.size, 0, none⟩) 1 1) ([1].map (D.int .i64)) := own_row (t := 3) (cells_own (Cells.fresh w 3 [.int .i64 1]) rfl rfl (by omega) (by unfold maxLen; omega) rfl) (fun _ _ h => h)
  have hka : Kept noX w (w.alloc (.cells #[.int .i64 1] 3)) := (Kept.refl _ _).alloc _
  have HN := Lib.hid (new_any 1 1 _ 1 [1] (by simp) _ hR)
  clear hR
  have hs1 : w.heap.size ≤ (w.alloc (.cells #[.int .i64 1] 3)).heap.size := hka.size
  go_enter Try.func11, Try.ntmps11
  go_wp2_with fail
  refine HN.out.mono ?_
  rintro e W1 (⟨_, p, T, rfl, h1, h2, h3⟩ | ⟨hf, _⟩)
  rotate_left
  · exact absurd hf (by decide)
  have HA : Hid (SyW w W1 p s0) := Lib.hid ⟨T, h1, fun g hg => by have := h2 g hg; omega, hka.trans h3⟩
  clear h1 h2 h3 T hka HN hs1
  obtain ⟨T, h1, h2, h3⟩ := HA.out
  have HC := Lib.hid (lock_ok h1 1 0 (by decide) (by decide) rfl)
  have H2 := Lib.hid h2
  have H3 := Lib.hid h3
  clear h1 h2 h3 HA
  go_wp2_with fail
  refine HC.out.mono ?_
  rintro e W2 ⟨rfl, ht⟩
  have HA : Hid (SyW w W2 p s1) := Lib.hid (syw_to H2.out H3.out ht)
  clear ht HC H2 H3 T
  obtain ⟨T, h1, h2, h3⟩ := HA.out
  have HC := Lib.hid (lock_own h1 2 0 (by decide) (by decide) (by decide))
  clear h1 h2 h3
  go_wp2_with fail
  refine HC.out.mono ?_
  rintro e W3 ⟨rfl, hk⟩
  replace HA : Hid (SyW w W3 p s1) := Lib.hid (HA.out.keep hk)
  clear hk HC T
  obtain ⟨T, h1, h2, h3⟩ := HA.out
  have HC := Lib.hid (owner_in h1 0 (by decide))
  clear h1 h2 h3
  go_wp2_with fail
  refine HC.out.mono ?_
  rintro e W4 ⟨rfl, hk⟩
  replace HA : Hid (SyW w W4 p s1) := Lib.hid (HA.out.keep hk)
  clear hk HC T
  obtain ⟨T, h1, h2, h3⟩ := HA.out
  have HC := Lib.hid (wait_ok h1 3 (wb := false) rfl 0 (by decide) (by decide) (by decide))
  have H2 := Lib.hid h2
  have H3 := Lib.hid h3
  clear h1 h2 h3 HA
  go_wp2_with fail
  refine HC.out.mono ?_
  rintro e W5 ⟨rfl, ht⟩
  have HA : Hid (SyW w W5 p s2) := Lib.hid (syw_to H2.out H3.out ht)
  clear ht HC H2 H3 T
  obtain ⟨T, h1, h2, h3⟩ := HA.out
  have HC := Lib.hid (signal_some h1 0 (by decide) 3 [] rfl)
  have H2 := Lib.hid h2
  have H3 := Lib.hid h3
  clear h1 h2 h3 HA
  go_wp2_with fail
  refine HC.out.mono ?_
  rintro e W6 ⟨rfl, ht⟩
  have HA : Hid (SyW w W6 p s1) := Lib.hid (syw_to H2.out H3.out ht)
  clear ht HC H2 H3 T
  obtain ⟨T, h1, h2, h3⟩ := HA.out
  have HC := Lib.hid (send_ok h1 7 0 (by decide) (by decide) (by decide) (by decide) (by decide) (by decide))
  have H2 := Lib.hid h2
  have H3 := Lib.hid h3
  clear h1 h2 h3 HA
  go_wp2_with fail
  refine HC.out.mono ?_
  rintro e W7 ⟨rfl, ht⟩
  have HA : Hid (SyW w W7 p s3) := Lib.hid (syw_to H2.out H3.out ht)
  clear ht HC H2 H3 T
  obtain ⟨T, h1, h2, h3⟩ := HA.out
  have HC := Lib.hid (recv_some h1 0 (by decide) 7 [] rfl (by decide) (by decide))
  have H2 := Lib.hid h2
  have H3 := Lib.hid h3
  clear h1 h2 h3 HA
  go_wp2_with fail
  refine HC.out.mono ?_
  rintro e W8 ⟨rfl, ht⟩
  have HA : Hid (SyW w W8 p s4) := Lib.hid (syw_to H2.out H3.out ht)
  clear ht HC H2 H3 T
  obtain ⟨T, h1, h2, h3⟩ := HA.out
  have HC := Lib.hid (unlock_no h1 2 0 (by decide) 140 rfl rfl)
  have H3 := Lib.hid h3
  clear h1 h2 h3 HA
  go_wp2_with (go_at_call 23; refine (num_any _ _).mono ?_; rintro e Wn ⟨rfl, rfl⟩)
  refine HC.out.mono ?_
  rintro e W9 ⟨rfl, hk⟩
  go_wp2_with (go_at_call 23; refine (num_any _ _).mono ?_; rintro e Wn ⟨rfl, rfl⟩)
  go_ret
  exact ⟨rfl, H3.out.trans hk⟩
end Go.Proofs.Ytehcfahfbdphpaa
