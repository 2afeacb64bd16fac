/- What Same answers of two lists of the same words: true (conditions: at most 1000000 words). -/
import Derived.Test.YthknjkmkhjjmmaaWorks
namespace Go.Proofs.Ythknjkmkhjjmmaa
open Go.RowKit Go.Shelf

set_option maxRecDepth 100000 in
set_option maxHeartbeats 1000000 in
theorem same_any (v1 v2 : Value) (n : Nat) (hn : n ≤ 1000000) (T : Nat → TokD) (W : World) (h1 : TokRow W v1 n T) (h2 : TokRow W v2 n T) :
    Calls Try.prog 13 #[v1, v2] W fun e w' => e = .returned (.bool true) ∧ Kept noX W w' := by
  obtain ⟨A1, c1, rfl, hc1, hm1⟩ := h1.form
  obtain ⟨A2, c2, rfl, hc2, hm2⟩ := h2.form
  have teq : ((n : Int) != (n : Int)) = false := by simp
  go_enter Try.func13, Try.ntmps13
  go_wp2
  go_loopw [5] (fun i wr => ∃ k q : Nat, i = .int .i64 k ∧ k ≤ n ∧ wr = W.drewN q) (fun i _ => n - (intOf i).toNat)
  case atStart => exact ⟨0, 0, rfl, Nat.zero_le _, rfl⟩
  case round =>
    obtain ⟨k, q, rfl, hk, hwr⟩ := hrel
    have HWR := Lib.hid hwr
    by_cases hlt : k < n
    · obtain ⟨g1, d1, hv1, _, hcell1⟩ := h1.at_ hlt
      obtain ⟨g2, d2, hv2, _, hcell2⟩ := h2.at_ hlt
      injection hv1 with hA1 _ hcc1
      injection hv2 with hA2 _ hcc2
      subst hA1
      subst hA2
      generalize T k = t at hcell1 hcell2
      have a0 : wr.cell? ⟨g1, k * 5 + 0, none⟩ = t.cells[0]? := by rw [hwr]; exact hcell1 0 (by omega)
      have a1 : wr.cell? ⟨g1, k * 5 + 1, none⟩ = t.cells[1]? := by rw [hwr]; exact hcell1 1 (by omega)
      have a2 : wr.cell? ⟨g1, k * 5 + 2, none⟩ = t.cells[2]? := by rw [hwr]; exact hcell1 2 (by omega)
      have a3 : wr.cell? ⟨g1, k * 5 + 3, none⟩ = t.cells[3]? := by rw [hwr]; exact hcell1 3 (by omega)
      have a4 : wr.cell? ⟨g1, k * 5 + 4, none⟩ = t.cells[4]? := by rw [hwr]; exact hcell1 4 (by omega)
      have b0 : wr.cell? ⟨g2, k * 5 + 0, none⟩ = t.cells[0]? := by rw [hwr]; exact hcell2 0 (by omega)
      have b1 : wr.cell? ⟨g2, k * 5 + 1, none⟩ = t.cells[1]? := by rw [hwr]; exact hcell2 1 (by omega)
      have b2 : wr.cell? ⟨g2, k * 5 + 2, none⟩ = t.cells[2]? := by rw [hwr]; exact hcell2 2 (by omega)
      have b3 : wr.cell? ⟨g2, k * 5 + 3, none⟩ = t.cells[3]? := by rw [hwr]; exact hcell2 3 (by omega)
      have b4 : wr.cell? ⟨g2, k * 5 + 4, none⟩ = t.cells[4]? := by rw [hwr]; exact hcell2 4 (by omega)
      simp only [TokD.cells, List.getElem?_cons_zero, List.getElem?_cons_succ, Nat.add_zero] at a0 a1 a2 a3 a4 b0 b1 b2 b3 b4
      clear hcell1 hcell2 hwr h1 h2 hcc1 hcc2
      go_wp2_with fail
      go_quiet (fail)
      go_wp2
      go_roundw
      case rel => exact ⟨k + 1, _, by go_num, by omega, by rw [HWR.out, World.drewN_drewN]⟩
      case measure => simp [intOf]; omega
    · obtain rfl : k = n := by omega
      clear hwr
      go_wp2
      go_ret
      exact ⟨rfl, by rw [HWR.out]; exact (Kept.refl _ _).drewN _⟩
end Go.Proofs.Ythknjkmkhjjmmaa
