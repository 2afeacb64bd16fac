/- A printer's text, read (conditions: the text is of at most 2^46 bytes). -/
import Derived.Test.YtjkgepppoopheaaGreatDoorG26
import Derived.Test.YtjkgepppoopheaaGreatDoorG10
namespace Go.Proofs.YtjkgepppoopheaaGreatDoor
open Go.RowKit Go.Shelf

set_option maxRecDepth 100000 in
set_option maxHeartbeats 1000000 in
theorem string_calls {W : World} {B : Nat} {s : ByteArray} (h : BAt W B s) (h0 : s.size ≠ 0) (hlen : s.size ≤ most) :
    Calls Tryz.prog 46 #[.pointer (some ⟨B, 0, none⟩)] W fun e W' => e = .returned (.string s) ∧ Kept (B ≤ ·) W W' := by
  have hrow := fun g => h.row (g := g)
  obtain ⟨ad, v, hc, _, ho⟩ := h
  rw [rowB_eq hc] at hrow
  unfold most at hlen
  have hl : s.data.toList.length = s.size := by simp
  rcases ho.2 with ⟨_, hz⟩ | ⟨g, cap, cur, rfl, hbg, hg, hnc, hcm, hcs, htake⟩
  · exact absurd hz h0
  have hg2 := hrow g rfl
  have c1 : W.drew.cell? ⟨B, 1, none⟩ = some (.slice (some ⟨g, 0, none⟩) s.size cap) := hc.drew.cell 1
  have hSD : ∀ ty, (Builtin.unsafeSliceData_ #[67] ty #[.slice (some ⟨g, 0, none⟩) s.size cap]).run Tryz.prog W.drew = .ok (.pointer (some ⟨g, 0, none⟩)) W.drew := fun ty =>
    Lib.run_unsafeSliceData_row _ _ _ _ _ _ (by omega)
  have hcz : s.size ≤ cur.size := by omega
  have hUS : ∀ ty, (Builtin.unsafeString_ #[144, 3] ty #[.pointer (some ⟨g, 0, none⟩), .int .i64 (s.size : Nat)]).run Tryz.prog W.drew = .ok (.string s) (W.drew.freeze ⟨g, 0, none⟩ s.size) := fun ty => by
    have h1 := Lib.run_unsafeString_row (P := Tryz.prog) W.drew 144 3 ty 5 Tryz.underlying144 (by kernel_rfl) g cur.size (by
      have hg' : W.drew.heap[g]? = some (.cells cur 5 (0, 0)) := hg
      simp [World.shape?, hg']) s.data.toList (by intro hh; rw [hh] at hl; exact h0 hl.symm) (by rw [hl]; exact hcz) (by omega) (by
      intro j x hx
      have := ho.cells (g := g) rfl j (.int .u8 x.toNat) (by simp [Lib.strCells, hx])
      exact this)
    rw [hl] at h1
    exact h1
  have HK : Hid (Kept (B ≤ ·) W (W.drew.freeze ⟨g, 0, none⟩ s.size)) := Lib.hid (Kept.freeze (((Kept.refl (B ≤ ·) W).drew)) (fun _ => by show B ≤ g; omega) _)
  have c2 := c1
  clear hc ho hg hcs hcz htake hrow
  go_enter Tryz.func46, Tryz.ntmps46
  go_wp2
  go_region
  all_goals
    go_wp2
    go_ret
    exact ⟨rfl, HK.out⟩

set_option maxRecDepth 100000 in
set_option maxHeartbeats 1000000 in
theorem string_nil {W : World} {B : Nat} {ad : Value} (hc : Cells W B 99 [ad, .slice none 0 0]) :
    Calls Tryz.prog 46 #[.pointer (some ⟨B, 0, none⟩)] W fun e W' => e = .returned (.string ⟨#[]⟩) ∧ Kept noX W W' := by
  have c1 : W.drew.cell? ⟨B, 1, none⟩ = some (.slice none 0 0) := hc.drew.cell 1
  have hSD : ∀ ty, (Builtin.unsafeSliceData_ #[67] ty #[.slice none 0 0]).run Tryz.prog W.drew = .ok (.pointer none) W.drew := fun ty => rfl
  have hUS : ∀ ty, (Builtin.unsafeString_ #[144, 3] ty #[.pointer none, .int .i64 0]).run Tryz.prog W.drew = .ok (.string ⟨#[]⟩) W.drew := fun ty => Lib.run_unsafeString_none _ _ _ _ _
  have HK : Hid (Kept noX W W.drew) := Lib.hid (Kept.refl _ _).drew
  clear hc
  go_enter Tryz.func46, Tryz.ntmps46
  go_wp2
  go_region
  all_goals
    go_wp2
    go_ret
    exact ⟨rfl, HK.out⟩
end Go.Proofs.YtjkgepppoopheaaGreatDoor
