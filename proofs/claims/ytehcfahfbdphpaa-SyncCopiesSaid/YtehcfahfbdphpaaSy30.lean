/- Layer 4: a row appended onto an empty one of the call's own (conditions: at most 10^9 elements). -/
import Derived.Test.YtehcfahfbdphpaaSy29
namespace Go.Proofs.Ytehcfahfbdphpaa
open Go.RowKit Go.Shelf

theorem append_nothing {W : World} {ts e : TypeId} {i : TypeInfo} {g c : Nat} {A : Option Addr} (ht : Try.prog.underlying ts = some (.slice e)) (hi : Try.prog.info? e = some i) (ty : TypeId) :
    (Builtin.append_ #[ts, ts] ty #[.slice (some ⟨g, 0, none⟩) 0 0, .slice A 0 c]).run Try.prog W = .ok (.slice (some ⟨g, 0, none⟩) 0 0) W := by
  have hl : ∀ (x : Addr), (loadCells x 0).run Try.prog W = .ok #[] W := fun x => by simpa using run_loadCells_list (P := Try.prog) W x [] (by simp)
  cases A <;> simp [Builtin.append_, run_underlying ht, sizeOf, typeInfo, hi, Builtin.lenOf, Builtin.firstCells, storeCells, hl]
set_option maxRecDepth 100000 in
set_option maxHeartbeats 1000000 in
theorem append_row {W : World} {g c : Nat} {A : Option Addr} {xs : List Int} {ts e : TypeId} (ht : Try.prog.underlying ts = some (.slice e)) (hinf : (Try.prog.info? e).map (fun i => (i.zero, i.size, i.bytes)) = some (some (.int .i64 0), 1, 8))
    (hg : Cells W g e []) (hv : RowV W noX (.slice A xs.length c) (dI xs)) (hl : xs.length ≤ 1000000000) (ty : TypeId) :
    ∃ v' W', ((Builtin.append_ #[ts, ts] ty #[.slice (some ⟨g, 0, none⟩) 0 0, .slice A xs.length c]).run Try.prog W = .ok v' W') ∧ W'.ownsRow 0 e 1 v' xs.length (xs.map (.int .i64)) ∧ Kept (· = g) W W' ∧ ∀ b, v'.ownBlock = some b → b = g ∨ W.heap.size ≤ b := by
  obtain ⟨i0, hi0, hz0, hz1, hz2⟩ := info_parts hinf
  rcases Nat.eq_zero_or_pos xs.length with h0 | h0
  · obtain rfl : xs = [] := List.eq_nil_of_length_eq_zero h0
    exact ⟨_, W, append_nothing ht hi0 ty, cells_own hg rfl rfl (Nat.le_refl _) (Nat.zero_le _) rfl, Kept.refl _ _, fun b hb => .inl (Option.some.inj hb).symm⟩
  · obtain ⟨b, o, c', hveq, _, _⟩ := rowN_at hv h0
    injection hveq with hA _ hc
    subst hA hc
    have hown : W.ownsRow 0 e 1 (.slice (some ⟨g, 0, none⟩) 0 0) 0 [] := cells_own hg rfl rfl (Nat.le_refl _) (Nat.zero_le _) rfl
    obtain ⟨v', w', hr, h1, h2, _, h3⟩ := run_append_own_at (P := Try.prog) W 0 ts ty e i0 (.int .i64 0) 1 8 ht hi0 hz0 hz1 hz2 rfl (by decide) (.slice (some ⟨g, 0, none⟩) 0 0) 0 [] hown ⟨b, o, none⟩ xs.length c (xs.map (.int .i64)) (by simp) (fun j u hj => by
      have hjl : j < xs.length := by have := (List.getElem?_eq_some_iff.1 hj).1; simpa using this
      obtain ⟨b2, o2, c2, hv2, hc2, _⟩ := rowN_at hv hjl
      injection hv2 with hA _ _
      injection hA with hA
      injection hA with hb ho
      subst hb ho
      rw [List.getElem?_map, List.getElem?_eq_getElem hjl] at hj
      injection hj with hj
      subst hj
      rw [Addr.add_lit]
      exact hc2) (fun u hu => by obtain ⟨q, _, rfl⟩ := List.mem_map.1 hu; rfl) (by unfold maxLen; omega) (by omega) (Nat.zero_le _)
    rw [Nat.zero_add, List.nil_append] at h1
    refine ⟨v', w', hr, h1, (Kept.refl _ _).grown h2 (fun k hk hl => (Option.some.inj hk).symm), fun q hq => ?_⟩
    · rcases h3 with h3 | h3
      · exact .inl (Option.some.inj (h3.symm.trans hq)).symm
      · exact .inr (Nat.le_of_eq (Option.some.inj (h3.symm.trans hq)))
end Go.Proofs.Ytehcfahfbdphpaa
