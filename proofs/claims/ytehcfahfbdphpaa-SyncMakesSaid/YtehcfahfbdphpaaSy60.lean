/- Layer 4: the document's New, of whatever numbers; what is no more than is worked out (conditions: none). -/
import Derived.Test.YtehcfahfbdphpaaSy59
namespace Go.Proofs.Ytehcfahfbdphpaa
open Go.RowKit Go.Shelf

theorem okN_iff {m c : Int} {rooms : List Int} : okN m c rooms = true ↔ (0 ≤ m ∧ m ≤ 64 ∧ 0 ≤ c ∧ c ≤ 64 ∧ rooms.length ≤ 64) ∧ rooms.all (inI 1 16) = true := by
  unfold okN
  rw [Bool.and_eq_true]
  refine and_congr ?_ Iff.rfl
  simp [inI]
  omega
theorem znew_any (m c : Int) (A : Option Addr) (rc : Nat) (rooms : List Int) (w : World) (hv : RowV w noX (.slice A rooms.length rc) (dI rooms)) :
    Calls Try.prog 13 #[.int .i64 m, .int .i64 c, .slice A rooms.length rc] w fun e w' => (okN m c rooms = true ∧ ∃ vs, e = .returned (.tuple #[.agg vs.toArray, .int .i64 0]) ∧ RV w' (· < w.heap.size) vs (initR m.toNat c.toNat rooms) ∧ Kept noX w w') ∨
      (okN m c rooms = false ∧ e = .returned (.tuple #[.agg #[.slice none 0 0, .slice none 0 0, .slice none 0 0, .slice none 0 0, .slice none 0 0], .int .i64 2]) ∧ Kept noX w w') := by
  by_cases hr : m < 0 ∨ 64 < m ∨ c < 0 ∨ 64 < c ∨ 64 < rooms.length
  · refine (znew_range m c A rooms.length rc hr w).mono (fun e w' he => .inr ⟨?_, he⟩)
    cases hok : okN m c rooms with
    | false => rfl
    | true => have := (okN_iff.1 hok).1; omega
  · obtain ⟨mn, rfl⟩ : ∃ mn : Nat, m = mn := ⟨m.toNat, by omega⟩
    obtain ⟨cn, rfl⟩ : ∃ cn : Nat, c = cn := ⟨c.toNat, by omega⟩
    cases hall : rooms.all (inI 1 16) with
    | true => exact (znew_ok mn cn (by omega) (by omega) A rc rooms (by omega) hall w hv).mono (fun e w' he => .inl ⟨okN_iff.2 ⟨by omega, hall⟩, he⟩)
    | false =>
      refine (znew_room mn cn (by omega) (by omega) A rc rooms (by omega) hall w hv).mono (fun e w' he => .inr ⟨?_, he⟩)
      cases hok : okN mn cn rooms with
      | false => rfl
      | true => have := (okN_iff.1 hok).2; rw [hall] at this; cases this
set_option maxRecDepth 100000 in
set_option maxHeartbeats 1000000 in
theorem small_any (m c : Int) (A : Option Addr) (rc : Nat) (rooms : List Int) (B : Option Addr) (n bc : Nat) (w : World) (hv : RowV w noX (.slice A rooms.length rc) (dI rooms)) :
    Calls Try.prog 30 #[.agg #[.int .i64 m, .int .i64 c, .slice A rooms.length rc], .slice B n bc] w fun e w' => e = .returned (.bool (okN m c rooms && decide (n ≤ 100))) ∧ Kept noX w w' := by
  have HN := Lib.hid (fun w' (hk : Kept noX w w') => znew_any m c A rc rooms w' (Rep.keep hv hk))
  generalize okN m c rooms = ok at HN ⊢
  clear hv
  go_enter Try.func30, Try.ntmps30
  go_wp2_with fail
  refine (HN.out _ ((Kept.refl _ _).alloc _)).mono ?_
  rintro e W1 (⟨hok, vs, rfl, hR, hk⟩ | ⟨hok, rfl, hk⟩)
  · generalize initR m.toNat c.toNat rooms = R0 at hR
    obtain ⟨q0', q1', q2', q3', q4', hvs, r0', r1', r2', r3', r4'⟩ := hR
    obtain ⟨U0, n0', u0, rfl, hn0', -⟩ := r0'.form
    obtain ⟨U1, n1', u1, rfl, hn1', -⟩ := r1'.form
    obtain ⟨U2, n2', u2, rfl, hn2', -⟩ := r2'.form
    obtain ⟨U3, n3', u3, rfl, hn3', -⟩ := r3'.form
    obtain ⟨U4, n4', u4, rfl, hn4', -⟩ := r4'.form
    rw [List.length_map] at hn0' hn1' hn2' hn3' hn4'
    subst hn0' hn1' hn2' hn3' hn4'
    subst hvs
    clear r0' r1' r2' r3' r4'
    by_cases hn : n ≤ 100
    · have e1 : decide ((n : Int) ≤ 100) = true := by simp; omega
      have e2 : decide (n ≤ 100) = true := by simpa using hn
      go_wp2_with fail
      go_ret
      exact ⟨by rw [hok, e2]; rfl, (((Kept.refl _ _).alloc _).trans hk).alloc _⟩
    · have e1 : decide ((n : Int) ≤ 100) = false := by simp; omega
      have e2 : decide (n ≤ 100) = false := by simpa using hn
      go_wp2_with fail
      go_ret
      exact ⟨by rw [e2]; simp, (((Kept.refl _ _).alloc _).trans hk).alloc _⟩
  · go_wp2_with fail
    go_ret
    exact ⟨by rw [hok]; rfl, (((Kept.refl _ _).alloc _).trans hk).alloc _⟩
end Go.Proofs.Ytehcfahfbdphpaa
