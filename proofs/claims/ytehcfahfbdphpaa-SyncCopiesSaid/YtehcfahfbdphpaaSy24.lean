/- Layer 4: are two lists the same; calls as a parameter has them (conditions: none). -/
import Derived.Test.YtehcfahfbdphpaaSy15
namespace Go.Proofs.Ytehcfahfbdphpaa
open Go.RowKit Go.Shelf

set_option maxRecDepth 100000 in
set_option maxHeartbeats 1000000 in
theorem ints_same (xs : List Int) (A B : Option Addr) (ca cb : Nat) (hlen : xs.length ≤ 9223372036854775806) (w : World) (ha : RowV w noX (.slice A xs.length ca) (xs.map (D.int .i64))) (hb : RowV w noX (.slice B xs.length cb) (xs.map (D.int .i64))) :
    Calls Try.prog 28 #[.slice A xs.length ca, .slice B xs.length cb] w fun e w' => e = .returned (.bool true) ∧ Kept noX w w' := by
  have HA := Lib.hid ha
  have HB := Lib.hid hb
  clear ha hb
  go_enter Try.func28, Try.ntmps28
  go_wp2
  go_loopw [5] (fun i wr => ∃ k : Nat, k ≤ xs.length ∧ i = .int .i64 k ∧ Kept noX w wr) (fun i _ => xs.length - (intOf i).toNat)
  case atStart => exact ⟨0, Nat.zero_le _, rfl, Kept.refl _ _⟩
  case round =>
    obtain ⟨k, hk, rfl, hkr⟩ := hrel
    by_cases hlt : k < xs.length
    · have hdl : decide ((k : Int) < (xs.length : Int)) = true := by simpa using hlt
      obtain ⟨b1, o1, c1, hv1, hc1, _⟩ := rowN_at HA.out hlt
      obtain ⟨b2, o2, c2, hv2, hc2, _⟩ := rowN_at HB.out hlt
      injection hv1 with h1 _ h1c
      injection hv2 with h2 _ h2c
      subst h1 h1c h2 h2c
      have p1 := hkr.cell hc1
      have p2 := hkr.cell hc2
      generalize xs[k] = x at *
      clear hc1 hc2
      go_wp2_with fail
      refine wp_region_held_drew (S := (fun w' => w'.cell? ⟨b1, o1 + k, none⟩ = some (.int .i64 x) ∧ w'.cell? ⟨b2, o2 + k, none⟩ = some (.int .i64 x))) (by kernel_rfl) ⟨p1, p2⟩ (fun hHeld => ?_)
      refine wpAnyH_take (i := 0) (v := ?_) rfl (by kernel_rfl) (by kernel_rfl) (by kernel_rfl) (fun _ _ _ h => h) (Or.inl ⟨by rfl, ?_⟩) (by assumption) ?_
      rotate_left
      · intro wS hSw
        (try dsimp only at hSw)
        go_simp
        (try with_reducible rfl)
      refine wpAnyH_take (i := 1) (v := ?_) rfl (by kernel_rfl) (by kernel_rfl) (by kernel_rfl) (fun _ _ _ h => h) (Or.inl ⟨by rfl, ?_⟩) (by assumption) ?_
      rotate_left
      · intro wS hSw
        (try dsimp only at hSw)
        go_simp
        (try with_reducible rfl)
      refine wpAnyH_take (i := 2) (v := ?_) rfl (by kernel_rfl) (by kernel_rfl) (by kernel_rfl) (fun _ _ _ h => h) (Or.inl ⟨by rfl, ?_⟩) (by assumption) ?_
      rotate_left
      · intro wS hSw
        (try dsimp only at hSw)
        go_simp
        (try with_reducible rfl)
      refine wpAnyH_take (i := 3) (v := ?_) rfl (by kernel_rfl) (by kernel_rfl) (by kernel_rfl) (fun _ _ _ h => h) (Or.inl ⟨by rfl, ?_⟩) (by assumption) ?_
      rotate_left
      · intro wS hSw
        (try dsimp only at hSw)
        go_simp
        (try with_reducible rfl)
      refine wpAnyH_take (i := 4) (v := ?_) rfl (by kernel_rfl) (by kernel_rfl) (by kernel_rfl) (fun _ _ _ h => h) (Or.inl ⟨by rfl, ?_⟩) (by assumption) ?_
      rotate_left
      · intro wS hSw
        (try dsimp only at hSw)
        go_simp
        (try with_reducible rfl)
      (try simp only [Act.put, List.getElem_toArray, List.getElem_cons_succ, List.getElem_cons_zero, List.setIfInBounds_toArray, List.set_cons_zero, List.set_cons_succ])
      refine wpAnyH_take (i := 5) (v := ?_) rfl (by kernel_rfl) (by kernel_rfl) (by kernel_rfl) (fun _ _ _ h => h) (Or.inl ⟨by rfl, ?_⟩) (by assumption) ?_
      rotate_left
      · intro wS hSw
        (try dsimp only at hSw)
        go_simp
        (try with_reducible rfl)
      refine wpAnyH_take (i := 6) (v := ?_) rfl (by kernel_rfl) (by kernel_rfl) (by kernel_rfl) (fun _ _ _ h => h) (Or.inl ⟨by rfl, ?_⟩) (by assumption) ?_
      rotate_left
      · intro wS hSw
        (try dsimp only at hSw)
        go_simp
        (try with_reducible rfl)
      refine wpAnyH_take (i := 7) (v := ?_) rfl (by kernel_rfl) (by kernel_rfl) (by kernel_rfl) (fun _ _ _ h => h) (Or.inl ⟨by rfl, ?_⟩) (by assumption) ?_
      rotate_left
      · intro wS hSw
        (try dsimp only at hSw)
        go_simp
        (try with_reducible rfl)
      refine wpAnyH_take (i := 8) (v := ?_) rfl (by kernel_rfl) (by kernel_rfl) (by kernel_rfl) (fun _ _ _ h => h) (Or.inl ⟨by rfl, ?_⟩) (by assumption) ?_
      rotate_left
      · intro wS hSw
        (try dsimp only at hSw)
        go_simp
        (try with_reducible rfl)
      refine wpAnyH_done (by kernel_rfl) ?_ _
      (try simp only [Act.put, List.getElem_toArray, List.getElem_cons_succ, List.getElem_cons_zero, List.setIfInBounds_toArray, List.set_cons_zero, List.set_cons_succ])
      go_wp2
      go_roundw
      case rel => exact ⟨k + 1, hlt, by go_num, hkr.drew⟩
      case measure => simp [intOf]; omega
    · have hdl : decide ((k : Int) < (xs.length : Int)) = false := by simpa using hlt
      go_wp2
      go_ret
      exact ⟨rfl, hkr⟩

/-- A call, as the statements have it. -/
structure AC where
  what : Int
  n : Int
  t : Int
  v : Int
def AC.cells (x : AC) : List Value := [.int .i64 x.what, .int .i64 x.n, .int .i64 x.t, .int .i64 x.v]
/-- Calls in memory. -/
def ActsAt (w : World) (A : Option Addr) (l : List AC) : Prop := ∀ i (h : i < l.length), ∃ b o, A = some ⟨b, o, none⟩ ∧ ∀ j, j < 4 → w.cell? ⟨b, o + (i * 4 + j), none⟩ = l[i].cells[j]?
theorem ActsAt.keep {w w' : World} {A : Option Addr} {l : List AC} (h : ActsAt w A l) (hk : Kept noX w w') : ActsAt w' A l := fun i hi => by
  obtain ⟨b, o, h1, h2⟩ := h i hi
  refine ⟨b, o, h1, fun j hj => ?_⟩
  have hv : w.cell? ⟨b, o + (i * 4 + j), none⟩ = some (l[i].cells[j]'(by simpa [AC.cells] using hj)) := by rw [h2 j hj]; exact List.getElem?_eq_getElem _
  rw [← h2 j hj, hv]
  exact hk.cell hv
end Go.Proofs.Ytehcfahfbdphpaa
