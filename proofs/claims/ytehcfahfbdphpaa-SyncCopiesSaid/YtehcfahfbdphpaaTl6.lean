/- Layer 4: the project's Same and Copy, the document's Same (conditions: the states stand). -/
import Derived.Test.YtehcfahfbdphpaaSy24
import Derived.Test.YtehcfahfbdphpaaSy18
import Derived.Test.YtehcfahfbdphpaaSy25
import Derived.Test.YtehcfahfbdphpaaSy40
import Derived.Test.YtehcfahfbdphpaaSy29
import Derived.Test.YtehcfahfbdphpaaSy38
namespace Go.Proofs.Ytehcfahfbdphpaa
open Go.RowKit Go.Shelf

/-- Numbers in memory, a cell each. -/
def IxAt (w : World) (A : Option Addr) (xs : List Int) : Prop := ∀ i (h : i < xs.length), ∃ b o, A = some ⟨b, o, none⟩ ∧ w.cell? ⟨b, o + i, none⟩ = some (.int .i64 xs[i])
theorem IxAt.keep {w w' : World} {A : Option Addr} {xs : List Int} (h : IxAt w A xs) (hk : Kept noX w w') : IxAt w' A xs := fun i hi => by
  obtain ⟨b, o, h1, h2⟩ := h i hi
  exact ⟨b, o, h1, hk.cell h2⟩
theorem IxAt.row {w : World} {A : Option Addr} {n c : Nat} {xs : List Int} (h : RowV w noX (.slice A n c) (xs.map (D.int .i64))) : IxAt w A xs := fun i hi => by
  obtain ⟨b, o, c2, hv, hc, _⟩ := rowN_at h hi
  injection hv with h1 _ _
  exact ⟨b, o, h1, hc⟩
theorem same_all {α : Type} {xs ys : List α} (hl : xs.length = ys.length) (h : ∀ j, j < xs.length → xs[j]? = ys[j]?) : xs = ys := by
  apply List.ext_getElem?
  intro j
  rcases Nat.lt_or_ge j xs.length with hj | hj
  · exact h j hj
  · rw [List.getElem?_eq_none hj, List.getElem?_eq_none (by omega)]
set_option maxRecDepth 100000 in
set_option maxHeartbeats 1000000 in
theorem eqI_any (xs ys : List Int) (A B : Option Addr) (ca cb : Nat) (hlen : xs.length ≤ 9223372036854775806) (w : World) (ha : IxAt w A xs) (hb : IxAt w B ys) :
    Calls Try.prog 98 #[.slice A xs.length ca, .slice B ys.length cb] w fun e w' => e = .returned (.bool (decide (xs = ys))) ∧ Kept noX w w' := by
  by_cases hl : xs.length = ys.length
  · have HA := Lib.hid ha
    have HB := Lib.hid hb
    have HY := Lib.hid (fun (k : Nat) (h1 : k < xs.length) (h2 : k < ys.length) (h : xs[k] ≠ ys[k]) => (show decide (xs = ys) = false by simp only [decide_eq_false_iff_not]; intro e; subst e; exact h rfl))
    have HZ := Lib.hid (fun (h : ∀ j, j < xs.length → xs[j]? = ys[j]?) => (show decide (xs = ys) = true by simp only [decide_eq_true_eq]; exact same_all hl h))
    generalize decide (xs = ys) = r at HY HZ ⊢
    have HL := Lib.hid hl
    clear ha hb
    rw [← hl]
    clear hl
    go_enter Try.func98, Try.ntmps98
    go_wp2
    go_loopw [13] (fun i wr => ∃ k : Nat, k ≤ xs.length ∧ i = .int .i64 k ∧ (∀ j, j < k → xs[j]? = ys[j]?) ∧ Kept noX w wr) (fun i _ => xs.length - (intOf i).toNat)
    case atStart => exact ⟨0, Nat.zero_le _, rfl, fun j hj => by omega, Kept.refl _ _⟩
    case round =>
      obtain ⟨k, hk, rfl, hall, hkr⟩ := hrel
      have HJ := Lib.hid hall
      clear hall
      by_cases hlt : k < xs.length
      · have hdl : decide ((k : Int) < (xs.length : Int)) = true := by simpa using hlt
        have hlt2 : k < ys.length := by rw [← HL.out]; exact hlt
        obtain ⟨b1, o1, rfl, hc1⟩ := HA.out k hlt
        obtain ⟨b2, o2, rfl, hc2⟩ := HB.out k hlt2
        have p1 := hkr.cell hc1
        have p2 := hkr.cell hc2
        have HN := Lib.hid (fun h : xs[k] = ys[k] => (fun j (hj : j < k + 1) => (by
          rcases Nat.lt_or_ge j k with h' | h'
          · exact HJ.out j h'
          · obtain rfl : j = k := by omega
            rw [List.getElem?_eq_getElem hlt, List.getElem?_eq_getElem hlt2, h] : xs[j]? = ys[j]?)))
        have HYk := Lib.hid (HY.out k hlt hlt2)
        generalize xs[k] = x at *
        generalize ys[k] = y at *
        clear hc1 hc2 HY HZ HJ
        by_cases hxy : x = y
        · subst hxy
          go_wp2_with fail
          refine wp_region_held_drew (S := (fun w' => w'.cell? ⟨b1, o1 + k, none⟩ = some (.int .i64 x) ∧ w'.cell? ⟨b2, o2 + k, none⟩ = some (.int .i64 x))) (by kernel_rfl) ⟨p1, p2⟩ (fun hHeld => ?_)
          refine wpAnyH_take (i := 0) (v := ?_) rfl (by kernel_rfl) (by kernel_rfl) (by kernel_rfl) (fun _ _ _ h => h) (Or.inl ⟨by rfl, ?_⟩) (by assumption) ?_
          rotate_left
          · intro wS hSw
            (try dsimp only at hSw)
            go_simp
            (try with_reducible rfl)
          refine wpAnyH_take (i := 1) (v := ?_) rfl (by kernel_rfl) (by kernel_rfl) (by kernel_rfl) (fun _ _ _ h => h) (Or.inl ⟨by rfl, ?_⟩) (by assumption) ?_
          rotate_left
          · intro wS hSw
            (try dsimp only at hSw)
            go_simp
            (try with_reducible rfl)
          refine wpAnyH_take (i := 2) (v := ?_) rfl (by kernel_rfl) (by kernel_rfl) (by kernel_rfl) (fun _ _ _ h => h) (Or.inl ⟨by rfl, ?_⟩) (by assumption) ?_
          rotate_left
          · intro wS hSw
            (try dsimp only at hSw)
            go_simp
            (try with_reducible rfl)
          refine wpAnyH_take (i := 3) (v := ?_) rfl (by kernel_rfl) (by kernel_rfl) (by kernel_rfl) (fun _ _ _ h => h) (Or.inl ⟨by rfl, ?_⟩) (by assumption) ?_
          rotate_left
          · intro wS hSw
            (try dsimp only at hSw)
            go_simp
            (try with_reducible rfl)
          refine wpAnyH_take (i := 4) (v := ?_) rfl (by kernel_rfl) (by kernel_rfl) (by kernel_rfl) (fun _ _ _ h => h) (Or.inl ⟨by rfl, ?_⟩) (by assumption) ?_
          rotate_left
          · intro wS hSw
            (try dsimp only at hSw)
            go_simp
            (try with_reducible rfl)
          (try simp only [Act.put, List.getElem_toArray, List.getElem_cons_succ, List.getElem_cons_zero, List.setIfInBounds_toArray, List.set_cons_zero, List.set_cons_succ])
          refine wpAnyH_take (i := 5) (v := ?_) rfl (by kernel_rfl) (by kernel_rfl) (by kernel_rfl) (fun _ _ _ h => h) (Or.inl ⟨by rfl, ?_⟩) (by assumption) ?_
          rotate_left
          · intro wS hSw
            (try dsimp only at hSw)
            go_simp
            (try with_reducible rfl)
          refine wpAnyH_take (i := 6) (v := ?_) rfl (by kernel_rfl) (by kernel_rfl) (by kernel_rfl) (fun _ _ _ h => h) (Or.inl ⟨by rfl, ?_⟩) (by assumption) ?_
          rotate_left
          · intro wS hSw
            (try dsimp only at hSw)
            go_simp
            (try with_reducible rfl)
          refine wpAnyH_take (i := 7) (v := ?_) rfl (by kernel_rfl) (by kernel_rfl) (by kernel_rfl) (fun _ _ _ h => h) (Or.inl ⟨by rfl, ?_⟩) (by assumption) ?_
          rotate_left
          · intro wS hSw
            (try dsimp only at hSw)
            go_simp
            (try with_reducible rfl)
          refine wpAnyH_take (i := 8) (v := ?_) rfl (by kernel_rfl) (by kernel_rfl) (by kernel_rfl) (fun _ _ _ h => h) (Or.inl ⟨by rfl, ?_⟩) (by assumption) ?_
          rotate_left
          · intro wS hSw
            (try dsimp only at hSw)
            go_simp
            (try with_reducible rfl)
          refine wpAnyH_done (by kernel_rfl) ?_ _
          (try simp only [Act.put, List.getElem_toArray, List.getElem_cons_succ, List.getElem_cons_zero, List.setIfInBounds_toArray, List.set_cons_zero, List.set_cons_succ])
          go_wp2
          go_roundw
          case rel => exact ⟨k + 1, hlt, by go_num, HN.out (by first | exact rfl | trivial), hkr.drew⟩
          case measure => simp [intOf]; omega
        · have hne : (x == y) = false := by simpa using hxy
          have hnd : decide (x = y) = false := by simpa using hxy
          go_wp2_with fail
          refine wp_region_held_drew (S := (fun w' => w'.cell? ⟨b1, o1 + k, none⟩ = some (.int .i64 x) ∧ w'.cell? ⟨b2, o2 + k, none⟩ = some (.int .i64 y))) (by kernel_rfl) ⟨p1, p2⟩ (fun hHeld => ?_)
          refine wpAnyH_take (i := 0) (v := ?_) rfl (by kernel_rfl) (by kernel_rfl) (by kernel_rfl) (fun _ _ _ h => h) (Or.inl ⟨by rfl, ?_⟩) (by assumption) ?_
          rotate_left
          · intro wS hSw
            (try dsimp only at hSw)
            go_simp
            (try with_reducible rfl)
          refine wpAnyH_take (i := 1) (v := ?_) rfl (by kernel_rfl) (by kernel_rfl) (by kernel_rfl) (fun _ _ _ h => h) (Or.inl ⟨by rfl, ?_⟩) (by assumption) ?_
          rotate_left
          · intro wS hSw
            (try dsimp only at hSw)
            go_simp
            (try with_reducible rfl)
          refine wpAnyH_take (i := 2) (v := ?_) rfl (by kernel_rfl) (by kernel_rfl) (by kernel_rfl) (fun _ _ _ h => h) (Or.inl ⟨by rfl, ?_⟩) (by assumption) ?_
          rotate_left
          · intro wS hSw
            (try dsimp only at hSw)
            go_simp
            (try with_reducible rfl)
          refine wpAnyH_take (i := 3) (v := ?_) rfl (by kernel_rfl) (by kernel_rfl) (by kernel_rfl) (fun _ _ _ h => h) (Or.inl ⟨by rfl, ?_⟩) (by assumption) ?_
          rotate_left
          · intro wS hSw
            (try dsimp only at hSw)
            go_simp
            (try with_reducible rfl)
          refine wpAnyH_take (i := 4) (v := ?_) rfl (by kernel_rfl) (by kernel_rfl) (by kernel_rfl) (fun _ _ _ h => h) (Or.inl ⟨by rfl, ?_⟩) (by assumption) ?_
          rotate_left
          · intro wS hSw
            (try dsimp only at hSw)
            go_simp
            (try with_reducible rfl)
          (try simp only [Act.put, List.getElem_toArray, List.getElem_cons_succ, List.getElem_cons_zero, List.setIfInBounds_toArray, List.set_cons_zero, List.set_cons_succ])
          refine wpAnyH_take (i := 5) (v := ?_) rfl (by kernel_rfl) (by kernel_rfl) (by kernel_rfl) (fun _ _ _ h => h) (Or.inl ⟨by rfl, ?_⟩) (by assumption) ?_
          rotate_left
          · intro wS hSw
            (try dsimp only at hSw)
            go_simp
            (try with_reducible rfl)
          refine wpAnyH_take (i := 6) (v := ?_) rfl (by kernel_rfl) (by kernel_rfl) (by kernel_rfl) (fun _ _ _ h => h) (Or.inl ⟨by rfl, ?_⟩) (by assumption) ?_
          rotate_left
          · intro wS hSw
            (try dsimp only at hSw)
            go_simp
            (try with_reducible rfl)
          refine wpAnyH_take (i := 7) (v := ?_) rfl (by kernel_rfl) (by kernel_rfl) (by kernel_rfl) (fun _ _ _ h => h) (Or.inl ⟨by rfl, ?_⟩) (by assumption) ?_
          rotate_left
          · intro wS hSw
            (try dsimp only at hSw)
            go_simp
            (try with_reducible rfl)
          refine wpAnyH_take (i := 8) (v := ?_) rfl (by kernel_rfl) (by kernel_rfl) (by kernel_rfl) (fun _ _ _ h => h) (Or.inl ⟨by rfl, ?_⟩) (by assumption) ?_
          rotate_left
          · intro wS hSw
            (try dsimp only at hSw)
            go_simp
            (try with_reducible rfl)
          refine wpAnyH_done (by kernel_rfl) ?_ _
          (try simp only [Act.put, List.getElem_toArray, List.getElem_cons_succ, List.getElem_cons_zero, List.setIfInBounds_toArray, List.set_cons_zero, List.set_cons_succ])
          go_wp2
          go_ret
          exact ⟨by rw [HYk.out hxy]; rfl, hkr.drew⟩
      · have hdl : decide ((k : Int) < (xs.length : Int)) = false := by simpa using hlt
        have hr : r = true := HZ.out (fun j hj => HJ.out j (by omega))
        clear HY HZ HJ
        go_wp2
        go_ret
        exact ⟨by rw [hr]; rfl, hkr⟩
  · have hd : decide ((xs.length : Int) = (ys.length : Int)) = false := by simp; omega
    have hr : decide (xs = ys) = false := by simp only [decide_eq_false_iff_not]; intro e; exact hl (by rw [e])
    rw [hr]
    clear ha hb hr
    go_enter Try.func98, Try.ntmps98
    go_wp2
    go_ret
    exact ⟨rfl, Kept.refl _ _⟩
set_option maxRecDepth 100000 in
set_option maxHeartbeats 1000000 in
theorem eqI64_any (xs ys : List Int) (A B : Option Addr) (ca cb : Nat) (hlen : xs.length ≤ 9223372036854775806) (w : World) (ha : IxAt w A xs) (hb : IxAt w B ys) :
    Calls Try.prog 99 #[.slice A xs.length ca, .slice B ys.length cb] w fun e w' => e = .returned (.bool (decide (xs = ys))) ∧ Kept noX w w' := by
  by_cases hl : xs.length = ys.length
  · have HA := Lib.hid ha
    have HB := Lib.hid hb
    have HY := Lib.hid (fun (k : Nat) (h1 : k < xs.length) (h2 : k < ys.length) (h : xs[k] ≠ ys[k]) => (show decide (xs = ys) = false by simp only [decide_eq_false_iff_not]; intro e; subst e; exact h rfl))
    have HZ := Lib.hid (fun (h : ∀ j, j < xs.length → xs[j]? = ys[j]?) => (show decide (xs = ys) = true by simp only [decide_eq_true_eq]; exact same_all hl h))
    generalize decide (xs = ys) = r at HY HZ ⊢
    have HL := Lib.hid hl
    clear ha hb
    rw [← hl]
    clear hl
    go_enter Try.func99, Try.ntmps99
    go_wp2
    go_loopw [13] (fun i wr => ∃ k : Nat, k ≤ xs.length ∧ i = .int .i64 k ∧ (∀ j, j < k → xs[j]? = ys[j]?) ∧ Kept noX w wr) (fun i _ => xs.length - (intOf i).toNat)
    case atStart => exact ⟨0, Nat.zero_le _, rfl, fun j hj => by omega, Kept.refl _ _⟩
    case round =>
      obtain ⟨k, hk, rfl, hall, hkr⟩ := hrel
      have HJ := Lib.hid hall
      clear hall
      by_cases hlt : k < xs.length
      · have hdl : decide ((k : Int) < (xs.length : Int)) = true := by simpa using hlt
        have hlt2 : k < ys.length := by rw [← HL.out]; exact hlt
        obtain ⟨b1, o1, rfl, hc1⟩ := HA.out k hlt
        obtain ⟨b2, o2, rfl, hc2⟩ := HB.out k hlt2
        have p1 := hkr.cell hc1
        have p2 := hkr.cell hc2
        have HN := Lib.hid (fun h : xs[k] = ys[k] => (fun j (hj : j < k + 1) => (by
          rcases Nat.lt_or_ge j k with h' | h'
          · exact HJ.out j h'
          · obtain rfl : j = k := by omega
            rw [List.getElem?_eq_getElem hlt, List.getElem?_eq_getElem hlt2, h] : xs[j]? = ys[j]?)))
        have HYk := Lib.hid (HY.out k hlt hlt2)
        generalize xs[k] = x at *
        generalize ys[k] = y at *
        clear hc1 hc2 HY HZ HJ
        by_cases hxy : x = y
        · subst hxy
          go_wp2_with fail
          refine wp_region_held_drew (S := (fun w' => w'.cell? ⟨b1, o1 + k, none⟩ = some (.int .i64 x) ∧ w'.cell? ⟨b2, o2 + k, none⟩ = some (.int .i64 x))) (by kernel_rfl) ⟨p1, p2⟩ (fun hHeld => ?_)
          refine wpAnyH_take (i := 0) (v := ?_) rfl (by kernel_rfl) (by kernel_rfl) (by kernel_rfl) (fun _ _ _ h => h) (Or.inl ⟨by rfl, ?_⟩) (by assumption) ?_
          rotate_left
          · intro wS hSw
            (try dsimp only at hSw)
            go_simp
            (try with_reducible rfl)
          refine wpAnyH_take (i := 1) (v := ?_) rfl (by kernel_rfl) (by kernel_rfl) (by kernel_rfl) (fun _ _ _ h => h) (Or.inl ⟨by rfl, ?_⟩) (by assumption) ?_
          rotate_left
          · intro wS hSw
            (try dsimp only at hSw)
            go_simp
            (try with_reducible rfl)
          refine wpAnyH_take (i := 2) (v := ?_) rfl (by kernel_rfl) (by kernel_rfl) (by kernel_rfl) (fun _ _ _ h => h) (Or.inl ⟨by rfl, ?_⟩) (by assumption) ?_
          rotate_left
          · intro wS hSw
            (try dsimp only at hSw)
            go_simp
            (try with_reducible rfl)
          refine wpAnyH_take (i := 3) (v := ?_) rfl (by kernel_rfl) (by kernel_rfl) (by kernel_rfl) (fun _ _ _ h => h) (Or.inl ⟨by rfl, ?_⟩) (by assumption) ?_
          rotate_left
          · intro wS hSw
            (try dsimp only at hSw)
            go_simp
            (try with_reducible rfl)
          refine wpAnyH_take (i := 4) (v := ?_) rfl (by kernel_rfl) (by kernel_rfl) (by kernel_rfl) (fun _ _ _ h => h) (Or.inl ⟨by rfl, ?_⟩) (by assumption) ?_
          rotate_left
          · intro wS hSw
            (try dsimp only at hSw)
            go_simp
            (try with_reducible rfl)
          (try simp only [Act.put, List.getElem_toArray, List.getElem_cons_succ, List.getElem_cons_zero, List.setIfInBounds_toArray, List.set_cons_zero, List.set_cons_succ])
          refine wpAnyH_take (i := 5) (v := ?_) rfl (by kernel_rfl) (by kernel_rfl) (by kernel_rfl) (fun _ _ _ h => h) (Or.inl ⟨by rfl, ?_⟩) (by assumption) ?_
          rotate_left
          · intro wS hSw
            (try dsimp only at hSw)
            go_simp
            (try with_reducible rfl)
          refine wpAnyH_take (i := 6) (v := ?_) rfl (by kernel_rfl) (by kernel_rfl) (by kernel_rfl) (fun _ _ _ h => h) (Or.inl ⟨by rfl, ?_⟩) (by assumption) ?_
          rotate_left
          · intro wS hSw
            (try dsimp only at hSw)
            go_simp
            (try with_reducible rfl)
          refine wpAnyH_take (i := 7) (v := ?_) rfl (by kernel_rfl) (by kernel_rfl) (by kernel_rfl) (fun _ _ _ h => h) (Or.inl ⟨by rfl, ?_⟩) (by assumption) ?_
          rotate_left
          · intro wS hSw
            (try dsimp only at hSw)
            go_simp
            (try with_reducible rfl)
          refine wpAnyH_take (i := 8) (v := ?_) rfl (by kernel_rfl) (by kernel_rfl) (by kernel_rfl) (fun _ _ _ h => h) (Or.inl ⟨by rfl, ?_⟩) (by assumption) ?_
          rotate_left
          · intro wS hSw
            (try dsimp only at hSw)
            go_simp
            (try with_reducible rfl)
          refine wpAnyH_done (by kernel_rfl) ?_ _
          (try simp only [Act.put, List.getElem_toArray, List.getElem_cons_succ, List.getElem_cons_zero, List.setIfInBounds_toArray, List.set_cons_zero, List.set_cons_succ])
          go_wp2
          go_roundw
          case rel => exact ⟨k + 1, hlt, by go_num, HN.out (by first | exact rfl | trivial), hkr.drew⟩
          case measure => simp [intOf]; omega
        · have hne : (x == y) = false := by simpa using hxy
          have hnd : decide (x = y) = false := by simpa using hxy
          go_wp2_with fail
          refine wp_region_held_drew (S := (fun w' => w'.cell? ⟨b1, o1 + k, none⟩ = some (.int .i64 x) ∧ w'.cell? ⟨b2, o2 + k, none⟩ = some (.int .i64 y))) (by kernel_rfl) ⟨p1, p2⟩ (fun hHeld => ?_)
          refine wpAnyH_take (i := 0) (v := ?_) rfl (by kernel_rfl) (by kernel_rfl) (by kernel_rfl) (fun _ _ _ h => h) (Or.inl ⟨by rfl, ?_⟩) (by assumption) ?_
          rotate_left
          · intro wS hSw
            (try dsimp only at hSw)
            go_simp
            (try with_reducible rfl)
          refine wpAnyH_take (i := 1) (v := ?_) rfl (by kernel_rfl) (by kernel_rfl) (by kernel_rfl) (fun _ _ _ h => h) (Or.inl ⟨by rfl, ?_⟩) (by assumption) ?_
          rotate_left
          · intro wS hSw
            (try dsimp only at hSw)
            go_simp
            (try with_reducible rfl)
          refine wpAnyH_take (i := 2) (v := ?_) rfl (by kernel_rfl) (by kernel_rfl) (by kernel_rfl) (fun _ _ _ h => h) (Or.inl ⟨by rfl, ?_⟩) (by assumption) ?_
          rotate_left
          · intro wS hSw
            (try dsimp only at hSw)
            go_simp
            (try with_reducible rfl)
          refine wpAnyH_take (i := 3) (v := ?_) rfl (by kernel_rfl) (by kernel_rfl) (by kernel_rfl) (fun _ _ _ h => h) (Or.inl ⟨by rfl, ?_⟩) (by assumption) ?_
          rotate_left
          · intro wS hSw
            (try dsimp only at hSw)
            go_simp
            (try with_reducible rfl)
          refine wpAnyH_take (i := 4) (v := ?_) rfl (by kernel_rfl) (by kernel_rfl) (by kernel_rfl) (fun _ _ _ h => h) (Or.inl ⟨by rfl, ?_⟩) (by assumption) ?_
          rotate_left
          · intro wS hSw
            (try dsimp only at hSw)
            go_simp
            (try with_reducible rfl)
          (try simp only [Act.put, List.getElem_toArray, List.getElem_cons_succ, List.getElem_cons_zero, List.setIfInBounds_toArray, List.set_cons_zero, List.set_cons_succ])
          refine wpAnyH_take (i := 5) (v := ?_) rfl (by kernel_rfl) (by kernel_rfl) (by kernel_rfl) (fun _ _ _ h => h) (Or.inl ⟨by rfl, ?_⟩) (by assumption) ?_
          rotate_left
          · intro wS hSw
            (try dsimp only at hSw)
            go_simp
            (try with_reducible rfl)
          refine wpAnyH_take (i := 6) (v := ?_) rfl (by kernel_rfl) (by kernel_rfl) (by kernel_rfl) (fun _ _ _ h => h) (Or.inl ⟨by rfl, ?_⟩) (by assumption) ?_
          rotate_left
          · intro wS hSw
            (try dsimp only at hSw)
            go_simp
            (try with_reducible rfl)
          refine wpAnyH_take (i := 7) (v := ?_) rfl (by kernel_rfl) (by kernel_rfl) (by kernel_rfl) (fun _ _ _ h => h) (Or.inl ⟨by rfl, ?_⟩) (by assumption) ?_
          rotate_left
          · intro wS hSw
            (try dsimp only at hSw)
            go_simp
            (try with_reducible rfl)
          refine wpAnyH_take (i := 8) (v := ?_) rfl (by kernel_rfl) (by kernel_rfl) (by kernel_rfl) (fun _ _ _ h => h) (Or.inl ⟨by rfl, ?_⟩) (by assumption) ?_
          rotate_left
          · intro wS hSw
            (try dsimp only at hSw)
            go_simp
            (try with_reducible rfl)
          refine wpAnyH_done (by kernel_rfl) ?_ _
          (try simp only [Act.put, List.getElem_toArray, List.getElem_cons_succ, List.getElem_cons_zero, List.setIfInBounds_toArray, List.set_cons_zero, List.set_cons_succ])
          go_wp2
          go_ret
          exact ⟨by rw [HYk.out hxy]; rfl, hkr.drew⟩
      · have hdl : decide ((k : Int) < (xs.length : Int)) = false := by simpa using hlt
        have hr : r = true := HZ.out (fun j hj => HJ.out j (by omega))
        clear HY HZ HJ
        go_wp2
        go_ret
        exact ⟨by rw [hr]; rfl, hkr⟩
  · have hd : decide ((xs.length : Int) = (ys.length : Int)) = false := by simp; omega
    have hr : decide (xs = ys) = false := by simp only [decide_eq_false_iff_not]; intro e; exact hl (by rw [e])
    rw [hr]
    clear ha hb hr
    go_enter Try.func99, Try.ntmps99
    go_wp2
    go_ret
    exact ⟨rfl, Kept.refl _ _⟩
set_option maxRecDepth 100000 in
set_option maxHeartbeats 1000000 in
theorem eqM_any (xs ys : List Int) (A B : Option Addr) (ca cb : Nat) (hlen : xs.length ≤ 9223372036854775806) (w : World) (ha : IxAt w A xs) (hb : IxAt w B ys) :
    Calls Try.prog 81 #[.slice A xs.length ca, .slice B ys.length cb] w fun e w' => e = .returned (.bool (decide (xs = ys))) ∧ Kept noX w w' := by
  by_cases hl : xs.length = ys.length
  · have HA := Lib.hid ha
    have HB := Lib.hid hb
    have HY := Lib.hid (fun (k : Nat) (h1 : k < xs.length) (h2 : k < ys.length) (h : xs[k] ≠ ys[k]) => (show decide (xs = ys) = false by simp only [decide_eq_false_iff_not]; intro e; subst e; exact h rfl))
    have HZ := Lib.hid (fun (h : ∀ j, j < xs.length → xs[j]? = ys[j]?) => (show decide (xs = ys) = true by simp only [decide_eq_true_eq]; exact same_all hl h))
    generalize decide (xs = ys) = r at HY HZ ⊢
    have HL := Lib.hid hl
    clear ha hb
    rw [← hl]
    clear hl
    go_enter Try.func81, Try.ntmps81
    go_wp2
    go_loopw [13] (fun i wr => ∃ k : Nat, k ≤ xs.length ∧ i = .int .i64 k ∧ (∀ j, j < k → xs[j]? = ys[j]?) ∧ Kept noX w wr) (fun i _ => xs.length - (intOf i).toNat)
    case atStart => exact ⟨0, Nat.zero_le _, rfl, fun j hj => by omega, Kept.refl _ _⟩
    case round =>
      obtain ⟨k, hk, rfl, hall, hkr⟩ := hrel
      have HJ := Lib.hid hall
      clear hall
      by_cases hlt : k < xs.length
      · have hdl : decide ((k : Int) < (xs.length : Int)) = true := by simpa using hlt
        have hlt2 : k < ys.length := by rw [← HL.out]; exact hlt
        obtain ⟨b1, o1, rfl, hc1⟩ := HA.out k hlt
        obtain ⟨b2, o2, rfl, hc2⟩ := HB.out k hlt2
        have p1 := hkr.cell hc1
        have p2 := hkr.cell hc2
        have HN := Lib.hid (fun h : xs[k] = ys[k] => (fun j (hj : j < k + 1) => (by
          rcases Nat.lt_or_ge j k with h' | h'
          · exact HJ.out j h'
          · obtain rfl : j = k := by omega
            rw [List.getElem?_eq_getElem hlt, List.getElem?_eq_getElem hlt2, h] : xs[j]? = ys[j]?)))
        have HYk := Lib.hid (HY.out k hlt hlt2)
        generalize xs[k] = x at *
        generalize ys[k] = y at *
        clear hc1 hc2 HY HZ HJ
        by_cases hxy : x = y
        · subst hxy
          go_wp2_with fail
          refine wp_region_held_drew (S := (fun w' => w'.cell? ⟨b1, o1 + k, none⟩ = some (.int .i64 x) ∧ w'.cell? ⟨b2, o2 + k, none⟩ = some (.int .i64 x))) (by kernel_rfl) ⟨p1, p2⟩ (fun hHeld => ?_)
          refine wpAnyH_take (i := 0) (v := ?_) rfl (by kernel_rfl) (by kernel_rfl) (by kernel_rfl) (fun _ _ _ h => h) (Or.inl ⟨by rfl, ?_⟩) (by assumption) ?_
          rotate_left
          · intro wS hSw
            (try dsimp only at hSw)
            go_simp
            (try with_reducible rfl)
          refine wpAnyH_take (i := 1) (v := ?_) rfl (by kernel_rfl) (by kernel_rfl) (by kernel_rfl) (fun _ _ _ h => h) (Or.inl ⟨by rfl, ?_⟩) (by assumption) ?_
          rotate_left
          · intro wS hSw
            (try dsimp only at hSw)
            go_simp
            (try with_reducible rfl)
          refine wpAnyH_take (i := 2) (v := ?_) rfl (by kernel_rfl) (by kernel_rfl) (by kernel_rfl) (fun _ _ _ h => h) (Or.inl ⟨by rfl, ?_⟩) (by assumption) ?_
          rotate_left
          · intro wS hSw
            (try dsimp only at hSw)
            go_simp
            (try with_reducible rfl)
          refine wpAnyH_take (i := 3) (v := ?_) rfl (by kernel_rfl) (by kernel_rfl) (by kernel_rfl) (fun _ _ _ h => h) (Or.inl ⟨by rfl, ?_⟩) (by assumption) ?_
          rotate_left
          · intro wS hSw
            (try dsimp only at hSw)
            go_simp
            (try with_reducible rfl)
          refine wpAnyH_take (i := 4) (v := ?_) rfl (by kernel_rfl) (by kernel_rfl) (by kernel_rfl) (fun _ _ _ h => h) (Or.inl ⟨by rfl, ?_⟩) (by assumption) ?_
          rotate_left
          · intro wS hSw
            (try dsimp only at hSw)
            go_simp
            (try with_reducible rfl)
          (try simp only [Act.put, List.getElem_toArray, List.getElem_cons_succ, List.getElem_cons_zero, List.setIfInBounds_toArray, List.set_cons_zero, List.set_cons_succ])
          refine wpAnyH_take (i := 5) (v := ?_) rfl (by kernel_rfl) (by kernel_rfl) (by kernel_rfl) (fun _ _ _ h => h) (Or.inl ⟨by rfl, ?_⟩) (by assumption) ?_
          rotate_left
          · intro wS hSw
            (try dsimp only at hSw)
            go_simp
            (try with_reducible rfl)
          refine wpAnyH_take (i := 6) (v := ?_) rfl (by kernel_rfl) (by kernel_rfl) (by kernel_rfl) (fun _ _ _ h => h) (Or.inl ⟨by rfl, ?_⟩) (by assumption) ?_
          rotate_left
          · intro wS hSw
            (try dsimp only at hSw)
            go_simp
            (try with_reducible rfl)
          refine wpAnyH_take (i := 7) (v := ?_) rfl (by kernel_rfl) (by kernel_rfl) (by kernel_rfl) (fun _ _ _ h => h) (Or.inl ⟨by rfl, ?_⟩) (by assumption) ?_
          rotate_left
          · intro wS hSw
            (try dsimp only at hSw)
            go_simp
            (try with_reducible rfl)
          refine wpAnyH_take (i := 8) (v := ?_) rfl (by kernel_rfl) (by kernel_rfl) (by kernel_rfl) (fun _ _ _ h => h) (Or.inl ⟨by rfl, ?_⟩) (by assumption) ?_
          rotate_left
          · intro wS hSw
            (try dsimp only at hSw)
            go_simp
            (try with_reducible rfl)
          refine wpAnyH_done (by kernel_rfl) ?_ _
          (try simp only [Act.put, List.getElem_toArray, List.getElem_cons_succ, List.getElem_cons_zero, List.setIfInBounds_toArray, List.set_cons_zero, List.set_cons_succ])
          go_wp2
          go_roundw
          case rel => exact ⟨k + 1, hlt, by go_num, HN.out (by first | exact rfl | trivial), hkr.drew⟩
          case measure => simp [intOf]; omega
        · have hne : (x == y) = false := by simpa using hxy
          have hnd : decide (x = y) = false := by simpa using hxy
          go_wp2_with fail
          refine wp_region_held_drew (S := (fun w' => w'.cell? ⟨b1, o1 + k, none⟩ = some (.int .i64 x) ∧ w'.cell? ⟨b2, o2 + k, none⟩ = some (.int .i64 y))) (by kernel_rfl) ⟨p1, p2⟩ (fun hHeld => ?_)
          refine wpAnyH_take (i := 0) (v := ?_) rfl (by kernel_rfl) (by kernel_rfl) (by kernel_rfl) (fun _ _ _ h => h) (Or.inl ⟨by rfl, ?_⟩) (by assumption) ?_
          rotate_left
          · intro wS hSw
            (try dsimp only at hSw)
            go_simp
            (try with_reducible rfl)
          refine wpAnyH_take (i := 1) (v := ?_) rfl (by kernel_rfl) (by kernel_rfl) (by kernel_rfl) (fun _ _ _ h => h) (Or.inl ⟨by rfl, ?_⟩) (by assumption) ?_
          rotate_left
          · intro wS hSw
            (try dsimp only at hSw)
            go_simp
            (try with_reducible rfl)
          refine wpAnyH_take (i := 2) (v := ?_) rfl (by kernel_rfl) (by kernel_rfl) (by kernel_rfl) (fun _ _ _ h => h) (Or.inl ⟨by rfl, ?_⟩) (by assumption) ?_
          rotate_left
          · intro wS hSw
            (try dsimp only at hSw)
            go_simp
            (try with_reducible rfl)
          refine wpAnyH_take (i := 3) (v := ?_) rfl (by kernel_rfl) (by kernel_rfl) (by kernel_rfl) (fun _ _ _ h => h) (Or.inl ⟨by rfl, ?_⟩) (by assumption) ?_
          rotate_left
          · intro wS hSw
            (try dsimp only at hSw)
            go_simp
            (try with_reducible rfl)
          refine wpAnyH_take (i := 4) (v := ?_) rfl (by kernel_rfl) (by kernel_rfl) (by kernel_rfl) (fun _ _ _ h => h) (Or.inl ⟨by rfl, ?_⟩) (by assumption) ?_
          rotate_left
          · intro wS hSw
            (try dsimp only at hSw)
            go_simp
            (try with_reducible rfl)
          (try simp only [Act.put, List.getElem_toArray, List.getElem_cons_succ, List.getElem_cons_zero, List.setIfInBounds_toArray, List.set_cons_zero, List.set_cons_succ])
          refine wpAnyH_take (i := 5) (v := ?_) rfl (by kernel_rfl) (by kernel_rfl) (by kernel_rfl) (fun _ _ _ h => h) (Or.inl ⟨by rfl, ?_⟩) (by assumption) ?_
          rotate_left
          · intro wS hSw
            (try dsimp only at hSw)
            go_simp
            (try with_reducible rfl)
          refine wpAnyH_take (i := 6) (v := ?_) rfl (by kernel_rfl) (by kernel_rfl) (by kernel_rfl) (fun _ _ _ h => h) (Or.inl ⟨by rfl, ?_⟩) (by assumption) ?_
          rotate_left
          · intro wS hSw
            (try dsimp only at hSw)
            go_simp
            (try with_reducible rfl)
          refine wpAnyH_take (i := 7) (v := ?_) rfl (by kernel_rfl) (by kernel_rfl) (by kernel_rfl) (fun _ _ _ h => h) (Or.inl ⟨by rfl, ?_⟩) (by assumption) ?_
          rotate_left
          · intro wS hSw
            (try dsimp only at hSw)
            go_simp
            (try with_reducible rfl)
          refine wpAnyH_take (i := 8) (v := ?_) rfl (by kernel_rfl) (by kernel_rfl) (by kernel_rfl) (fun _ _ _ h => h) (Or.inl ⟨by rfl, ?_⟩) (by assumption) ?_
          rotate_left
          · intro wS hSw
            (try dsimp only at hSw)
            go_simp
            (try with_reducible rfl)
          refine wpAnyH_done (by kernel_rfl) ?_ _
          (try simp only [Act.put, List.getElem_toArray, List.getElem_cons_succ, List.getElem_cons_zero, List.setIfInBounds_toArray, List.set_cons_zero, List.set_cons_succ])
          go_wp2
          go_ret
          exact ⟨by rw [HYk.out hxy]; rfl, hkr.drew⟩
      · have hdl : decide ((k : Int) < (xs.length : Int)) = false := by simpa using hlt
        have hr : r = true := HZ.out (fun j hj => HJ.out j (by omega))
        clear HY HZ HJ
        go_wp2
        go_ret
        exact ⟨by rw [hr]; rfl, hkr⟩
  · have hd : decide ((xs.length : Int) = (ys.length : Int)) = false := by simp; omega
    have hr : decide (xs = ys) = false := by simp only [decide_eq_false_iff_not]; intro e; exact hl (by rw [e])
    rw [hr]
    clear ha hb hr
    go_enter Try.func81, Try.ntmps81
    go_wp2
    go_ret
    exact ⟨rfl, Kept.refl _ _⟩
set_option maxRecDepth 100000 in
set_option maxHeartbeats 1000000 in
theorem alike_any (xs ys : List Int) (A B : Option Addr) (ca cb : Nat) (hlen : xs.length ≤ 9223372036854775806) (w : World) (ha : IxAt w A xs) (hb : IxAt w B ys) :
    Calls Try.prog 94 #[.agg #[.slice A xs.length ca], .agg #[.slice B ys.length cb]] w fun e w' => e = .returned (.bool (decide (xs = ys))) ∧ Kept noX w w' := by
  have HE := Lib.hid (fun w' (hk : Kept noX w w') => eqI_any xs ys A B ca cb hlen w' (ha.keep hk) (hb.keep hk))
  generalize decide (xs = ys) = r at HE ⊢
  clear ha hb
  go_enter Try.func94, Try.ntmps94
  go_wp2_with (go_at_call 98; refine (HE.out _ (((Kept.refl _ _).alloc _).alloc _)).mono ?_; rintro e W1 ⟨rfl, hk1⟩)
  go_ret
  exact ⟨rfl, (((Kept.refl _ _).alloc _).alloc _).trans hk1⟩
set_option maxRecDepth 100000 in
set_option maxHeartbeats 1000000 in
theorem alike64_any (xs ys : List Int) (A B : Option Addr) (ca cb : Nat) (hlen : xs.length ≤ 9223372036854775806) (w : World) (ha : IxAt w A xs) (hb : IxAt w B ys) :
    Calls Try.prog 95 #[.agg #[.slice A xs.length ca], .agg #[.slice B ys.length cb]] w fun e w' => e = .returned (.bool (decide (xs = ys))) ∧ Kept noX w w' := by
  have HE := Lib.hid (fun w' (hk : Kept noX w w') => eqI64_any xs ys A B ca cb hlen w' (ha.keep hk) (hb.keep hk))
  generalize decide (xs = ys) = r at HE ⊢
  clear ha hb
  go_enter Try.func95, Try.ntmps95
  go_wp2_with (go_at_call 99; refine (HE.out _ (((Kept.refl _ _).alloc _).alloc _)).mono ?_; rintro e W1 ⟨rfl, hk1⟩)
  go_ret
  exact ⟨rfl, (((Kept.refl _ _).alloc _).alloc _).trans hk1⟩
set_option maxRecDepth 100000 in
set_option maxHeartbeats 1000000 in
theorem csame_any (xs ys : List Int) (A B : Option Addr) (ca cb : Nat) (hlen : xs.length ≤ 9223372036854775806) (w : World) (ha : IxAt w A xs) (hb : IxAt w B ys) :
    Calls Try.prog 83 #[.agg #[.slice A xs.length ca], .agg #[.slice B ys.length cb]] w fun e w' => e = .returned (.bool (decide (xs = ys))) ∧ Kept noX w w' := by
  have HE := Lib.hid (fun w' (hk : Kept noX w w') => alike_any xs ys A B ca cb hlen w' (ha.keep hk) (hb.keep hk))
  generalize decide (xs = ys) = r at HE ⊢
  clear ha hb
  go_enter Try.func83, Try.ntmps83
  go_wp2_with (go_at_call 94; refine (HE.out _ (((Kept.refl _ _).alloc _).alloc _)).mono ?_; rintro e W1 ⟨rfl, hk1⟩)
  go_ret
  exact ⟨rfl, (((Kept.refl _ _).alloc _).alloc _).trans hk1⟩
set_option maxRecDepth 100000 in
set_option maxHeartbeats 1000000 in
theorem qsame_any (x y : CH) (A B : Option Addr) (ca cb : Nat) (hlen : x.it.length ≤ 9223372036854775806) (w : World) (ha : IxAt w A x.it) (hb : IxAt w B y.it) :
    Calls Try.prog 85 #[.agg #[.slice A x.it.length ca, .int .i64 x.room, .int .i64 x.sent], .agg #[.slice B y.it.length cb, .int .i64 y.room, .int .i64 y.sent]] w fun e w' => e = .returned (.bool (decide (x.room = y.room) && decide (x.sent = y.sent) && decide (x.it = y.it))) ∧ Kept noX w w' := by
  have HE := Lib.hid (fun w' (hk : Kept noX w w') => alike64_any x.it y.it A B ca cb hlen w' (ha.keep hk) (hb.keep hk))
  generalize decide (x.it = y.it) = r at HE ⊢
  generalize x.room = r1 at *
  generalize y.room = r2 at *
  generalize x.sent = s1 at *
  generalize y.sent = s2 at *
  clear ha hb
  by_cases h1 : r1 = r2
  · subst h1
    have e1 : decide (r1 = r1) = true := by simp
    by_cases h2 : s1 = s2
    · subst h2
      have e2 : decide (s1 = s1) = true := by simp
      go_enter Try.func85, Try.ntmps85
      go_wp2_with (go_at_call 95; refine (HE.out _ (((Kept.refl _ _).alloc _).alloc _)).mono ?_; rintro e W1 ⟨rfl, hk1⟩)
      go_ret
      exact ⟨by simp, (((Kept.refl _ _).alloc _).alloc _).trans hk1⟩
    · have e2 : decide (s1 = s2) = false := by simpa using h2
      go_enter Try.func85, Try.ntmps85
      go_wp2_with fail
      go_ret
      exact ⟨by simp, (((Kept.refl _ _).alloc _).alloc _)⟩
  · have e2 : decide (r1 = r2) = false := by simpa using h1
    go_enter Try.func85, Try.ntmps85
    go_wp2_with fail
    go_ret
    exact ⟨by simp [h1], (((Kept.refl _ _).alloc _).alloc _)⟩
end Go.Proofs.Ytehcfahfbdphpaa
namespace Go.Proofs.Ytehcfahfbdphpaa
open Go.RowKit Go.Shelf

instance : DecidableEq CH := fun a b => if h : a.it = b.it ∧ a.room = b.room ∧ a.sent = b.sent then .isTrue (by cases a; cases b; obtain ⟨h1, h2, h3⟩ := h; cases h1; cases h2; cases h3; rfl) else .isFalse (fun e => h (by subst e; exact ⟨rfl, rfl, rfl⟩))
/-- Conditions in memory. -/
def CsAt (w : World) (A : Option Addr) (l : List (List Int)) : Prop := ∀ i (h : i < l.length), ∃ b o B c, A = some ⟨b, o, none⟩ ∧ w.cell? ⟨b, o + i, none⟩ = some (.slice B l[i].length c) ∧ IxAt w B l[i] ∧ l[i].length ≤ 1000000000
/-- Channels in memory. -/
def QsAt (w : World) (A : Option Addr) (l : List CH) : Prop := ∀ i (h : i < l.length), ∃ b o B c, A = some ⟨b, o, none⟩ ∧ w.cell? ⟨b, o + i * 3, none⟩ = some (.slice B l[i].it.length c) ∧ w.cell? ⟨b, o + i * 3 + 1, none⟩ = some (.int .i64 l[i].room) ∧ w.cell? ⟨b, o + i * 3 + 2, none⟩ = some (.int .i64 l[i].sent) ∧ IxAt w B l[i].it ∧ l[i].it.length ≤ 1000000000
theorem CsAt.keep {w w' : World} {A : Option Addr} {l : List (List Int)} (h : CsAt w A l) (hk : Kept noX w w') : CsAt w' A l := fun i hi => by
  obtain ⟨b, o, B, c, h1, h2, h3, h4⟩ := h i hi
  exact ⟨b, o, B, c, h1, hk.cell h2, h3.keep hk, h4⟩
theorem QsAt.keep {w w' : World} {A : Option Addr} {l : List CH} (h : QsAt w A l) (hk : Kept noX w w') : QsAt w' A l := fun i hi => by
  obtain ⟨b, o, B, c, h1, h2, h3, h4, h5, h6⟩ := h i hi
  exact ⟨b, o, B, c, h1, hk.cell h2, hk.cell h3, hk.cell h4, h5.keep hk, h6⟩
set_option maxRecDepth 100000 in
set_option maxHeartbeats 1000000 in
theorem eqC_any (xs ys : List (List Int)) (A B : Option Addr) (ca cb : Nat) (hlen : xs.length ≤ 64) (w : World) (ha : CsAt w A xs) (hb : CsAt w B ys) :
    Calls Try.prog 82 #[.slice A xs.length ca, .slice B ys.length cb, .func (.func 83) #[] #[]] w fun e w' => e = .returned (.bool (decide (xs = ys))) ∧ Kept noX w w' := by
  by_cases hl : xs.length = ys.length
  · have HA := Lib.hid ha
    have HB := Lib.hid hb
    have HY := Lib.hid (fun (k : Nat) (h1 : k < xs.length) (h2 : k < ys.length) (h : xs[k] ≠ ys[k]) => (show decide (xs = ys) = false by simp only [decide_eq_false_iff_not]; intro e; subst e; exact h rfl))
    have HZ := Lib.hid (fun (h : ∀ j, j < xs.length → xs[j]? = ys[j]?) => (show decide (xs = ys) = true by simp only [decide_eq_true_eq]; exact same_all hl h))
    generalize decide (xs = ys) = r at HY HZ ⊢
    have HL := Lib.hid hl
    clear ha hb
    rw [← hl]
    clear hl
    go_enter Try.func82, Try.ntmps82
    go_wp2
    go_loopw [17] (fun i wr => ∃ k : Nat, k ≤ xs.length ∧ i = .int .i64 k ∧ (∀ j, j < k → xs[j]? = ys[j]?) ∧ Kept noX w wr) (fun i _ => xs.length - (intOf i).toNat)
    case atStart => exact ⟨0, Nat.zero_le _, rfl, fun j hj => by omega, Kept.refl _ _⟩
    case round =>
      obtain ⟨k, hk, rfl, hall, hkr⟩ := hrel
      have HJ := Lib.hid hall
      clear hall
      by_cases hlt : k < xs.length
      · have hdl : decide ((k : Int) < (xs.length : Int)) = true := by simpa using hlt
        have hlt2 : k < ys.length := by rw [← HL.out]; exact hlt
        obtain ⟨b1, o1, B1, d1, rfl, pc0, hx, hxl⟩ := HA.out k hlt
        obtain ⟨b2, o2, B2, d2, rfl, qc0, hy, hyl⟩ := HB.out k hlt2
        have p0 := hkr.cell pc0
        have q0 := hkr.cell qc0
        have HN := Lib.hid (fun h : xs[k] = ys[k] => (fun j (hj : j < k + 1) => (by
          rcases Nat.lt_or_ge j k with h' | h'
          · exact HJ.out j h'
          · obtain rfl : j = k := by omega
            rw [List.getElem?_eq_getElem hlt, List.getElem?_eq_getElem hlt2, h] : xs[j]? = ys[j]?)))
        have HYk := Lib.hid (HY.out k hlt hlt2)
        generalize xs[k] = x at *
        generalize ys[k] = y at *
        have HE := Lib.hid (fun w' (hk : Kept noX w w') => csame_any x y B1 B2 d1 d2 (by omega) w' (hx.keep hk) (hy.keep hk))
        clear HY HZ HJ pc0 qc0 hx hy
        have hb2 : b2 < wr.heap.size := block_lt_of q0
        go_wp2_with fail
        refine (HE.out _ (hkr.trans (((Kept.refl _ _).alloc _).alloc _))).mono ?_
        rintro e W1 ⟨rfl, hk1⟩
        by_cases hxy : x = y
        · subst hxy
          have hd1 : decide (x = x) = true := by simp
          rw [hd1]
          go_wp2
          go_roundw
          case rel => exact ⟨k + 1, hlt, by go_num, HN.out (by first | exact rfl | trivial), (hkr.trans (((Kept.refl _ _).alloc _).alloc _)).trans hk1⟩
          case measure => simp [intOf]; omega
        · have hd1 : decide (x = y) = false := by simpa using hxy
          rw [hd1]
          go_wp2
          go_ret
          exact ⟨by rw [HYk.out hxy]; rfl, (hkr.trans (((Kept.refl _ _).alloc _).alloc _)).trans hk1⟩
      · have hdl : decide ((k : Int) < (xs.length : Int)) = false := by simpa using hlt
        have hr : r = true := HZ.out (fun j hj => HJ.out j (by omega))
        clear HY HZ HJ
        go_wp2
        go_ret
        exact ⟨by rw [hr]; rfl, hkr⟩
  · have hd : decide ((xs.length : Int) = (ys.length : Int)) = false := by simp; omega
    have hr : decide (xs = ys) = false := by simp only [decide_eq_false_iff_not]; intro e; exact hl (by rw [e])
    rw [hr]
    clear ha hb hr
    go_enter Try.func82, Try.ntmps82
    go_wp2
    go_ret
    exact ⟨rfl, Kept.refl _ _⟩
set_option maxRecDepth 100000 in
set_option maxHeartbeats 1000000 in
theorem eqQ_any (xs ys : List CH) (A B : Option Addr) (ca cb : Nat) (hlen : xs.length ≤ 64) (w : World) (ha : QsAt w A xs) (hb : QsAt w B ys) :
    Calls Try.prog 84 #[.slice A xs.length ca, .slice B ys.length cb, .func (.func 85) #[] #[]] w fun e w' => e = .returned (.bool (decide (xs = ys))) ∧ Kept noX w w' := by
  by_cases hl : xs.length = ys.length
  · have HA := Lib.hid ha
    have HB := Lib.hid hb
    have HY := Lib.hid (fun (k : Nat) (h1 : k < xs.length) (h2 : k < ys.length) (h : xs[k] ≠ ys[k]) => (show decide (xs = ys) = false by simp only [decide_eq_false_iff_not]; intro e; subst e; exact h rfl))
    have HZ := Lib.hid (fun (h : ∀ j, j < xs.length → xs[j]? = ys[j]?) => (show decide (xs = ys) = true by simp only [decide_eq_true_eq]; exact same_all hl h))
    generalize decide (xs = ys) = r at HY HZ ⊢
    have HL := Lib.hid hl
    clear ha hb
    rw [← hl]
    clear hl
    go_enter Try.func84, Try.ntmps84
    go_wp2
    go_loopw [17] (fun i wr => ∃ k : Nat, k ≤ xs.length ∧ i = .int .i64 k ∧ (∀ j, j < k → xs[j]? = ys[j]?) ∧ Kept noX w wr) (fun i _ => xs.length - (intOf i).toNat)
    case atStart => exact ⟨0, Nat.zero_le _, rfl, fun j hj => by omega, Kept.refl _ _⟩
    case round =>
      obtain ⟨k, hk, rfl, hall, hkr⟩ := hrel
      have HJ := Lib.hid hall
      clear hall
      by_cases hlt : k < xs.length
      · have hdl : decide ((k : Int) < (xs.length : Int)) = true := by simpa using hlt
        have hlt2 : k < ys.length := by rw [← HL.out]; exact hlt
        obtain ⟨b1, o1, B1, d1, rfl, pc0, pc1, pc2, hx, hxl⟩ := HA.out k hlt
        obtain ⟨b2, o2, B2, d2, rfl, qc0, qc1, qc2, hy, hyl⟩ := HB.out k hlt2
        have p0 := hkr.cell pc0
        have p1 := hkr.cell pc1
        have p2 := hkr.cell pc2
        have q0 := hkr.cell qc0
        have q1 := hkr.cell qc1
        have q2 := hkr.cell qc2
        have HN := Lib.hid (fun h : xs[k] = ys[k] => (fun j (hj : j < k + 1) => (by
          rcases Nat.lt_or_ge j k with h' | h'
          · exact HJ.out j h'
          · obtain rfl : j = k := by omega
            rw [List.getElem?_eq_getElem hlt, List.getElem?_eq_getElem hlt2, h] : xs[j]? = ys[j]?)))
        have HYk := Lib.hid (HY.out k hlt hlt2)
        generalize xs[k] = x at *
        generalize ys[k] = y at *
        have HE := Lib.hid (fun w' (hk : Kept noX w w') => qsame_any x y B1 B2 d1 d2 (by omega) w' (hx.keep hk) (hy.keep hk))
        clear HY HZ HJ pc0 pc1 pc2 qc0 qc1 qc2 hx hy
        have hb2 : b2 < wr.heap.size := block_lt_of q0
        go_wp2_with fail
        refine (HE.out _ (hkr.trans (((Kept.refl _ _).alloc _).alloc _))).mono ?_
        rintro e W1 ⟨rfl, hk1⟩
        by_cases hxy : x = y
        · subst hxy
          have hd1 : (decide (x.room = x.room) && decide (x.sent = x.sent) && decide (x.it = x.it)) = true := by simp
          rw [hd1]
          go_wp2
          go_roundw
          case rel => exact ⟨k + 1, hlt, by go_num, HN.out (by first | exact rfl | trivial), (hkr.trans (((Kept.refl _ _).alloc _).alloc _)).trans hk1⟩
          case measure => simp [intOf]; omega
        · have hd1 : (decide (x.room = y.room) && decide (x.sent = y.sent) && decide (x.it = y.it)) = false := by (cases x; cases y; simp at hxy ⊢; intro h1 h2 h3; exact hxy h3 h1 h2)
          rw [hd1]
          go_wp2
          go_ret
          exact ⟨by rw [HYk.out hxy]; rfl, (hkr.trans (((Kept.refl _ _).alloc _).alloc _)).trans hk1⟩
      · have hdl : decide ((k : Int) < (xs.length : Int)) = false := by simpa using hlt
        have hr : r = true := HZ.out (fun j hj => HJ.out j (by omega))
        clear HY HZ HJ
        go_wp2
        go_ret
        exact ⟨by rw [hr]; rfl, hkr⟩
  · have hd : decide ((xs.length : Int) = (ys.length : Int)) = false := by simp; omega
    have hr : decide (xs = ys) = false := by simp only [decide_eq_false_iff_not]; intro e; exact hl (by rw [e])
    rw [hr]
    clear ha hb hr
    go_enter Try.func84, Try.ntmps84
    go_wp2
    go_ret
    exact ⟨rfl, Kept.refl _ _⟩
/-- What there is, to be read; whether it was made. -/
def PrV (W : World) (p : Nat) (mk : Bool) (S : SS) : Prop :=
  ∃ Am cm Ac cc Aq cq, (W.cell? ⟨p, 0, none⟩ = some (.bool mk) ∧ W.cell? ⟨p, 1, none⟩ = some (.slice Am S.os.length cm) ∧ W.cell? ⟨p, 2, none⟩ = some (.slice Ac S.cs.length cc) ∧ W.cell? ⟨p, 3, none⟩ = some (.slice Aq S.qs.length cq)) ∧
    IxAt W Am S.os ∧ CsAt W Ac S.cs ∧ QsAt W Aq S.qs ∧ (S.os.length ≤ 64 ∧ S.cs.length ≤ 64 ∧ S.qs.length ≤ 64)
theorem PrV.keep {W W' : World} {p : Nat} {mk : Bool} {S : SS} (h : PrV W p mk S) (hk : Kept noX W W') : PrV W' p mk S := by
  obtain ⟨Am, cm, Ac, cc, Aq, cq, ⟨h0, h1, h2, h3⟩, h4, h5, h6, h7⟩ := h
  exact ⟨Am, cm, Ac, cc, Aq, cq, ⟨hk.cell h0, hk.cell h1, hk.cell h2, hk.cell h3⟩, h4.keep hk, h5.keep hk, h6.keep hk, h7⟩
theorem SyAt.prv {W : World} {T : Nat → Nat} {p : Nat} {S : SS} (h : SyAt W T p S) : PrV W p true S := by
  obtain ⟨Am, Ac, Aq, cm, cc, cq, curM, curC, curQ, ⟨hp, hTp⟩, ⟨hM, hC, hQ⟩, hos, hcs, hqs, hTl, hb1, hb2, hb3⟩ := h
  have c0 := hp.cell 0
  have cM := hp.cell 1
  have cC := hp.cell 2
  have cQ := hp.cell 3
  simp only [List.getElem?_cons_zero, List.getElem?_cons_succ] at c0 cM cC cQ
  refine ⟨Am, cm, Ac, cc, Aq, cq, ⟨c0, cM, cC, cQ⟩, fun i hi => ?_, fun i hi => ?_, fun i hi => ?_, hb1, hb2, hb3⟩
  · obtain ⟨g, rfl, hg, _⟩ := hM (by omega)
    exact ⟨g, 0, rfl, by rw [Nat.zero_add, hg.cell, hos i hi]⟩
  · obtain ⟨g, rfl, hg, _⟩ := hC (by omega)
    obtain ⟨v, hv, hq⟩ := hcs i hi
    have hr := hq.row
    obtain ⟨A, c, rfl⟩ := hq.form
    exact ⟨g, 0, A, c, rfl, by rw [Nat.zero_add, hg.cell, hv], IxAt.row hr, hq.2.2⟩
  · obtain ⟨g, rfl, hg, _⟩ := hQ (by omega)
    obtain ⟨v, hv, hv1, hv2, hq⟩ := hqs i hi
    have hr := hq.row
    obtain ⟨A, c, rfl⟩ := hq.form
    exact ⟨g, 0, A, c, rfl, by rw [Nat.zero_add, hg.cell, hv], by rw [Nat.zero_add, hg.cell, hv1], by rw [Nat.zero_add, hg.cell, hv2], IxAt.row hr, hq.2.2⟩
theorem prv_nil {W : World} {p : Nat} (h : Cells W p 76 [.bool false, .slice none 0 0, .slice none 0 0, .slice none 0 0]) : PrV W p false ⟨[], [], []⟩ := by
  have c0 := h.cell 0
  have c1 := h.cell 1
  have c2 := h.cell 2
  have c3 := h.cell 3
  simp only [List.getElem?_cons_zero, List.getElem?_cons_succ] at c0 c1 c2 c3
  exact ⟨none, 0, none, 0, none, 0, ⟨c0, c1, c2, c3⟩, fun i hi => absurd hi (Nat.not_lt_zero _), fun i hi => absurd hi (Nat.not_lt_zero _), fun i hi => absurd hi (Nat.not_lt_zero _), Nat.zero_le _, Nat.zero_le _, Nat.zero_le _⟩
set_option maxRecDepth 100000 in
set_option maxHeartbeats 1000000 in
theorem psame_any {W : World} {p q : Nat} {S S' : SS} {mk mk' : Bool} (h : PrV W p mk S) (h' : PrV W q mk' S') :
    Calls Try.prog 56 #[.pointer (some ⟨p, 0, none⟩), .pointer (some ⟨q, 0, none⟩)] W fun e W' => e = .returned (.bool ((mk == mk') && decide (S.os = S'.os) && decide (S.cs = S'.cs) && decide (S.qs = S'.qs))) ∧ Kept noX W W' := by
  obtain ⟨Am, cm, Ac, cc, Aq, cq, ⟨c0, c1, c2, c3⟩, h4, h5, h6, hb1, hb2, hb3⟩ := h
  obtain ⟨Bm, dm, Bc, dc, Bq, dq, ⟨d0, d1, d2, d3⟩, h4', h5', h6', -⟩ := h'
  have HM := Lib.hid (fun w' (hk : Kept noX W w') => eqM_any S.os S'.os Am Bm cm dm (by omega) w' (h4.keep hk) (h4'.keep hk))
  have HC := Lib.hid (fun w' (hk : Kept noX W w') => eqC_any S.cs S'.cs Ac Bc cc dc (by omega) w' (h5.keep hk) (h5'.keep hk))
  have HQ := Lib.hid (fun w' (hk : Kept noX W w') => eqQ_any S.qs S'.qs Aq Bq cq dq (by omega) w' (h6.keep hk) (h6'.keep hk))
  generalize decide (S.os = S'.os) = r1 at HM ⊢
  generalize decide (S.cs = S'.cs) = r2 at HC ⊢
  generalize decide (S.qs = S'.qs) = r3 at HQ ⊢
  clear h4 h5 h6 h4' h5' h6'
  have mixed : Try.prog.follows .mixedOrders = true := by kernel_rfl
  have hH0 := (⟨c0, c1, c2, c3, d0, d1, d2, d3⟩ : _ ∧ _ ∧ _ ∧ _ ∧ _ ∧ _ ∧ _ ∧ _)
  cases hm : (mk == mk') with
  | false =>
    have hm2 : decide (mk = mk') = false := by simpa using hm
    have hm3 : ¬ mk = mk' := by simpa using hm
    clear HM HC HQ
    go_enter Try.func56, Try.ntmps56
    go_wp2_with fail
    refine wp_region_held_drew (S := (fun w' => w'.cell? ⟨p, 0, none⟩ = some (.bool mk) ∧ w'.cell? ⟨p, 1, none⟩ = some (.slice Am S.os.length cm) ∧ w'.cell? ⟨p, 2, none⟩ = some (.slice Ac S.cs.length cc) ∧ w'.cell? ⟨p, 3, none⟩ = some (.slice Aq S.qs.length cq) ∧ w'.cell? ⟨q, 0, none⟩ = some (.bool mk') ∧ w'.cell? ⟨q, 1, none⟩ = some (.slice Bm S'.os.length dm) ∧ w'.cell? ⟨q, 2, none⟩ = some (.slice Bc S'.cs.length dc) ∧ w'.cell? ⟨q, 3, none⟩ = some (.slice Bq S'.qs.length dq))) (by kernel_rfl) hH0 (fun hHeld => ?_)
    refine wpAnyH_take (i := 0) (v := ?_) rfl (by kernel_rfl) (by kernel_rfl) (by kernel_rfl) (fun _ _ _ h => h) (Or.inl ⟨by rfl, ?_⟩) (by assumption) ?_
    rotate_left
    · intro wS hSw
      (try dsimp only at hSw)
      go_simp
      (try with_reducible rfl)
    refine wpAnyH_take (i := 1) (v := ?_) rfl (by kernel_rfl) (by kernel_rfl) (by kernel_rfl) (fun _ _ _ h => h) (Or.inl ⟨by rfl, ?_⟩) (by assumption) ?_
    rotate_left
    · intro wS hSw
      (try dsimp only at hSw)
      go_simp
      (try with_reducible rfl)
    refine wpAnyH_take (i := 2) (v := ?_) rfl (by kernel_rfl) (by kernel_rfl) (by kernel_rfl) (fun _ _ _ h => h) (Or.inl ⟨by rfl, ?_⟩) (by assumption) ?_
    rotate_left
    · intro wS hSw
      (try dsimp only at hSw)
      go_simp
      (try with_reducible rfl)
    refine wpAnyH_take (i := 3) (v := ?_) rfl (by kernel_rfl) (by kernel_rfl) (by kernel_rfl) (fun _ _ _ h => h) (Or.inl ⟨by rfl, ?_⟩) (by assumption) ?_
    rotate_left
    · intro wS hSw
      (try dsimp only at hSw)
      go_simp
      (try with_reducible rfl)
    refine wpAnyH_take (i := 4) (v := ?_) rfl (by kernel_rfl) (by kernel_rfl) (by kernel_rfl) (fun _ _ _ h => h) (Or.inl ⟨by rfl, ?_⟩) (by assumption) ?_
    rotate_left
    · intro wS hSw
      (try dsimp only at hSw)
      go_simp
      (try with_reducible rfl)
    refine wpAnyH_take (i := 5) (v := ?_) rfl (by kernel_rfl) (by kernel_rfl) (by kernel_rfl) (fun _ _ _ h => h) (Or.inl ⟨by rfl, ?_⟩) (by assumption) ?_
    rotate_left
    · intro wS hSw
      (try dsimp only at hSw)
      go_simp
      (try with_reducible rfl)
    refine wpAnyH_take (i := 6) (v := ?_) rfl (by kernel_rfl) (by kernel_rfl) (by kernel_rfl) (fun _ _ _ h => h) (Or.inl ⟨by rfl, ?_⟩) (by assumption) ?_
    rotate_left
    · intro wS hSw
      (try dsimp only at hSw)
      go_simp
      (try with_reducible rfl)
    refine wpAnyH_take (i := 7) (v := ?_) rfl (by kernel_rfl) (by kernel_rfl) (by kernel_rfl) (fun _ _ _ h => h) (Or.inl ⟨by rfl, ?_⟩) (by assumption) ?_
    rotate_left
    · intro wS hSw
      (try dsimp only at hSw)
      go_simp
      (try with_reducible rfl)
    (try simp only [Act.put, List.getElem_toArray, List.getElem_cons_succ, List.getElem_cons_zero, List.setIfInBounds_toArray, List.set_cons_zero, List.set_cons_succ])
    refine wpAnyH_take (i := 8) (v := ?_) rfl (by kernel_rfl) (by kernel_rfl) (by kernel_rfl) (fun _ _ _ h => h) (Or.inl ⟨by rfl, ?_⟩) (by assumption) ?_
    rotate_left
    · intro wS hSw
      (try dsimp only at hSw)
      go_simp
      (try with_reducible rfl)
    refine wpAnyH_take (i := 9) (v := ?_) rfl (by kernel_rfl) (by kernel_rfl) (by kernel_rfl) (fun _ _ _ h => h) (Or.inl ⟨by rfl, ?_⟩) (by assumption) ?_
    rotate_left
    · intro wS hSw
      (try dsimp only at hSw)
      go_simp
      (try with_reducible rfl)
    (try simp only [Act.put, List.getElem_toArray, List.getElem_cons_succ, List.getElem_cons_zero, List.setIfInBounds_toArray, List.set_cons_zero, List.set_cons_succ])
    refine wpAnyH_take (i := 10) (v := undef) rfl (by kernel_rfl) (by kernel_rfl) (by kernel_rfl) (fun _ _ _ h => h) (Or.inr ⟨by rfl, rfl⟩) (by assumption) ?_
    refine wpAnyH_take (i := 11) (v := undef) rfl (by kernel_rfl) (by kernel_rfl) (by kernel_rfl) (fun _ _ _ h => h) (Or.inr ⟨by rfl, rfl⟩) (by assumption) ?_
    refine wpAnyH_take (i := 12) (v := undef) rfl (by kernel_rfl) (by kernel_rfl) (by kernel_rfl) (fun _ _ _ h => h) (Or.inr ⟨by rfl, rfl⟩) (by assumption) ?_
    (try simp only [Act.put, List.getElem_toArray, List.getElem_cons_succ, List.getElem_cons_zero, List.setIfInBounds_toArray, List.set_cons_zero, List.set_cons_succ])
    refine wpAnyH_take (i := 13) (v := undef) rfl (by kernel_rfl) (by kernel_rfl) (by kernel_rfl) (fun _ _ _ h => h) (Or.inr ⟨by rfl, rfl⟩) (by assumption) ?_
    refine wpAnyH_take (i := 14) (v := undef) rfl (by kernel_rfl) (by kernel_rfl) (by kernel_rfl) (fun _ _ _ h => h) (Or.inr ⟨by rfl, rfl⟩) (by assumption) ?_
    refine wpAnyH_take (i := 15) (v := undef) rfl (by kernel_rfl) (by kernel_rfl) (by kernel_rfl) (fun _ _ _ h => h) (Or.inr ⟨by rfl, rfl⟩) (by assumption) ?_
    (try simp only [Act.put, List.getElem_toArray, List.getElem_cons_succ, List.getElem_cons_zero, List.setIfInBounds_toArray, List.set_cons_zero, List.set_cons_succ])
    refine wpAnyH_take (i := 16) (v := undef) rfl (by kernel_rfl) (by kernel_rfl) (by kernel_rfl) (fun _ _ _ h => h) (Or.inr ⟨by rfl, rfl⟩) (by assumption) ?_
    refine wpAnyH_take (i := 17) (v := undef) rfl (by kernel_rfl) (by kernel_rfl) (by kernel_rfl) (fun _ _ _ h => h) (Or.inr ⟨by rfl, rfl⟩) (by assumption) ?_
    refine wpAnyH_take (i := 18) (v := undef) rfl (by kernel_rfl) (by kernel_rfl) (by kernel_rfl) (fun _ _ _ h => h) (Or.inr ⟨by rfl, rfl⟩) (by assumption) ?_
    (try simp only [Act.put, List.getElem_toArray, List.getElem_cons_succ, List.getElem_cons_zero, List.setIfInBounds_toArray, List.set_cons_zero, List.set_cons_succ])
    refine wpAnyH_take (i := 19) (v := ?_) rfl (by kernel_rfl) (by kernel_rfl) (by kernel_rfl) (fun _ _ _ h => h) (Or.inl ⟨by rfl, ?_⟩) (by assumption) ?_
    rotate_left
    · intro wS hSw
      (try dsimp only at hSw)
      go_simp
      (try with_reducible rfl)
    refine wpAnyH_take (i := 20) (v := ?_) rfl (by kernel_rfl) (by kernel_rfl) (by kernel_rfl) (fun _ _ _ h => h) (Or.inl ⟨by rfl, ?_⟩) (by assumption) ?_
    rotate_left
    · intro wS hSw
      (try dsimp only at hSw)
      go_simp
      (try with_reducible rfl)
    (try simp only [Act.put, List.getElem_toArray, List.getElem_cons_succ, List.getElem_cons_zero, List.setIfInBounds_toArray, List.set_cons_zero, List.set_cons_succ])
    refine wpAnyH_take (i := 21) (v := undef) rfl (by kernel_rfl) (by kernel_rfl) (by kernel_rfl) (fun _ _ _ h => h) (Or.inr ⟨by rfl, rfl⟩) (by assumption) ?_
    refine wpAnyH_take (i := 22) (v := undef) rfl (by kernel_rfl) (by kernel_rfl) (by kernel_rfl) (fun _ _ _ h => h) (Or.inr ⟨by rfl, rfl⟩) (by assumption) ?_
    refine wpAnyH_take (i := 23) (v := undef) rfl (by kernel_rfl) (by kernel_rfl) (by kernel_rfl) (fun _ _ _ h => h) (Or.inr ⟨by rfl, rfl⟩) (by assumption) ?_
    (try simp only [Act.put, List.getElem_toArray, List.getElem_cons_succ, List.getElem_cons_zero, List.setIfInBounds_toArray, List.set_cons_zero, List.set_cons_succ])
    refine wpAnyH_take (i := 24) (v := undef) rfl (by kernel_rfl) (by kernel_rfl) (by kernel_rfl) (fun _ _ _ h => h) (Or.inr ⟨by rfl, rfl⟩) (by assumption) ?_
    refine wpAnyH_take (i := 25) (v := undef) rfl (by kernel_rfl) (by kernel_rfl) (by kernel_rfl) (fun _ _ _ h => h) (Or.inr ⟨by rfl, rfl⟩) (by assumption) ?_
    refine wpAnyH_take (i := 26) (v := undef) rfl (by kernel_rfl) (by kernel_rfl) (by kernel_rfl) (fun _ _ _ h => h) (Or.inr ⟨by rfl, rfl⟩) (by assumption) ?_
    (try simp only [Act.put, List.getElem_toArray, List.getElem_cons_succ, List.getElem_cons_zero, List.setIfInBounds_toArray, List.set_cons_zero, List.set_cons_succ])
    refine wpAnyH_take (i := 27) (v := undef) rfl (by kernel_rfl) (by kernel_rfl) (by kernel_rfl) (fun _ _ _ h => h) (Or.inr ⟨by rfl, rfl⟩) (by assumption) ?_
    refine wpAnyH_take (i := 28) (v := undef) rfl (by kernel_rfl) (by kernel_rfl) (by kernel_rfl) (fun _ _ _ h => h) (Or.inr ⟨by rfl, rfl⟩) (by assumption) ?_
    refine wpAnyH_take (i := 29) (v := undef) rfl (by kernel_rfl) (by kernel_rfl) (by kernel_rfl) (fun _ _ _ h => h) (Or.inr ⟨by rfl, rfl⟩) (by assumption) ?_
    (try simp only [Act.put, List.getElem_toArray, List.getElem_cons_succ, List.getElem_cons_zero, List.setIfInBounds_toArray, List.set_cons_zero, List.set_cons_succ])
    refine wpAnyH_take (i := 30) (v := ?_) rfl (by kernel_rfl) (by kernel_rfl) (by kernel_rfl) (fun _ _ _ h => h) (Or.inl ⟨by rfl, ?_⟩) (by assumption) ?_
    rotate_left
    · intro wS hSw
      (try dsimp only at hSw)
      go_simp
      (try with_reducible rfl)
    refine wpAnyH_take (i := 31) (v := ?_) rfl (by kernel_rfl) (by kernel_rfl) (by kernel_rfl) (fun _ _ _ h => h) (Or.inl ⟨by rfl, ?_⟩) (by assumption) ?_
    rotate_left
    · intro wS hSw
      (try dsimp only at hSw)
      go_simp
      (try with_reducible rfl)
    (try simp only [Act.put, List.getElem_toArray, List.getElem_cons_succ, List.getElem_cons_zero, List.setIfInBounds_toArray, List.set_cons_zero, List.set_cons_succ])
    refine wpAnyH_take (i := 32) (v := undef) rfl (by kernel_rfl) (by kernel_rfl) (by kernel_rfl) (fun _ _ _ h => h) (Or.inr ⟨by rfl, rfl⟩) (by assumption) ?_
    refine wpAnyH_take (i := 33) (v := undef) rfl (by kernel_rfl) (by kernel_rfl) (by kernel_rfl) (fun _ _ _ h => h) (Or.inr ⟨by rfl, rfl⟩) (by assumption) ?_
    refine wpAnyH_take (i := 34) (v := undef) rfl (by kernel_rfl) (by kernel_rfl) (by kernel_rfl) (fun _ _ _ h => h) (Or.inr ⟨by rfl, rfl⟩) (by assumption) ?_
    (try simp only [Act.put, List.getElem_toArray, List.getElem_cons_succ, List.getElem_cons_zero, List.setIfInBounds_toArray, List.set_cons_zero, List.set_cons_succ])
    refine wpAnyH_take (i := 35) (v := undef) rfl (by kernel_rfl) (by kernel_rfl) (by kernel_rfl) (fun _ _ _ h => h) (Or.inr ⟨by rfl, rfl⟩) (by assumption) ?_
    refine wpAnyH_take (i := 36) (v := undef) rfl (by kernel_rfl) (by kernel_rfl) (by kernel_rfl) (fun _ _ _ h => h) (Or.inr ⟨by rfl, rfl⟩) (by assumption) ?_
    refine wpAnyH_take (i := 37) (v := undef) rfl (by kernel_rfl) (by kernel_rfl) (by kernel_rfl) (fun _ _ _ h => h) (Or.inr ⟨by rfl, rfl⟩) (by assumption) ?_
    (try simp only [Act.put, List.getElem_toArray, List.getElem_cons_succ, List.getElem_cons_zero, List.setIfInBounds_toArray, List.set_cons_zero, List.set_cons_succ])
    refine wpAnyH_take (i := 38) (v := undef) rfl (by kernel_rfl) (by kernel_rfl) (by kernel_rfl) (fun _ _ _ h => h) (Or.inr ⟨by rfl, rfl⟩) (by assumption) ?_
    refine wpAnyH_take (i := 39) (v := undef) rfl (by kernel_rfl) (by kernel_rfl) (by kernel_rfl) (fun _ _ _ h => h) (Or.inr ⟨by rfl, rfl⟩) (by assumption) ?_
    refine wpAnyH_take (i := 40) (v := undef) rfl (by kernel_rfl) (by kernel_rfl) (by kernel_rfl) (fun _ _ _ h => h) (Or.inr ⟨by rfl, rfl⟩) (by assumption) ?_
    (try simp only [Act.put, List.getElem_toArray, List.getElem_cons_succ, List.getElem_cons_zero, List.setIfInBounds_toArray, List.set_cons_zero, List.set_cons_succ])
    refine wpAnyH_take (i := 41) (v := ?_) rfl (by kernel_rfl) (by kernel_rfl) (by kernel_rfl) (fun _ _ _ h => h) (Or.inl ⟨by rfl, ?_⟩) (by assumption) ?_
    rotate_left
    · intro wS hSw
      (try dsimp only at hSw)
      go_simp
      (try with_reducible rfl)
    refine wpAnyH_take (i := 42) (v := ?_) rfl (by kernel_rfl) (by kernel_rfl) (by kernel_rfl) (fun _ _ _ h => h) (Or.inl ⟨by rfl, ?_⟩) (by assumption) ?_
    rotate_left
    · intro wS hSw
      (try dsimp only at hSw)
      go_simp
      (try with_reducible rfl)
    refine wpAnyH_done (by kernel_rfl) ?_ _
    (try simp only [Act.put, List.getElem_toArray, List.getElem_cons_succ, List.getElem_cons_zero, List.setIfInBounds_toArray, List.set_cons_zero, List.set_cons_succ])
    go_wp2
    go_ret
    exact ⟨rfl, (Kept.refl _ _).drew⟩
  | true =>
    have hm2 : decide (mk = mk') = true := by simpa using hm
    obtain rfl : mk = mk' := by simpa using hm
    clear hm hm2
    cases r1 with
    | false =>
      clear HC HQ
      go_enter Try.func56, Try.ntmps56
      go_wp2_with fail
      refine wp_region_held_drew (S := (fun w' => w'.cell? ⟨p, 0, none⟩ = some (.bool mk) ∧ w'.cell? ⟨p, 1, none⟩ = some (.slice Am S.os.length cm) ∧ w'.cell? ⟨p, 2, none⟩ = some (.slice Ac S.cs.length cc) ∧ w'.cell? ⟨p, 3, none⟩ = some (.slice Aq S.qs.length cq) ∧ w'.cell? ⟨q, 0, none⟩ = some (.bool mk) ∧ w'.cell? ⟨q, 1, none⟩ = some (.slice Bm S'.os.length dm) ∧ w'.cell? ⟨q, 2, none⟩ = some (.slice Bc S'.cs.length dc) ∧ w'.cell? ⟨q, 3, none⟩ = some (.slice Bq S'.qs.length dq))) (by kernel_rfl) hH0 (fun hHeld => ?_)
      refine wpAnyH_take (i := 0) (v := ?_) rfl (by kernel_rfl) (by kernel_rfl) (by kernel_rfl) (fun _ _ _ h => h) (Or.inl ⟨by rfl, ?_⟩) (by assumption) ?_
      rotate_left
      · intro wS hSw
        (try dsimp only at hSw)
        go_simp
        (try with_reducible rfl)
      refine wpAnyH_take (i := 1) (v := ?_) rfl (by kernel_rfl) (by kernel_rfl) (by kernel_rfl) (fun _ _ _ h => h) (Or.inl ⟨by rfl, ?_⟩) (by assumption) ?_
      rotate_left
      · intro wS hSw
        (try dsimp only at hSw)
        go_simp
        (try with_reducible rfl)
      refine wpAnyH_take (i := 2) (v := ?_) rfl (by kernel_rfl) (by kernel_rfl) (by kernel_rfl) (fun _ _ _ h => h) (Or.inl ⟨by rfl, ?_⟩) (by assumption) ?_
      rotate_left
      · intro wS hSw
        (try dsimp only at hSw)
        go_simp
        (try with_reducible rfl)
      refine wpAnyH_take (i := 3) (v := ?_) rfl (by kernel_rfl) (by kernel_rfl) (by kernel_rfl) (fun _ _ _ h => h) (Or.inl ⟨by rfl, ?_⟩) (by assumption) ?_
      rotate_left
      · intro wS hSw
        (try dsimp only at hSw)
        go_simp
        (try with_reducible rfl)
      refine wpAnyH_take (i := 4) (v := ?_) rfl (by kernel_rfl) (by kernel_rfl) (by kernel_rfl) (fun _ _ _ h => h) (Or.inl ⟨by rfl, ?_⟩) (by assumption) ?_
      rotate_left
      · intro wS hSw
        (try dsimp only at hSw)
        go_simp
        (try with_reducible rfl)
      refine wpAnyH_take (i := 5) (v := ?_) rfl (by kernel_rfl) (by kernel_rfl) (by kernel_rfl) (fun _ _ _ h => h) (Or.inl ⟨by rfl, ?_⟩) (by assumption) ?_
      rotate_left
      · intro wS hSw
        (try dsimp only at hSw)
        go_simp
        (try with_reducible rfl)
      refine wpAnyH_take (i := 6) (v := ?_) rfl (by kernel_rfl) (by kernel_rfl) (by kernel_rfl) (fun _ _ _ h => h) (Or.inl ⟨by rfl, ?_⟩) (by assumption) ?_
      rotate_left
      · intro wS hSw
        (try dsimp only at hSw)
        go_simp
        (try with_reducible rfl)
      refine wpAnyH_take (i := 7) (v := ?_) rfl (by kernel_rfl) (by kernel_rfl) (by kernel_rfl) (fun _ _ _ h => h) (Or.inl ⟨by rfl, ?_⟩) (by assumption) ?_
      rotate_left
      · intro wS hSw
        (try dsimp only at hSw)
        go_simp
        (try with_reducible rfl)
      (try simp only [Act.put, List.getElem_toArray, List.getElem_cons_succ, List.getElem_cons_zero, List.setIfInBounds_toArray, List.set_cons_zero, List.set_cons_succ])
      refine wpAnyH_take (i := 8) (v := ?_) rfl (by kernel_rfl) (by kernel_rfl) (by kernel_rfl) (fun _ _ _ h => h) (Or.inl ⟨by rfl, ?_⟩) (by assumption) ?_
      rotate_left
      · intro wS hSw
        (try dsimp only at hSw)
        go_simp
        (try with_reducible rfl)
      refine wpAnyH_take (i := 9) (v := ?_) rfl (by kernel_rfl) (by kernel_rfl) (by kernel_rfl) (fun _ _ _ h => h) (Or.inl ⟨by rfl, ?_⟩) (by assumption) ?_
      rotate_left
      · intro wS hSw
        (try dsimp only at hSw)
        go_simp
        (try with_reducible rfl)
      refine wpAnyH_take (i := 10) (v := ?_) rfl (by kernel_rfl) (by kernel_rfl) (by kernel_rfl) (fun _ _ _ h => h) (Or.inl ⟨by rfl, ?_⟩) (by assumption) ?_
      rotate_left
      · intro wS hSw
        (try dsimp only at hSw)
        go_simp
        (try with_reducible rfl)
      refine wpAnyH_take (i := 11) (v := ?_) rfl (by kernel_rfl) (by kernel_rfl) (by kernel_rfl) (fun _ _ _ h => h) (Or.inl ⟨by rfl, ?_⟩) (by assumption) ?_
      rotate_left
      · intro wS hSw
        (try dsimp only at hSw)
        go_simp
        (try with_reducible rfl)
      refine wpAnyH_take (i := 12) (v := ?_) rfl (by kernel_rfl) (by kernel_rfl) (by kernel_rfl) (fun _ _ _ h => h) (Or.inl ⟨by rfl, ?_⟩) (by assumption) ?_
      rotate_left
      · intro wS hSw
        (try dsimp only at hSw)
        go_simp
        (try with_reducible rfl)
      refine wpAnyH_take (i := 13) (v := ?_) rfl (by kernel_rfl) (by kernel_rfl) (by kernel_rfl) (fun _ _ _ h => h) (Or.inl ⟨by rfl, ?_⟩) (by assumption) ?_
      rotate_left
      · intro wS hSw
        (try dsimp only at hSw)
        go_simp
        (try with_reducible rfl)
      (try simp only [Act.put, List.getElem_toArray, List.getElem_cons_succ, List.getElem_cons_zero, List.setIfInBounds_toArray, List.set_cons_zero, List.set_cons_succ])
      refine wpAnyH_take (i := 14) (v := ?_) rfl (by kernel_rfl) (by kernel_rfl) (by kernel_rfl) (fun _ _ _ h => h) (Or.inl ⟨by rfl, ?_⟩) (by assumption) ?_
      rotate_left
      · intro wS hSw
        (try dsimp only at hSw)
        go_simp
        (try with_reducible rfl)
      refine wpAnyH_take (i := 15) (v := ?_) rfl (by kernel_rfl) (by kernel_rfl) (by kernel_rfl) (fun _ _ _ h => h) (Or.inl ⟨by rfl, ?_⟩) (by assumption) ?_
      rotate_left
      · intro wS hSw
        (try dsimp only at hSw)
        go_simp
        (try with_reducible rfl)
      refine wpAnyH_take (i := 16) (v := ?_) rfl (by kernel_rfl) (by kernel_rfl) (by kernel_rfl) (fun _ _ _ h => h) (Or.inl ⟨by rfl, ?_⟩) (by assumption) ?_
      rotate_left
      · intro wS hSw
        (try dsimp only at hSw)
        go_simp
        (try with_reducible rfl)
      refine wpAnyH_take (i := 17) (v := ?_) rfl (by kernel_rfl) (by kernel_rfl) (by kernel_rfl) (fun _ _ _ h => h) (Or.inl ⟨by rfl, ?_⟩) (by assumption) ?_
      rotate_left
      · intro wS hSw
        (try dsimp only at hSw)
        go_simp
        (try with_reducible rfl)
      (try simp only [Act.put, List.getElem_toArray, List.getElem_cons_succ, List.getElem_cons_zero, List.setIfInBounds_toArray, List.set_cons_zero, List.set_cons_succ])
      refine wpAnyH_ready (rs := [18]) (by kernel_rfl) (by simp) ?_
      refine (AllReadyH.cons rfl (fun K hK => ?_) AllReadyH.nil)
      go_simp
      refine (HM.out _ ((Kept.refl _ _).drew)).mono ?_
      rintro e W1 ⟨rfl, hk1⟩
      replace hk1 := ((Kept.refl noX W).drew).trans hk1
      refine hK.out _ _ ⟨hk1.cell c0, hk1.cell c1, hk1.cell c2, hk1.cell c3, hk1.cell d0, hk1.cell d1, hk1.cell d2, hk1.cell d3⟩ (fun hHeld => ?_)
      clear hK K
      (try simp only [Act.put, List.getElem_toArray, List.getElem_cons_succ, List.getElem_cons_zero, List.setIfInBounds_toArray, List.set_cons_zero, List.set_cons_succ])
      refine wpAnyH_take (i := 19) (v := ?_) rfl (by kernel_rfl) (by kernel_rfl) (by kernel_rfl) (fun _ _ _ h => h) (Or.inl ⟨by rfl, ?_⟩) (by assumption) ?_
      rotate_left
      · intro wS hSw
        (try dsimp only at hSw)
        go_simp
        (try with_reducible rfl)
      refine wpAnyH_take (i := 20) (v := ?_) rfl (by kernel_rfl) (by kernel_rfl) (by kernel_rfl) (fun _ _ _ h => h) (Or.inl ⟨by rfl, ?_⟩) (by assumption) ?_
      rotate_left
      · intro wS hSw
        (try dsimp only at hSw)
        go_simp
        (try with_reducible rfl)
      (try simp only [Act.put, List.getElem_toArray, List.getElem_cons_succ, List.getElem_cons_zero, List.setIfInBounds_toArray, List.set_cons_zero, List.set_cons_succ])
      refine wpAnyH_take (i := 21) (v := undef) rfl (by kernel_rfl) (by kernel_rfl) (by kernel_rfl) (fun _ _ _ h => h) (Or.inr ⟨by rfl, rfl⟩) (by assumption) ?_
      refine wpAnyH_take (i := 22) (v := undef) rfl (by kernel_rfl) (by kernel_rfl) (by kernel_rfl) (fun _ _ _ h => h) (Or.inr ⟨by rfl, rfl⟩) (by assumption) ?_
      refine wpAnyH_take (i := 23) (v := undef) rfl (by kernel_rfl) (by kernel_rfl) (by kernel_rfl) (fun _ _ _ h => h) (Or.inr ⟨by rfl, rfl⟩) (by assumption) ?_
      (try simp only [Act.put, List.getElem_toArray, List.getElem_cons_succ, List.getElem_cons_zero, List.setIfInBounds_toArray, List.set_cons_zero, List.set_cons_succ])
      refine wpAnyH_take (i := 24) (v := undef) rfl (by kernel_rfl) (by kernel_rfl) (by kernel_rfl) (fun _ _ _ h => h) (Or.inr ⟨by rfl, rfl⟩) (by assumption) ?_
      refine wpAnyH_take (i := 25) (v := undef) rfl (by kernel_rfl) (by kernel_rfl) (by kernel_rfl) (fun _ _ _ h => h) (Or.inr ⟨by rfl, rfl⟩) (by assumption) ?_
      refine wpAnyH_take (i := 26) (v := undef) rfl (by kernel_rfl) (by kernel_rfl) (by kernel_rfl) (fun _ _ _ h => h) (Or.inr ⟨by rfl, rfl⟩) (by assumption) ?_
      (try simp only [Act.put, List.getElem_toArray, List.getElem_cons_succ, List.getElem_cons_zero, List.setIfInBounds_toArray, List.set_cons_zero, List.set_cons_succ])
      refine wpAnyH_take (i := 27) (v := undef) rfl (by kernel_rfl) (by kernel_rfl) (by kernel_rfl) (fun _ _ _ h => h) (Or.inr ⟨by rfl, rfl⟩) (by assumption) ?_
      refine wpAnyH_take (i := 28) (v := undef) rfl (by kernel_rfl) (by kernel_rfl) (by kernel_rfl) (fun _ _ _ h => h) (Or.inr ⟨by rfl, rfl⟩) (by assumption) ?_
      refine wpAnyH_take (i := 29) (v := undef) rfl (by kernel_rfl) (by kernel_rfl) (by kernel_rfl) (fun _ _ _ h => h) (Or.inr ⟨by rfl, rfl⟩) (by assumption) ?_
      (try simp only [Act.put, List.getElem_toArray, List.getElem_cons_succ, List.getElem_cons_zero, List.setIfInBounds_toArray, List.set_cons_zero, List.set_cons_succ])
      refine wpAnyH_take (i := 30) (v := ?_) rfl (by kernel_rfl) (by kernel_rfl) (by kernel_rfl) (fun _ _ _ h => h) (Or.inl ⟨by rfl, ?_⟩) (by assumption) ?_
      rotate_left
      · intro wS hSw
        (try dsimp only at hSw)
        go_simp
        (try with_reducible rfl)
      refine wpAnyH_take (i := 31) (v := ?_) rfl (by kernel_rfl) (by kernel_rfl) (by kernel_rfl) (fun _ _ _ h => h) (Or.inl ⟨by rfl, ?_⟩) (by assumption) ?_
      rotate_left
      · intro wS hSw
        (try dsimp only at hSw)
        go_simp
        (try with_reducible rfl)
      (try simp only [Act.put, List.getElem_toArray, List.getElem_cons_succ, List.getElem_cons_zero, List.setIfInBounds_toArray, List.set_cons_zero, List.set_cons_succ])
      refine wpAnyH_take (i := 32) (v := undef) rfl (by kernel_rfl) (by kernel_rfl) (by kernel_rfl) (fun _ _ _ h => h) (Or.inr ⟨by rfl, rfl⟩) (by assumption) ?_
      refine wpAnyH_take (i := 33) (v := undef) rfl (by kernel_rfl) (by kernel_rfl) (by kernel_rfl) (fun _ _ _ h => h) (Or.inr ⟨by rfl, rfl⟩) (by assumption) ?_
      refine wpAnyH_take (i := 34) (v := undef) rfl (by kernel_rfl) (by kernel_rfl) (by kernel_rfl) (fun _ _ _ h => h) (Or.inr ⟨by rfl, rfl⟩) (by assumption) ?_
      (try simp only [Act.put, List.getElem_toArray, List.getElem_cons_succ, List.getElem_cons_zero, List.setIfInBounds_toArray, List.set_cons_zero, List.set_cons_succ])
      refine wpAnyH_take (i := 35) (v := undef) rfl (by kernel_rfl) (by kernel_rfl) (by kernel_rfl) (fun _ _ _ h => h) (Or.inr ⟨by rfl, rfl⟩) (by assumption) ?_
      refine wpAnyH_take (i := 36) (v := undef) rfl (by kernel_rfl) (by kernel_rfl) (by kernel_rfl) (fun _ _ _ h => h) (Or.inr ⟨by rfl, rfl⟩) (by assumption) ?_
      refine wpAnyH_take (i := 37) (v := undef) rfl (by kernel_rfl) (by kernel_rfl) (by kernel_rfl) (fun _ _ _ h => h) (Or.inr ⟨by rfl, rfl⟩) (by assumption) ?_
      (try simp only [Act.put, List.getElem_toArray, List.getElem_cons_succ, List.getElem_cons_zero, List.setIfInBounds_toArray, List.set_cons_zero, List.set_cons_succ])
      refine wpAnyH_take (i := 38) (v := undef) rfl (by kernel_rfl) (by kernel_rfl) (by kernel_rfl) (fun _ _ _ h => h) (Or.inr ⟨by rfl, rfl⟩) (by assumption) ?_
      refine wpAnyH_take (i := 39) (v := undef) rfl (by kernel_rfl) (by kernel_rfl) (by kernel_rfl) (fun _ _ _ h => h) (Or.inr ⟨by rfl, rfl⟩) (by assumption) ?_
      refine wpAnyH_take (i := 40) (v := undef) rfl (by kernel_rfl) (by kernel_rfl) (by kernel_rfl) (fun _ _ _ h => h) (Or.inr ⟨by rfl, rfl⟩) (by assumption) ?_
      (try simp only [Act.put, List.getElem_toArray, List.getElem_cons_succ, List.getElem_cons_zero, List.setIfInBounds_toArray, List.set_cons_zero, List.set_cons_succ])
      refine wpAnyH_take (i := 41) (v := ?_) rfl (by kernel_rfl) (by kernel_rfl) (by kernel_rfl) (fun _ _ _ h => h) (Or.inl ⟨by rfl, ?_⟩) (by assumption) ?_
      rotate_left
      · intro wS hSw
        (try dsimp only at hSw)
        go_simp
        (try with_reducible rfl)
      refine wpAnyH_take (i := 42) (v := ?_) rfl (by kernel_rfl) (by kernel_rfl) (by kernel_rfl) (fun _ _ _ h => h) (Or.inl ⟨by rfl, ?_⟩) (by assumption) ?_
      rotate_left
      · intro wS hSw
        (try dsimp only at hSw)
        go_simp
        (try with_reducible rfl)
      refine wpAnyH_done (by kernel_rfl) ?_ _
      (try simp only [Act.put, List.getElem_toArray, List.getElem_cons_succ, List.getElem_cons_zero, List.setIfInBounds_toArray, List.set_cons_zero, List.set_cons_succ])
      go_wp2
      go_ret
      exact ⟨rfl, hk1⟩
    | true =>
      cases r2 with
      | false =>
        clear HQ
        go_enter Try.func56, Try.ntmps56
        go_wp2_with fail
        refine wp_region_held_drew (S := (fun w' => w'.cell? ⟨p, 0, none⟩ = some (.bool mk) ∧ w'.cell? ⟨p, 1, none⟩ = some (.slice Am S.os.length cm) ∧ w'.cell? ⟨p, 2, none⟩ = some (.slice Ac S.cs.length cc) ∧ w'.cell? ⟨p, 3, none⟩ = some (.slice Aq S.qs.length cq) ∧ w'.cell? ⟨q, 0, none⟩ = some (.bool mk) ∧ w'.cell? ⟨q, 1, none⟩ = some (.slice Bm S'.os.length dm) ∧ w'.cell? ⟨q, 2, none⟩ = some (.slice Bc S'.cs.length dc) ∧ w'.cell? ⟨q, 3, none⟩ = some (.slice Bq S'.qs.length dq))) (by kernel_rfl) hH0 (fun hHeld => ?_)
        refine wpAnyH_take (i := 0) (v := ?_) rfl (by kernel_rfl) (by kernel_rfl) (by kernel_rfl) (fun _ _ _ h => h) (Or.inl ⟨by rfl, ?_⟩) (by assumption) ?_
        rotate_left
        · intro wS hSw
          (try dsimp only at hSw)
          go_simp
          (try with_reducible rfl)
        refine wpAnyH_take (i := 1) (v := ?_) rfl (by kernel_rfl) (by kernel_rfl) (by kernel_rfl) (fun _ _ _ h => h) (Or.inl ⟨by rfl, ?_⟩) (by assumption) ?_
        rotate_left
        · intro wS hSw
          (try dsimp only at hSw)
          go_simp
          (try with_reducible rfl)
        refine wpAnyH_take (i := 2) (v := ?_) rfl (by kernel_rfl) (by kernel_rfl) (by kernel_rfl) (fun _ _ _ h => h) (Or.inl ⟨by rfl, ?_⟩) (by assumption) ?_
        rotate_left
        · intro wS hSw
          (try dsimp only at hSw)
          go_simp
          (try with_reducible rfl)
        refine wpAnyH_take (i := 3) (v := ?_) rfl (by kernel_rfl) (by kernel_rfl) (by kernel_rfl) (fun _ _ _ h => h) (Or.inl ⟨by rfl, ?_⟩) (by assumption) ?_
        rotate_left
        · intro wS hSw
          (try dsimp only at hSw)
          go_simp
          (try with_reducible rfl)
        refine wpAnyH_take (i := 4) (v := ?_) rfl (by kernel_rfl) (by kernel_rfl) (by kernel_rfl) (fun _ _ _ h => h) (Or.inl ⟨by rfl, ?_⟩) (by assumption) ?_
        rotate_left
        · intro wS hSw
          (try dsimp only at hSw)
          go_simp
          (try with_reducible rfl)
        refine wpAnyH_take (i := 5) (v := ?_) rfl (by kernel_rfl) (by kernel_rfl) (by kernel_rfl) (fun _ _ _ h => h) (Or.inl ⟨by rfl, ?_⟩) (by assumption) ?_
        rotate_left
        · intro wS hSw
          (try dsimp only at hSw)
          go_simp
          (try with_reducible rfl)
        refine wpAnyH_take (i := 6) (v := ?_) rfl (by kernel_rfl) (by kernel_rfl) (by kernel_rfl) (fun _ _ _ h => h) (Or.inl ⟨by rfl, ?_⟩) (by assumption) ?_
        rotate_left
        · intro wS hSw
          (try dsimp only at hSw)
          go_simp
          (try with_reducible rfl)
        refine wpAnyH_take (i := 7) (v := ?_) rfl (by kernel_rfl) (by kernel_rfl) (by kernel_rfl) (fun _ _ _ h => h) (Or.inl ⟨by rfl, ?_⟩) (by assumption) ?_
        rotate_left
        · intro wS hSw
          (try dsimp only at hSw)
          go_simp
          (try with_reducible rfl)
        (try simp only [Act.put, List.getElem_toArray, List.getElem_cons_succ, List.getElem_cons_zero, List.setIfInBounds_toArray, List.set_cons_zero, List.set_cons_succ])
        refine wpAnyH_take (i := 8) (v := ?_) rfl (by kernel_rfl) (by kernel_rfl) (by kernel_rfl) (fun _ _ _ h => h) (Or.inl ⟨by rfl, ?_⟩) (by assumption) ?_
        rotate_left
        · intro wS hSw
          (try dsimp only at hSw)
          go_simp
          (try with_reducible rfl)
        refine wpAnyH_take (i := 9) (v := ?_) rfl (by kernel_rfl) (by kernel_rfl) (by kernel_rfl) (fun _ _ _ h => h) (Or.inl ⟨by rfl, ?_⟩) (by assumption) ?_
        rotate_left
        · intro wS hSw
          (try dsimp only at hSw)
          go_simp
          (try with_reducible rfl)
        refine wpAnyH_take (i := 10) (v := ?_) rfl (by kernel_rfl) (by kernel_rfl) (by kernel_rfl) (fun _ _ _ h => h) (Or.inl ⟨by rfl, ?_⟩) (by assumption) ?_
        rotate_left
        · intro wS hSw
          (try dsimp only at hSw)
          go_simp
          (try with_reducible rfl)
        refine wpAnyH_take (i := 11) (v := ?_) rfl (by kernel_rfl) (by kernel_rfl) (by kernel_rfl) (fun _ _ _ h => h) (Or.inl ⟨by rfl, ?_⟩) (by assumption) ?_
        rotate_left
        · intro wS hSw
          (try dsimp only at hSw)
          go_simp
          (try with_reducible rfl)
        refine wpAnyH_take (i := 12) (v := ?_) rfl (by kernel_rfl) (by kernel_rfl) (by kernel_rfl) (fun _ _ _ h => h) (Or.inl ⟨by rfl, ?_⟩) (by assumption) ?_
        rotate_left
        · intro wS hSw
          (try dsimp only at hSw)
          go_simp
          (try with_reducible rfl)
        refine wpAnyH_take (i := 13) (v := ?_) rfl (by kernel_rfl) (by kernel_rfl) (by kernel_rfl) (fun _ _ _ h => h) (Or.inl ⟨by rfl, ?_⟩) (by assumption) ?_
        rotate_left
        · intro wS hSw
          (try dsimp only at hSw)
          go_simp
          (try with_reducible rfl)
        (try simp only [Act.put, List.getElem_toArray, List.getElem_cons_succ, List.getElem_cons_zero, List.setIfInBounds_toArray, List.set_cons_zero, List.set_cons_succ])
        refine wpAnyH_take (i := 14) (v := ?_) rfl (by kernel_rfl) (by kernel_rfl) (by kernel_rfl) (fun _ _ _ h => h) (Or.inl ⟨by rfl, ?_⟩) (by assumption) ?_
        rotate_left
        · intro wS hSw
          (try dsimp only at hSw)
          go_simp
          (try with_reducible rfl)
        refine wpAnyH_take (i := 15) (v := ?_) rfl (by kernel_rfl) (by kernel_rfl) (by kernel_rfl) (fun _ _ _ h => h) (Or.inl ⟨by rfl, ?_⟩) (by assumption) ?_
        rotate_left
        · intro wS hSw
          (try dsimp only at hSw)
          go_simp
          (try with_reducible rfl)
        refine wpAnyH_take (i := 16) (v := ?_) rfl (by kernel_rfl) (by kernel_rfl) (by kernel_rfl) (fun _ _ _ h => h) (Or.inl ⟨by rfl, ?_⟩) (by assumption) ?_
        rotate_left
        · intro wS hSw
          (try dsimp only at hSw)
          go_simp
          (try with_reducible rfl)
        refine wpAnyH_take (i := 17) (v := ?_) rfl (by kernel_rfl) (by kernel_rfl) (by kernel_rfl) (fun _ _ _ h => h) (Or.inl ⟨by rfl, ?_⟩) (by assumption) ?_
        rotate_left
        · intro wS hSw
          (try dsimp only at hSw)
          go_simp
          (try with_reducible rfl)
        (try simp only [Act.put, List.getElem_toArray, List.getElem_cons_succ, List.getElem_cons_zero, List.setIfInBounds_toArray, List.set_cons_zero, List.set_cons_succ])
        refine wpAnyH_ready (rs := [18]) (by kernel_rfl) (by simp) ?_
        refine (AllReadyH.cons rfl (fun K hK => ?_) AllReadyH.nil)
        go_simp
        refine (HM.out _ ((Kept.refl _ _).drew)).mono ?_
        rintro e W1 ⟨rfl, hk1⟩
        replace hk1 := ((Kept.refl noX W).drew).trans hk1
        refine hK.out _ _ ⟨hk1.cell c0, hk1.cell c1, hk1.cell c2, hk1.cell c3, hk1.cell d0, hk1.cell d1, hk1.cell d2, hk1.cell d3⟩ (fun hHeld => ?_)
        clear hK K
        (try simp only [Act.put, List.getElem_toArray, List.getElem_cons_succ, List.getElem_cons_zero, List.setIfInBounds_toArray, List.set_cons_zero, List.set_cons_succ])
        refine wpAnyH_take (i := 19) (v := ?_) rfl (by kernel_rfl) (by kernel_rfl) (by kernel_rfl) (fun _ _ _ h => h) (Or.inl ⟨by rfl, ?_⟩) (by assumption) ?_
        rotate_left
        · intro wS hSw
          (try dsimp only at hSw)
          go_simp
          (try with_reducible rfl)
        refine wpAnyH_take (i := 20) (v := ?_) rfl (by kernel_rfl) (by kernel_rfl) (by kernel_rfl) (fun _ _ _ h => h) (Or.inl ⟨by rfl, ?_⟩) (by assumption) ?_
        rotate_left
        · intro wS hSw
          (try dsimp only at hSw)
          go_simp
          (try with_reducible rfl)
        refine wpAnyH_take (i := 21) (v := ?_) rfl (by kernel_rfl) (by kernel_rfl) (by kernel_rfl) (fun _ _ _ h => h) (Or.inl ⟨by rfl, ?_⟩) (by assumption) ?_
        rotate_left
        · intro wS hSw
          (try dsimp only at hSw)
          go_simp
          (try with_reducible rfl)
        refine wpAnyH_take (i := 22) (v := ?_) rfl (by kernel_rfl) (by kernel_rfl) (by kernel_rfl) (fun _ _ _ h => h) (Or.inl ⟨by rfl, ?_⟩) (by assumption) ?_
        rotate_left
        · intro wS hSw
          (try dsimp only at hSw)
          go_simp
          (try with_reducible rfl)
        refine wpAnyH_take (i := 23) (v := ?_) rfl (by kernel_rfl) (by kernel_rfl) (by kernel_rfl) (fun _ _ _ h => h) (Or.inl ⟨by rfl, ?_⟩) (by assumption) ?_
        rotate_left
        · intro wS hSw
          (try dsimp only at hSw)
          go_simp
          (try with_reducible rfl)
        refine wpAnyH_take (i := 24) (v := ?_) rfl (by kernel_rfl) (by kernel_rfl) (by kernel_rfl) (fun _ _ _ h => h) (Or.inl ⟨by rfl, ?_⟩) (by assumption) ?_
        rotate_left
        · intro wS hSw
          (try dsimp only at hSw)
          go_simp
          (try with_reducible rfl)
        (try simp only [Act.put, List.getElem_toArray, List.getElem_cons_succ, List.getElem_cons_zero, List.setIfInBounds_toArray, List.set_cons_zero, List.set_cons_succ])
        refine wpAnyH_take (i := 25) (v := ?_) rfl (by kernel_rfl) (by kernel_rfl) (by kernel_rfl) (fun _ _ _ h => h) (Or.inl ⟨by rfl, ?_⟩) (by assumption) ?_
        rotate_left
        · intro wS hSw
          (try dsimp only at hSw)
          go_simp
          (try with_reducible rfl)
        refine wpAnyH_take (i := 26) (v := ?_) rfl (by kernel_rfl) (by kernel_rfl) (by kernel_rfl) (fun _ _ _ h => h) (Or.inl ⟨by rfl, ?_⟩) (by assumption) ?_
        rotate_left
        · intro wS hSw
          (try dsimp only at hSw)
          go_simp
          (try with_reducible rfl)
        refine wpAnyH_take (i := 27) (v := ?_) rfl (by kernel_rfl) (by kernel_rfl) (by kernel_rfl) (fun _ _ _ h => h) (Or.inl ⟨by rfl, ?_⟩) (by assumption) ?_
        rotate_left
        · intro wS hSw
          (try dsimp only at hSw)
          go_simp
          (try with_reducible rfl)
        refine wpAnyH_take (i := 28) (v := ?_) rfl (by kernel_rfl) (by kernel_rfl) (by kernel_rfl) (fun _ _ _ h => h) (Or.inl ⟨by rfl, ?_⟩) (by assumption) ?_
        rotate_left
        · intro wS hSw
          (try dsimp only at hSw)
          go_simp
          (try with_reducible rfl)
        (try simp only [Act.put, List.getElem_toArray, List.getElem_cons_succ, List.getElem_cons_zero, List.setIfInBounds_toArray, List.set_cons_zero, List.set_cons_succ])
        refine wpAnyH_ready (rs := [29]) (by kernel_rfl) (by simp) ?_
        refine (AllReadyH.cons rfl (fun K hK => ?_) AllReadyH.nil)
        go_simp
        refine (HC.out _ hk1).mono ?_
        rintro e W2 ⟨rfl, hk2⟩
        replace hk2 := hk1.trans hk2
        refine hK.out _ _ ⟨hk2.cell c0, hk2.cell c1, hk2.cell c2, hk2.cell c3, hk2.cell d0, hk2.cell d1, hk2.cell d2, hk2.cell d3⟩ (fun hHeld => ?_)
        clear hK K
        (try simp only [Act.put, List.getElem_toArray, List.getElem_cons_succ, List.getElem_cons_zero, List.setIfInBounds_toArray, List.set_cons_zero, List.set_cons_succ])
        refine wpAnyH_take (i := 30) (v := ?_) rfl (by kernel_rfl) (by kernel_rfl) (by kernel_rfl) (fun _ _ _ h => h) (Or.inl ⟨by rfl, ?_⟩) (by assumption) ?_
        rotate_left
        · intro wS hSw
          (try dsimp only at hSw)
          go_simp
          (try with_reducible rfl)
        refine wpAnyH_take (i := 31) (v := ?_) rfl (by kernel_rfl) (by kernel_rfl) (by kernel_rfl) (fun _ _ _ h => h) (Or.inl ⟨by rfl, ?_⟩) (by assumption) ?_
        rotate_left
        · intro wS hSw
          (try dsimp only at hSw)
          go_simp
          (try with_reducible rfl)
        (try simp only [Act.put, List.getElem_toArray, List.getElem_cons_succ, List.getElem_cons_zero, List.setIfInBounds_toArray, List.set_cons_zero, List.set_cons_succ])
        refine wpAnyH_take (i := 32) (v := undef) rfl (by kernel_rfl) (by kernel_rfl) (by kernel_rfl) (fun _ _ _ h => h) (Or.inr ⟨by rfl, rfl⟩) (by assumption) ?_
        refine wpAnyH_take (i := 33) (v := undef) rfl (by kernel_rfl) (by kernel_rfl) (by kernel_rfl) (fun _ _ _ h => h) (Or.inr ⟨by rfl, rfl⟩) (by assumption) ?_
        refine wpAnyH_take (i := 34) (v := undef) rfl (by kernel_rfl) (by kernel_rfl) (by kernel_rfl) (fun _ _ _ h => h) (Or.inr ⟨by rfl, rfl⟩) (by assumption) ?_
        (try simp only [Act.put, List.getElem_toArray, List.getElem_cons_succ, List.getElem_cons_zero, List.setIfInBounds_toArray, List.set_cons_zero, List.set_cons_succ])
        refine wpAnyH_take (i := 35) (v := undef) rfl (by kernel_rfl) (by kernel_rfl) (by kernel_rfl) (fun _ _ _ h => h) (Or.inr ⟨by rfl, rfl⟩) (by assumption) ?_
        refine wpAnyH_take (i := 36) (v := undef) rfl (by kernel_rfl) (by kernel_rfl) (by kernel_rfl) (fun _ _ _ h => h) (Or.inr ⟨by rfl, rfl⟩) (by assumption) ?_
        refine wpAnyH_take (i := 37) (v := undef) rfl (by kernel_rfl) (by kernel_rfl) (by kernel_rfl) (fun _ _ _ h => h) (Or.inr ⟨by rfl, rfl⟩) (by assumption) ?_
        (try simp only [Act.put, List.getElem_toArray, List.getElem_cons_succ, List.getElem_cons_zero, List.setIfInBounds_toArray, List.set_cons_zero, List.set_cons_succ])
        refine wpAnyH_take (i := 38) (v := undef) rfl (by kernel_rfl) (by kernel_rfl) (by kernel_rfl) (fun _ _ _ h => h) (Or.inr ⟨by rfl, rfl⟩) (by assumption) ?_
        refine wpAnyH_take (i := 39) (v := undef) rfl (by kernel_rfl) (by kernel_rfl) (by kernel_rfl) (fun _ _ _ h => h) (Or.inr ⟨by rfl, rfl⟩) (by assumption) ?_
        refine wpAnyH_take (i := 40) (v := undef) rfl (by kernel_rfl) (by kernel_rfl) (by kernel_rfl) (fun _ _ _ h => h) (Or.inr ⟨by rfl, rfl⟩) (by assumption) ?_
        (try simp only [Act.put, List.getElem_toArray, List.getElem_cons_succ, List.getElem_cons_zero, List.setIfInBounds_toArray, List.set_cons_zero, List.set_cons_succ])
        refine wpAnyH_take (i := 41) (v := ?_) rfl (by kernel_rfl) (by kernel_rfl) (by kernel_rfl) (fun _ _ _ h => h) (Or.inl ⟨by rfl, ?_⟩) (by assumption) ?_
        rotate_left
        · intro wS hSw
          (try dsimp only at hSw)
          go_simp
          (try with_reducible rfl)
        refine wpAnyH_take (i := 42) (v := ?_) rfl (by kernel_rfl) (by kernel_rfl) (by kernel_rfl) (fun _ _ _ h => h) (Or.inl ⟨by rfl, ?_⟩) (by assumption) ?_
        rotate_left
        · intro wS hSw
          (try dsimp only at hSw)
          go_simp
          (try with_reducible rfl)
        refine wpAnyH_done (by kernel_rfl) ?_ _
        (try simp only [Act.put, List.getElem_toArray, List.getElem_cons_succ, List.getElem_cons_zero, List.setIfInBounds_toArray, List.set_cons_zero, List.set_cons_succ])
        go_wp2
        go_ret
        exact ⟨rfl, hk2⟩
      | true =>
        go_enter Try.func56, Try.ntmps56
        go_wp2_with fail
        refine wp_region_held_drew (S := (fun w' => w'.cell? ⟨p, 0, none⟩ = some (.bool mk) ∧ w'.cell? ⟨p, 1, none⟩ = some (.slice Am S.os.length cm) ∧ w'.cell? ⟨p, 2, none⟩ = some (.slice Ac S.cs.length cc) ∧ w'.cell? ⟨p, 3, none⟩ = some (.slice Aq S.qs.length cq) ∧ w'.cell? ⟨q, 0, none⟩ = some (.bool mk) ∧ w'.cell? ⟨q, 1, none⟩ = some (.slice Bm S'.os.length dm) ∧ w'.cell? ⟨q, 2, none⟩ = some (.slice Bc S'.cs.length dc) ∧ w'.cell? ⟨q, 3, none⟩ = some (.slice Bq S'.qs.length dq))) (by kernel_rfl) hH0 (fun hHeld => ?_)
        refine wpAnyH_take (i := 0) (v := ?_) rfl (by kernel_rfl) (by kernel_rfl) (by kernel_rfl) (fun _ _ _ h => h) (Or.inl ⟨by rfl, ?_⟩) (by assumption) ?_
        rotate_left
        · intro wS hSw
          (try dsimp only at hSw)
          go_simp
          (try with_reducible rfl)
        refine wpAnyH_take (i := 1) (v := ?_) rfl (by kernel_rfl) (by kernel_rfl) (by kernel_rfl) (fun _ _ _ h => h) (Or.inl ⟨by rfl, ?_⟩) (by assumption) ?_
        rotate_left
        · intro wS hSw
          (try dsimp only at hSw)
          go_simp
          (try with_reducible rfl)
        refine wpAnyH_take (i := 2) (v := ?_) rfl (by kernel_rfl) (by kernel_rfl) (by kernel_rfl) (fun _ _ _ h => h) (Or.inl ⟨by rfl, ?_⟩) (by assumption) ?_
        rotate_left
        · intro wS hSw
          (try dsimp only at hSw)
          go_simp
          (try with_reducible rfl)
        refine wpAnyH_take (i := 3) (v := ?_) rfl (by kernel_rfl) (by kernel_rfl) (by kernel_rfl) (fun _ _ _ h => h) (Or.inl ⟨by rfl, ?_⟩) (by assumption) ?_
        rotate_left
        · intro wS hSw
          (try dsimp only at hSw)
          go_simp
          (try with_reducible rfl)
        refine wpAnyH_take (i := 4) (v := ?_) rfl (by kernel_rfl) (by kernel_rfl) (by kernel_rfl) (fun _ _ _ h => h) (Or.inl ⟨by rfl, ?_⟩) (by assumption) ?_
        rotate_left
        · intro wS hSw
          (try dsimp only at hSw)
          go_simp
          (try with_reducible rfl)
        refine wpAnyH_take (i := 5) (v := ?_) rfl (by kernel_rfl) (by kernel_rfl) (by kernel_rfl) (fun _ _ _ h => h) (Or.inl ⟨by rfl, ?_⟩) (by assumption) ?_
        rotate_left
        · intro wS hSw
          (try dsimp only at hSw)
          go_simp
          (try with_reducible rfl)
        refine wpAnyH_take (i := 6) (v := ?_) rfl (by kernel_rfl) (by kernel_rfl) (by kernel_rfl) (fun _ _ _ h => h) (Or.inl ⟨by rfl, ?_⟩) (by assumption) ?_
        rotate_left
        · intro wS hSw
          (try dsimp only at hSw)
          go_simp
          (try with_reducible rfl)
        refine wpAnyH_take (i := 7) (v := ?_) rfl (by kernel_rfl) (by kernel_rfl) (by kernel_rfl) (fun _ _ _ h => h) (Or.inl ⟨by rfl, ?_⟩) (by assumption) ?_
        rotate_left
        · intro wS hSw
          (try dsimp only at hSw)
          go_simp
          (try with_reducible rfl)
        (try simp only [Act.put, List.getElem_toArray, List.getElem_cons_succ, List.getElem_cons_zero, List.setIfInBounds_toArray, List.set_cons_zero, List.set_cons_succ])
        refine wpAnyH_take (i := 8) (v := ?_) rfl (by kernel_rfl) (by kernel_rfl) (by kernel_rfl) (fun _ _ _ h => h) (Or.inl ⟨by rfl, ?_⟩) (by assumption) ?_
        rotate_left
        · intro wS hSw
          (try dsimp only at hSw)
          go_simp
          (try with_reducible rfl)
        refine wpAnyH_take (i := 9) (v := ?_) rfl (by kernel_rfl) (by kernel_rfl) (by kernel_rfl) (fun _ _ _ h => h) (Or.inl ⟨by rfl, ?_⟩) (by assumption) ?_
        rotate_left
        · intro wS hSw
          (try dsimp only at hSw)
          go_simp
          (try with_reducible rfl)
        refine wpAnyH_take (i := 10) (v := ?_) rfl (by kernel_rfl) (by kernel_rfl) (by kernel_rfl) (fun _ _ _ h => h) (Or.inl ⟨by rfl, ?_⟩) (by assumption) ?_
        rotate_left
        · intro wS hSw
          (try dsimp only at hSw)
          go_simp
          (try with_reducible rfl)
        refine wpAnyH_take (i := 11) (v := ?_) rfl (by kernel_rfl) (by kernel_rfl) (by kernel_rfl) (fun _ _ _ h => h) (Or.inl ⟨by rfl, ?_⟩) (by assumption) ?_
        rotate_left
        · intro wS hSw
          (try dsimp only at hSw)
          go_simp
          (try with_reducible rfl)
        refine wpAnyH_take (i := 12) (v := ?_) rfl (by kernel_rfl) (by kernel_rfl) (by kernel_rfl) (fun _ _ _ h => h) (Or.inl ⟨by rfl, ?_⟩) (by assumption) ?_
        rotate_left
        · intro wS hSw
          (try dsimp only at hSw)
          go_simp
          (try with_reducible rfl)
        refine wpAnyH_take (i := 13) (v := ?_) rfl (by kernel_rfl) (by kernel_rfl) (by kernel_rfl) (fun _ _ _ h => h) (Or.inl ⟨by rfl, ?_⟩) (by assumption) ?_
        rotate_left
        · intro wS hSw
          (try dsimp only at hSw)
          go_simp
          (try with_reducible rfl)
        (try simp only [Act.put, List.getElem_toArray, List.getElem_cons_succ, List.getElem_cons_zero, List.setIfInBounds_toArray, List.set_cons_zero, List.set_cons_succ])
        refine wpAnyH_take (i := 14) (v := ?_) rfl (by kernel_rfl) (by kernel_rfl) (by kernel_rfl) (fun _ _ _ h => h) (Or.inl ⟨by rfl, ?_⟩) (by assumption) ?_
        rotate_left
        · intro wS hSw
          (try dsimp only at hSw)
          go_simp
          (try with_reducible rfl)
        refine wpAnyH_take (i := 15) (v := ?_) rfl (by kernel_rfl) (by kernel_rfl) (by kernel_rfl) (fun _ _ _ h => h) (Or.inl ⟨by rfl, ?_⟩) (by assumption) ?_
        rotate_left
        · intro wS hSw
          (try dsimp only at hSw)
          go_simp
          (try with_reducible rfl)
        refine wpAnyH_take (i := 16) (v := ?_) rfl (by kernel_rfl) (by kernel_rfl) (by kernel_rfl) (fun _ _ _ h => h) (Or.inl ⟨by rfl, ?_⟩) (by assumption) ?_
        rotate_left
        · intro wS hSw
          (try dsimp only at hSw)
          go_simp
          (try with_reducible rfl)
        refine wpAnyH_take (i := 17) (v := ?_) rfl (by kernel_rfl) (by kernel_rfl) (by kernel_rfl) (fun _ _ _ h => h) (Or.inl ⟨by rfl, ?_⟩) (by assumption) ?_
        rotate_left
        · intro wS hSw
          (try dsimp only at hSw)
          go_simp
          (try with_reducible rfl)
        (try simp only [Act.put, List.getElem_toArray, List.getElem_cons_succ, List.getElem_cons_zero, List.setIfInBounds_toArray, List.set_cons_zero, List.set_cons_succ])
        refine wpAnyH_ready (rs := [18]) (by kernel_rfl) (by simp) ?_
        refine (AllReadyH.cons rfl (fun K hK => ?_) AllReadyH.nil)
        go_simp
        refine (HM.out _ ((Kept.refl _ _).drew)).mono ?_
        rintro e W1 ⟨rfl, hk1⟩
        replace hk1 := ((Kept.refl noX W).drew).trans hk1
        refine hK.out _ _ ⟨hk1.cell c0, hk1.cell c1, hk1.cell c2, hk1.cell c3, hk1.cell d0, hk1.cell d1, hk1.cell d2, hk1.cell d3⟩ (fun hHeld => ?_)
        clear hK K
        (try simp only [Act.put, List.getElem_toArray, List.getElem_cons_succ, List.getElem_cons_zero, List.setIfInBounds_toArray, List.set_cons_zero, List.set_cons_succ])
        refine wpAnyH_take (i := 19) (v := ?_) rfl (by kernel_rfl) (by kernel_rfl) (by kernel_rfl) (fun _ _ _ h => h) (Or.inl ⟨by rfl, ?_⟩) (by assumption) ?_
        rotate_left
        · intro wS hSw
          (try dsimp only at hSw)
          go_simp
          (try with_reducible rfl)
        refine wpAnyH_take (i := 20) (v := ?_) rfl (by kernel_rfl) (by kernel_rfl) (by kernel_rfl) (fun _ _ _ h => h) (Or.inl ⟨by rfl, ?_⟩) (by assumption) ?_
        rotate_left
        · intro wS hSw
          (try dsimp only at hSw)
          go_simp
          (try with_reducible rfl)
        refine wpAnyH_take (i := 21) (v := ?_) rfl (by kernel_rfl) (by kernel_rfl) (by kernel_rfl) (fun _ _ _ h => h) (Or.inl ⟨by rfl, ?_⟩) (by assumption) ?_
        rotate_left
        · intro wS hSw
          (try dsimp only at hSw)
          go_simp
          (try with_reducible rfl)
        refine wpAnyH_take (i := 22) (v := ?_) rfl (by kernel_rfl) (by kernel_rfl) (by kernel_rfl) (fun _ _ _ h => h) (Or.inl ⟨by rfl, ?_⟩) (by assumption) ?_
        rotate_left
        · intro wS hSw
          (try dsimp only at hSw)
          go_simp
          (try with_reducible rfl)
        refine wpAnyH_take (i := 23) (v := ?_) rfl (by kernel_rfl) (by kernel_rfl) (by kernel_rfl) (fun _ _ _ h => h) (Or.inl ⟨by rfl, ?_⟩) (by assumption) ?_
        rotate_left
        · intro wS hSw
          (try dsimp only at hSw)
          go_simp
          (try with_reducible rfl)
        refine wpAnyH_take (i := 24) (v := ?_) rfl (by kernel_rfl) (by kernel_rfl) (by kernel_rfl) (fun _ _ _ h => h) (Or.inl ⟨by rfl, ?_⟩) (by assumption) ?_
        rotate_left
        · intro wS hSw
          (try dsimp only at hSw)
          go_simp
          (try with_reducible rfl)
        (try simp only [Act.put, List.getElem_toArray, List.getElem_cons_succ, List.getElem_cons_zero, List.setIfInBounds_toArray, List.set_cons_zero, List.set_cons_succ])
        refine wpAnyH_take (i := 25) (v := ?_) rfl (by kernel_rfl) (by kernel_rfl) (by kernel_rfl) (fun _ _ _ h => h) (Or.inl ⟨by rfl, ?_⟩) (by assumption) ?_
        rotate_left
        · intro wS hSw
          (try dsimp only at hSw)
          go_simp
          (try with_reducible rfl)
        refine wpAnyH_take (i := 26) (v := ?_) rfl (by kernel_rfl) (by kernel_rfl) (by kernel_rfl) (fun _ _ _ h => h) (Or.inl ⟨by rfl, ?_⟩) (by assumption) ?_
        rotate_left
        · intro wS hSw
          (try dsimp only at hSw)
          go_simp
          (try with_reducible rfl)
        refine wpAnyH_take (i := 27) (v := ?_) rfl (by kernel_rfl) (by kernel_rfl) (by kernel_rfl) (fun _ _ _ h => h) (Or.inl ⟨by rfl, ?_⟩) (by assumption) ?_
        rotate_left
        · intro wS hSw
          (try dsimp only at hSw)
          go_simp
          (try with_reducible rfl)
        refine wpAnyH_take (i := 28) (v := ?_) rfl (by kernel_rfl) (by kernel_rfl) (by kernel_rfl) (fun _ _ _ h => h) (Or.inl ⟨by rfl, ?_⟩) (by assumption) ?_
        rotate_left
        · intro wS hSw
          (try dsimp only at hSw)
          go_simp
          (try with_reducible rfl)
        (try simp only [Act.put, List.getElem_toArray, List.getElem_cons_succ, List.getElem_cons_zero, List.setIfInBounds_toArray, List.set_cons_zero, List.set_cons_succ])
        refine wpAnyH_ready (rs := [29]) (by kernel_rfl) (by simp) ?_
        refine (AllReadyH.cons rfl (fun K hK => ?_) AllReadyH.nil)
        go_simp
        refine (HC.out _ hk1).mono ?_
        rintro e W2 ⟨rfl, hk2⟩
        replace hk2 := hk1.trans hk2
        refine hK.out _ _ ⟨hk2.cell c0, hk2.cell c1, hk2.cell c2, hk2.cell c3, hk2.cell d0, hk2.cell d1, hk2.cell d2, hk2.cell d3⟩ (fun hHeld => ?_)
        clear hK K
        (try simp only [Act.put, List.getElem_toArray, List.getElem_cons_succ, List.getElem_cons_zero, List.setIfInBounds_toArray, List.set_cons_zero, List.set_cons_succ])
        refine wpAnyH_take (i := 30) (v := ?_) rfl (by kernel_rfl) (by kernel_rfl) (by kernel_rfl) (fun _ _ _ h => h) (Or.inl ⟨by rfl, ?_⟩) (by assumption) ?_
        rotate_left
        · intro wS hSw
          (try dsimp only at hSw)
          go_simp
          (try with_reducible rfl)
        refine wpAnyH_take (i := 31) (v := ?_) rfl (by kernel_rfl) (by kernel_rfl) (by kernel_rfl) (fun _ _ _ h => h) (Or.inl ⟨by rfl, ?_⟩) (by assumption) ?_
        rotate_left
        · intro wS hSw
          (try dsimp only at hSw)
          go_simp
          (try with_reducible rfl)
        refine wpAnyH_take (i := 32) (v := ?_) rfl (by kernel_rfl) (by kernel_rfl) (by kernel_rfl) (fun _ _ _ h => h) (Or.inl ⟨by rfl, ?_⟩) (by assumption) ?_
        rotate_left
        · intro wS hSw
          (try dsimp only at hSw)
          go_simp
          (try with_reducible rfl)
        refine wpAnyH_take (i := 33) (v := ?_) rfl (by kernel_rfl) (by kernel_rfl) (by kernel_rfl) (fun _ _ _ h => h) (Or.inl ⟨by rfl, ?_⟩) (by assumption) ?_
        rotate_left
        · intro wS hSw
          (try dsimp only at hSw)
          go_simp
          (try with_reducible rfl)
        refine wpAnyH_take (i := 34) (v := ?_) rfl (by kernel_rfl) (by kernel_rfl) (by kernel_rfl) (fun _ _ _ h => h) (Or.inl ⟨by rfl, ?_⟩) (by assumption) ?_
        rotate_left
        · intro wS hSw
          (try dsimp only at hSw)
          go_simp
          (try with_reducible rfl)
        refine wpAnyH_take (i := 35) (v := ?_) rfl (by kernel_rfl) (by kernel_rfl) (by kernel_rfl) (fun _ _ _ h => h) (Or.inl ⟨by rfl, ?_⟩) (by assumption) ?_
        rotate_left
        · intro wS hSw
          (try dsimp only at hSw)
          go_simp
          (try with_reducible rfl)
        (try simp only [Act.put, List.getElem_toArray, List.getElem_cons_succ, List.getElem_cons_zero, List.setIfInBounds_toArray, List.set_cons_zero, List.set_cons_succ])
        refine wpAnyH_take (i := 36) (v := ?_) rfl (by kernel_rfl) (by kernel_rfl) (by kernel_rfl) (fun _ _ _ h => h) (Or.inl ⟨by rfl, ?_⟩) (by assumption) ?_
        rotate_left
        · intro wS hSw
          (try dsimp only at hSw)
          go_simp
          (try with_reducible rfl)
        refine wpAnyH_take (i := 37) (v := ?_) rfl (by kernel_rfl) (by kernel_rfl) (by kernel_rfl) (fun _ _ _ h => h) (Or.inl ⟨by rfl, ?_⟩) (by assumption) ?_
        rotate_left
        · intro wS hSw
          (try dsimp only at hSw)
          go_simp
          (try with_reducible rfl)
        refine wpAnyH_take (i := 38) (v := ?_) rfl (by kernel_rfl) (by kernel_rfl) (by kernel_rfl) (fun _ _ _ h => h) (Or.inl ⟨by rfl, ?_⟩) (by assumption) ?_
        rotate_left
        · intro wS hSw
          (try dsimp only at hSw)
          go_simp
          (try with_reducible rfl)
        refine wpAnyH_take (i := 39) (v := ?_) rfl (by kernel_rfl) (by kernel_rfl) (by kernel_rfl) (fun _ _ _ h => h) (Or.inl ⟨by rfl, ?_⟩) (by assumption) ?_
        rotate_left
        · intro wS hSw
          (try dsimp only at hSw)
          go_simp
          (try with_reducible rfl)
        (try simp only [Act.put, List.getElem_toArray, List.getElem_cons_succ, List.getElem_cons_zero, List.setIfInBounds_toArray, List.set_cons_zero, List.set_cons_succ])
        refine wpAnyH_ready (rs := [40]) (by kernel_rfl) (by simp) ?_
        refine (AllReadyH.cons rfl (fun K hK => ?_) AllReadyH.nil)
        go_simp
        refine (HQ.out _ hk2).mono ?_
        rintro e W3 ⟨rfl, hk3⟩
        replace hk3 := hk2.trans hk3
        refine hK.out _ _ ⟨hk3.cell c0, hk3.cell c1, hk3.cell c2, hk3.cell c3, hk3.cell d0, hk3.cell d1, hk3.cell d2, hk3.cell d3⟩ (fun hHeld => ?_)
        clear hK K
        (try simp only [Act.put, List.getElem_toArray, List.getElem_cons_succ, List.getElem_cons_zero, List.setIfInBounds_toArray, List.set_cons_zero, List.set_cons_succ])
        refine wpAnyH_take (i := 41) (v := ?_) rfl (by kernel_rfl) (by kernel_rfl) (by kernel_rfl) (fun _ _ _ h => h) (Or.inl ⟨by rfl, ?_⟩) (by assumption) ?_
        rotate_left
        · intro wS hSw
          (try dsimp only at hSw)
          go_simp
          (try with_reducible rfl)
        refine wpAnyH_take (i := 42) (v := ?_) rfl (by kernel_rfl) (by kernel_rfl) (by kernel_rfl) (fun _ _ _ h => h) (Or.inl ⟨by rfl, ?_⟩) (by assumption) ?_
        rotate_left
        · intro wS hSw
          (try dsimp only at hSw)
          go_simp
          (try with_reducible rfl)
        refine wpAnyH_done (by kernel_rfl) ?_ _
        (try simp only [Act.put, List.getElem_toArray, List.getElem_cons_succ, List.getElem_cons_zero, List.setIfInBounds_toArray, List.set_cons_zero, List.set_cons_succ])
        go_wp2
        go_ret
        exact ⟨rfl, hk3⟩
end Go.Proofs.Ytehcfahfbdphpaa
namespace Go.Proofs.Ytehcfahfbdphpaa
open Go.RowKit Go.Shelf

set_option maxRecDepth 100000 in
set_option maxHeartbeats 1000000 in
theorem owner_nil (m : Int) (W : World) : Calls Try.prog 14 #[.pointer none, .int .i64 m] W fun e W' => e = .returned (.tuple #[.int .i64 0, .int .i64 1]) ∧ Kept noX W W' := by
  go_enter Try.func14, Try.ntmps14
  go_wp2_with (go_at_call 36; refine (whole_nil _).mono ?_; rintro e W0 ⟨rfl, hW0⟩; have hkn : Kept noX W W0 := hW0 ▸ (Kept.refl noX W).alloc _; have hCn : Cells W0 W.heap.size 76 [.bool false, .slice none 0 0, .slice none 0 0, .slice none 0 0] := hW0 ▸ Cells.fresh W 76 _; clear hW0; generalize hpn : W.heap.size = p at *)
  have c0 := hCn.cell 0
  have c1 := hCn.cell 1
  simp only [List.getElem?_cons_zero, List.getElem?_cons_succ] at c0 c1
  clear hCn
  refine wp_region_held_drew (S := (fun w' => w'.cell? ⟨p, 0, none⟩ = some (.bool false) ∧ w'.cell? ⟨p, 1, none⟩ = some (.slice none 0 0))) (by kernel_rfl) ⟨c0, c1⟩ (fun hHeld => ?_)
  refine wpAnyH_take (i := 0) (v := ?_) rfl (by kernel_rfl) (by kernel_rfl) (by kernel_rfl) (fun _ _ _ h => h) (Or.inl ⟨by rfl, ?_⟩) (by assumption) ?_
  rotate_left
  · intro wS hSw
    (try dsimp only at hSw)
    go_simp
    (try with_reducible rfl)
  refine wpAnyH_take (i := 1) (v := ?_) rfl (by kernel_rfl) (by kernel_rfl) (by kernel_rfl) (fun _ _ _ h => h) (Or.inl ⟨by rfl, ?_⟩) (by assumption) ?_
  rotate_left
  · intro wS hSw
    (try dsimp only at hSw)
    go_simp
    (try with_reducible rfl)
  refine wpAnyH_take (i := 2) (v := ?_) rfl (by kernel_rfl) (by kernel_rfl) (by kernel_rfl) (fun _ _ _ h => h) (Or.inl ⟨by rfl, ?_⟩) (by assumption) ?_
  rotate_left
  · intro wS hSw
    (try dsimp only at hSw)
    go_simp
    (try with_reducible rfl)
  refine wpAnyH_take (i := 3) (v := ?_) rfl (by kernel_rfl) (by kernel_rfl) (by kernel_rfl) (fun _ _ _ h => h) (Or.inl ⟨by rfl, ?_⟩) (by assumption) ?_
  rotate_left
  · intro wS hSw
    (try dsimp only at hSw)
    go_simp
    (try with_reducible rfl)
  refine wpAnyH_take (i := 4) (v := ?_) rfl (by kernel_rfl) (by kernel_rfl) (by kernel_rfl) (fun _ _ _ h => h) (Or.inl ⟨by rfl, ?_⟩) (by assumption) ?_
  rotate_left
  · intro wS hSw
    (try dsimp only at hSw)
    go_simp
    (try with_reducible rfl)
  refine wpAnyH_take (i := 5) (v := ?_) rfl (by kernel_rfl) (by kernel_rfl) (by kernel_rfl) (fun _ _ _ h => h) (Or.inl ⟨by rfl, ?_⟩) (by assumption) ?_
  rotate_left
  · intro wS hSw
    (try dsimp only at hSw)
    go_simp
    (try with_reducible rfl)
  refine wpAnyH_take (i := 6) (v := ?_) rfl (by kernel_rfl) (by kernel_rfl) (by kernel_rfl) (fun _ _ _ h => h) (Or.inl ⟨by rfl, ?_⟩) (by assumption) ?_
  rotate_left
  · intro wS hSw
    (try dsimp only at hSw)
    go_simp
    (try with_reducible rfl)
  refine wpAnyH_take (i := 7) (v := ?_) rfl (by kernel_rfl) (by kernel_rfl) (by kernel_rfl) (fun _ _ _ h => h) (Or.inl ⟨by rfl, ?_⟩) (by assumption) ?_
  rotate_left
  · intro wS hSw
    (try dsimp only at hSw)
    go_simp
    (try with_reducible rfl)
  refine wpAnyH_take (i := 8) (v := ?_) rfl (by kernel_rfl) (by kernel_rfl) (by kernel_rfl) (fun _ _ _ h => h) (Or.inl ⟨by rfl, ?_⟩) (by assumption) ?_
  rotate_left
  · intro wS hSw
    (try dsimp only at hSw)
    go_simp
    (try with_reducible rfl)
  refine wpAnyH_ready (rs := [9]) (by kernel_rfl) (by simp) ?_
  refine (AllReadyH.cons rfl (fun K hK => ?_) AllReadyH.nil)
  go_simp
  refine (lookM_out false none 0 0 m (by omega) (by omega) _).mono ?_
  rintro e W1 ⟨g, rfl, hk1, hg, hCg⟩
  have hkw : Kept noX W W1 := hkn.drew.trans hk1
  refine hK.out _ _ ⟨hk1.cell c0, hk1.cell c1⟩ (fun hHeld => ?_)
  clear hK K
  refine wpAnyH_take (i := 10) (v := ?_) rfl (by kernel_rfl) (by kernel_rfl) (by kernel_rfl) (fun _ _ _ h => h) (Or.inl ⟨by rfl, ?_⟩) (by assumption) ?_
  rotate_left
  · intro wS hSw
    (try dsimp only at hSw)
    go_simp
    (try with_reducible rfl)
  refine wpAnyH_take (i := 11) (v := ?_) rfl (by kernel_rfl) (by kernel_rfl) (by kernel_rfl) (fun _ _ _ h => h) (Or.inl ⟨by rfl, ?_⟩) (by assumption) ?_
  rotate_left
  · intro wS hSw
    (try dsimp only at hSw)
    go_simp
    (try with_reducible rfl)
  refine wpAnyH_take (i := 12) (v := ?_) rfl (by kernel_rfl) (by kernel_rfl) (by kernel_rfl) (fun _ _ _ h => h) (Or.inl ⟨by rfl, ?_⟩) (by assumption) ?_
  rotate_left
  · intro wS hSw
    (try dsimp only at hSw)
    go_simp
    (try with_reducible rfl)
  refine wpAnyH_take (i := 13) (v := ?_) rfl (by kernel_rfl) (by kernel_rfl) (by kernel_rfl) (fun _ _ _ h => h) (Or.inl ⟨by rfl, ?_⟩) (by assumption) ?_
  rotate_left
  · intro wS hSw
    (try dsimp only at hSw)
    go_simp
    (try with_reducible rfl)
  refine wpAnyH_take (i := 14) (v := ?_) rfl (by kernel_rfl) (by kernel_rfl) (by kernel_rfl) (fun _ _ _ h => h) (Or.inl ⟨by rfl, ?_⟩) (by assumption) ?_
  rotate_left
  · intro wS hSw
    (try dsimp only at hSw)
    go_simp
    (try with_reducible rfl)
  refine wpAnyH_done (by kernel_rfl) ?_ _
  have c2 := hCg.cell 0
  simp only [List.getElem?_cons_zero] at c2
  go_wp2
  go_ret2
  exact ⟨rfl, hkw⟩
set_option maxRecDepth 100000 in
set_option maxHeartbeats 1000000 in
theorem room_nil (m : Int) (W : World) : Calls Try.prog 22 #[.pointer none, .int .i64 m] W fun e W' => e = .returned (.tuple #[.int .i64 0, .int .i64 1]) ∧ Kept noX W W' := by
  go_enter Try.func22, Try.ntmps22
  go_wp2_with (go_at_call 36; refine (whole_nil _).mono ?_; rintro e W0 ⟨rfl, hW0⟩; have hkn : Kept noX W W0 := hW0 ▸ (Kept.refl noX W).alloc _; have hCn : Cells W0 W.heap.size 76 [.bool false, .slice none 0 0, .slice none 0 0, .slice none 0 0] := hW0 ▸ Cells.fresh W 76 _; clear hW0; generalize hpn : W.heap.size = p at *)
  have c0 := hCn.cell 0
  have c1 := hCn.cell 3
  simp only [List.getElem?_cons_zero, List.getElem?_cons_succ] at c0 c1
  clear hCn
  refine wp_region_held_drew (S := (fun w' => w'.cell? ⟨p, 0, none⟩ = some (.bool false) ∧ w'.cell? ⟨p, 3, none⟩ = some (.slice none 0 0))) (by kernel_rfl) ⟨c0, c1⟩ (fun hHeld => ?_)
  refine wpAnyH_take (i := 0) (v := ?_) rfl (by kernel_rfl) (by kernel_rfl) (by kernel_rfl) (fun _ _ _ h => h) (Or.inl ⟨by rfl, ?_⟩) (by assumption) ?_
  rotate_left
  · intro wS hSw
    (try dsimp only at hSw)
    go_simp
    (try with_reducible rfl)
  refine wpAnyH_take (i := 1) (v := ?_) rfl (by kernel_rfl) (by kernel_rfl) (by kernel_rfl) (fun _ _ _ h => h) (Or.inl ⟨by rfl, ?_⟩) (by assumption) ?_
  rotate_left
  · intro wS hSw
    (try dsimp only at hSw)
    go_simp
    (try with_reducible rfl)
  refine wpAnyH_take (i := 2) (v := ?_) rfl (by kernel_rfl) (by kernel_rfl) (by kernel_rfl) (fun _ _ _ h => h) (Or.inl ⟨by rfl, ?_⟩) (by assumption) ?_
  rotate_left
  · intro wS hSw
    (try dsimp only at hSw)
    go_simp
    (try with_reducible rfl)
  refine wpAnyH_take (i := 3) (v := ?_) rfl (by kernel_rfl) (by kernel_rfl) (by kernel_rfl) (fun _ _ _ h => h) (Or.inl ⟨by rfl, ?_⟩) (by assumption) ?_
  rotate_left
  · intro wS hSw
    (try dsimp only at hSw)
    go_simp
    (try with_reducible rfl)
  refine wpAnyH_take (i := 4) (v := ?_) rfl (by kernel_rfl) (by kernel_rfl) (by kernel_rfl) (fun _ _ _ h => h) (Or.inl ⟨by rfl, ?_⟩) (by assumption) ?_
  rotate_left
  · intro wS hSw
    (try dsimp only at hSw)
    go_simp
    (try with_reducible rfl)
  refine wpAnyH_take (i := 5) (v := ?_) rfl (by kernel_rfl) (by kernel_rfl) (by kernel_rfl) (fun _ _ _ h => h) (Or.inl ⟨by rfl, ?_⟩) (by assumption) ?_
  rotate_left
  · intro wS hSw
    (try dsimp only at hSw)
    go_simp
    (try with_reducible rfl)
  refine wpAnyH_take (i := 6) (v := ?_) rfl (by kernel_rfl) (by kernel_rfl) (by kernel_rfl) (fun _ _ _ h => h) (Or.inl ⟨by rfl, ?_⟩) (by assumption) ?_
  rotate_left
  · intro wS hSw
    (try dsimp only at hSw)
    go_simp
    (try with_reducible rfl)
  refine wpAnyH_take (i := 7) (v := ?_) rfl (by kernel_rfl) (by kernel_rfl) (by kernel_rfl) (fun _ _ _ h => h) (Or.inl ⟨by rfl, ?_⟩) (by assumption) ?_
  rotate_left
  · intro wS hSw
    (try dsimp only at hSw)
    go_simp
    (try with_reducible rfl)
  refine wpAnyH_take (i := 8) (v := ?_) rfl (by kernel_rfl) (by kernel_rfl) (by kernel_rfl) (fun _ _ _ h => h) (Or.inl ⟨by rfl, ?_⟩) (by assumption) ?_
  rotate_left
  · intro wS hSw
    (try dsimp only at hSw)
    go_simp
    (try with_reducible rfl)
  refine wpAnyH_ready (rs := [9]) (by kernel_rfl) (by simp) ?_
  refine (AllReadyH.cons rfl (fun K hK => ?_) AllReadyH.nil)
  go_simp
  refine (lookQ_out false none 0 0 m (by omega) (by omega) _).mono ?_
  rintro e W1 ⟨g, rfl, hk1, hg, hCg⟩
  have hkw : Kept noX W W1 := hkn.drew.trans hk1
  refine hK.out _ _ ⟨hk1.cell c0, hk1.cell c1⟩ (fun hHeld => ?_)
  clear hK K
  refine wpAnyH_take (i := 10) (v := ?_) rfl (by kernel_rfl) (by kernel_rfl) (by kernel_rfl) (fun _ _ _ h => h) (Or.inl ⟨by rfl, ?_⟩) (by assumption) ?_
  rotate_left
  · intro wS hSw
    (try dsimp only at hSw)
    go_simp
    (try with_reducible rfl)
  refine wpAnyH_take (i := 11) (v := ?_) rfl (by kernel_rfl) (by kernel_rfl) (by kernel_rfl) (fun _ _ _ h => h) (Or.inl ⟨by rfl, ?_⟩) (by assumption) ?_
  rotate_left
  · intro wS hSw
    (try dsimp only at hSw)
    go_simp
    (try with_reducible rfl)
  refine wpAnyH_take (i := 12) (v := ?_) rfl (by kernel_rfl) (by kernel_rfl) (by kernel_rfl) (fun _ _ _ h => h) (Or.inl ⟨by rfl, ?_⟩) (by assumption) ?_
  rotate_left
  · intro wS hSw
    (try dsimp only at hSw)
    go_simp
    (try with_reducible rfl)
  refine wpAnyH_take (i := 13) (v := ?_) rfl (by kernel_rfl) (by kernel_rfl) (by kernel_rfl) (fun _ _ _ h => h) (Or.inl ⟨by rfl, ?_⟩) (by assumption) ?_
  rotate_left
  · intro wS hSw
    (try dsimp only at hSw)
    go_simp
    (try with_reducible rfl)
  refine wpAnyH_take (i := 14) (v := ?_) rfl (by kernel_rfl) (by kernel_rfl) (by kernel_rfl) (fun _ _ _ h => h) (Or.inl ⟨by rfl, ?_⟩) (by assumption) ?_
  rotate_left
  · intro wS hSw
    (try dsimp only at hSw)
    go_simp
    (try with_reducible rfl)
  refine wpAnyH_done (by kernel_rfl) ?_ _
  have c2 := hCg.cell 1
  simp only [List.getElem?_cons_zero, List.getElem?_cons_succ] at c2
  go_wp2
  go_ret2
  exact ⟨rfl, hkw⟩
set_option maxRecDepth 100000 in
set_option maxHeartbeats 1000000 in
theorem waits_nil (m : Int) (W : World) : Calls Try.prog 16 #[.pointer none, .int .i64 m] W fun e W' => (∃ v, e = .returned (.tuple #[v, .int .i64 1]) ∧ W'.ownsRow W.heap.size 3 1 v 0 []) ∧ Kept noX W W' := by
  go_enter Try.func16, Try.ntmps16
  go_wp2_with (go_at_call 36; refine (whole_nil _).mono ?_; rintro e W0 ⟨rfl, hW0⟩; have hkn : Kept noX W W0 := hW0 ▸ (Kept.refl noX W).alloc _; have hCn : Cells W0 W.heap.size 76 [.bool false, .slice none 0 0, .slice none 0 0, .slice none 0 0] := hW0 ▸ Cells.fresh W 76 _; clear hW0; generalize hpn : W.heap.size = p at *)
  have c0 := hCn.cell 0
  have c1 := hCn.cell 2
  simp only [List.getElem?_cons_zero, List.getElem?_cons_succ] at c0 c1
  clear hCn
  refine wp_region_held_drew (S := (fun w' => w'.cell? ⟨p, 0, none⟩ = some (.bool false) ∧ w'.cell? ⟨p, 2, none⟩ = some (.slice none 0 0))) (by kernel_rfl) ⟨c0, c1⟩ (fun hHeld => ?_)
  refine wpAnyH_take (i := 0) (v := ?_) rfl (by kernel_rfl) (by kernel_rfl) (by kernel_rfl) (fun _ _ _ h => h) (Or.inl ⟨by rfl, ?_⟩) (by assumption) ?_
  rotate_left
  · intro wS hSw
    (try dsimp only at hSw)
    go_simp
    (try with_reducible rfl)
  refine wpAnyH_take (i := 1) (v := ?_) rfl (by kernel_rfl) (by kernel_rfl) (by kernel_rfl) (fun _ _ _ h => h) (Or.inl ⟨by rfl, ?_⟩) (by assumption) ?_
  rotate_left
  · intro wS hSw
    (try dsimp only at hSw)
    go_simp
    (try with_reducible rfl)
  refine wpAnyH_take (i := 2) (v := ?_) rfl (by kernel_rfl) (by kernel_rfl) (by kernel_rfl) (fun _ _ _ h => h) (Or.inl ⟨by rfl, ?_⟩) (by assumption) ?_
  rotate_left
  · intro wS hSw
    (try dsimp only at hSw)
    go_simp
    (try with_reducible rfl)
  refine wpAnyH_take (i := 3) (v := ?_) rfl (by kernel_rfl) (by kernel_rfl) (by kernel_rfl) (fun _ _ _ h => h) (Or.inl ⟨by rfl, ?_⟩) (by assumption) ?_
  rotate_left
  · intro wS hSw
    (try dsimp only at hSw)
    go_simp
    (try with_reducible rfl)
  refine wpAnyH_take (i := 4) (v := ?_) rfl (by kernel_rfl) (by kernel_rfl) (by kernel_rfl) (fun _ _ _ h => h) (Or.inl ⟨by rfl, ?_⟩) (by assumption) ?_
  rotate_left
  · intro wS hSw
    (try dsimp only at hSw)
    go_simp
    (try with_reducible rfl)
  refine wpAnyH_take (i := 5) (v := ?_) rfl (by kernel_rfl) (by kernel_rfl) (by kernel_rfl) (fun _ _ _ h => h) (Or.inl ⟨by rfl, ?_⟩) (by assumption) ?_
  rotate_left
  · intro wS hSw
    (try dsimp only at hSw)
    go_simp
    (try with_reducible rfl)
  refine wpAnyH_take (i := 6) (v := ?_) rfl (by kernel_rfl) (by kernel_rfl) (by kernel_rfl) (fun _ _ _ h => h) (Or.inl ⟨by rfl, ?_⟩) (by assumption) ?_
  rotate_left
  · intro wS hSw
    (try dsimp only at hSw)
    go_simp
    (try with_reducible rfl)
  refine wpAnyH_take (i := 7) (v := ?_) rfl (by kernel_rfl) (by kernel_rfl) (by kernel_rfl) (fun _ _ _ h => h) (Or.inl ⟨by rfl, ?_⟩) (by assumption) ?_
  rotate_left
  · intro wS hSw
    (try dsimp only at hSw)
    go_simp
    (try with_reducible rfl)
  refine wpAnyH_take (i := 8) (v := ?_) rfl (by kernel_rfl) (by kernel_rfl) (by kernel_rfl) (fun _ _ _ h => h) (Or.inl ⟨by rfl, ?_⟩) (by assumption) ?_
  rotate_left
  · intro wS hSw
    (try dsimp only at hSw)
    go_simp
    (try with_reducible rfl)
  refine wpAnyH_ready (rs := [9]) (by kernel_rfl) (by simp) ?_
  refine (AllReadyH.cons rfl (fun K hK => ?_) AllReadyH.nil)
  go_simp
  refine (lookC_out false none 0 0 m (by omega) (by omega) _).mono ?_
  rintro e W1 ⟨g, rfl, hk1, hg, hCg⟩
  have hkw : Kept noX W W1 := hkn.drew.trans hk1
  refine hK.out _ _ ⟨hk1.cell c0, hk1.cell c1⟩ (fun hHeld => ?_)
  clear hK K
  refine wpAnyH_take (i := 10) (v := ?_) rfl (by kernel_rfl) (by kernel_rfl) (by kernel_rfl) (fun _ _ _ h => h) (Or.inl ⟨by rfl, ?_⟩) (by assumption) ?_
  rotate_left
  · intro wS hSw
    (try dsimp only at hSw)
    go_simp
    (try with_reducible rfl)
  refine wpAnyH_take (i := 11) (v := ?_) rfl (by kernel_rfl) (by kernel_rfl) (by kernel_rfl) (fun _ _ _ h => h) (Or.inl ⟨by rfl, ?_⟩) (by assumption) ?_
  rotate_left
  · intro wS hSw
    (try dsimp only at hSw)
    go_simp
    (try with_reducible rfl)
  refine wpAnyH_take (i := 12) (v := ?_) rfl (by kernel_rfl) (by kernel_rfl) (by kernel_rfl) (fun _ _ _ h => h) (Or.inl ⟨by rfl, ?_⟩) (by assumption) ?_
  rotate_left
  · intro wS hSw
    (try dsimp only at hSw)
    go_simp
    (try with_reducible rfl)
  refine wpAnyH_take (i := 13) (v := ?_) rfl (by kernel_rfl) (by kernel_rfl) (by kernel_rfl) (fun _ _ _ h => h) (Or.inl ⟨by rfl, ?_⟩) (by assumption) ?_
  rotate_left
  · intro wS hSw
    (try dsimp only at hSw)
    go_simp
    (try with_reducible rfl)
  refine wpAnyH_take (i := 14) (v := ?_) rfl (by kernel_rfl) (by kernel_rfl) (by kernel_rfl) (fun _ _ _ h => h) (Or.inl ⟨by rfl, ?_⟩) (by assumption) ?_
  rotate_left
  · intro wS hSw
    (try dsimp only at hSw)
    go_simp
    (try with_reducible rfl)
  refine wpAnyH_done (by kernel_rfl) ?_ _
  have c2 := hCg.cell 0
  simp only [List.getElem?_cons_zero] at c2
  have HCO := Lib.hid (collect_any [] none 0 (by simp) W1 (W1.alloc (.cells #[.slice none 0 0] 22)) .nilrow ((Kept.refl _ _).alloc _) (Cells.fresh W1 22 [.slice none 0 0]))
  go_wp2_with fail
  refine (each_any g 0 none 0 0 W1 c2).mono ?_
  rintro e W2 ⟨rfl, rfl⟩
  go_wp2_with fail
  refine HCO.out.mono ?_
  rintro e W3 ⟨v, rfl, hown, hk3⟩
  go_wp2
  go_ret2
  exact ⟨⟨v, rfl, own_low hown (hkw.size)⟩, hkw.trans hk3⟩
set_option maxRecDepth 100000 in
set_option maxHeartbeats 1000000 in
theorem values_nil (m : Int) (W : World) : Calls Try.prog 21 #[.pointer none, .int .i64 m] W fun e W' => (∃ v, e = .returned (.tuple #[v, .int .i64 1]) ∧ W'.ownsRow W.heap.size 2 1 v 0 []) ∧ Kept noX W W' := by
  go_enter Try.func21, Try.ntmps21
  go_wp2_with (go_at_call 36; refine (whole_nil _).mono ?_; rintro e W0 ⟨rfl, hW0⟩; have hkn : Kept noX W W0 := hW0 ▸ (Kept.refl noX W).alloc _; have hCn : Cells W0 W.heap.size 76 [.bool false, .slice none 0 0, .slice none 0 0, .slice none 0 0] := hW0 ▸ Cells.fresh W 76 _; clear hW0; generalize hpn : W.heap.size = p at *)
  have c0 := hCn.cell 0
  have c1 := hCn.cell 3
  simp only [List.getElem?_cons_zero, List.getElem?_cons_succ] at c0 c1
  clear hCn
  refine wp_region_held_drew (S := (fun w' => w'.cell? ⟨p, 0, none⟩ = some (.bool false) ∧ w'.cell? ⟨p, 3, none⟩ = some (.slice none 0 0))) (by kernel_rfl) ⟨c0, c1⟩ (fun hHeld => ?_)
  refine wpAnyH_take (i := 0) (v := ?_) rfl (by kernel_rfl) (by kernel_rfl) (by kernel_rfl) (fun _ _ _ h => h) (Or.inl ⟨by rfl, ?_⟩) (by assumption) ?_
  rotate_left
  · intro wS hSw
    (try dsimp only at hSw)
    go_simp
    (try with_reducible rfl)
  refine wpAnyH_take (i := 1) (v := ?_) rfl (by kernel_rfl) (by kernel_rfl) (by kernel_rfl) (fun _ _ _ h => h) (Or.inl ⟨by rfl, ?_⟩) (by assumption) ?_
  rotate_left
  · intro wS hSw
    (try dsimp only at hSw)
    go_simp
    (try with_reducible rfl)
  refine wpAnyH_take (i := 2) (v := ?_) rfl (by kernel_rfl) (by kernel_rfl) (by kernel_rfl) (fun _ _ _ h => h) (Or.inl ⟨by rfl, ?_⟩) (by assumption) ?_
  rotate_left
  · intro wS hSw
    (try dsimp only at hSw)
    go_simp
    (try with_reducible rfl)
  refine wpAnyH_take (i := 3) (v := ?_) rfl (by kernel_rfl) (by kernel_rfl) (by kernel_rfl) (fun _ _ _ h => h) (Or.inl ⟨by rfl, ?_⟩) (by assumption) ?_
  rotate_left
  · intro wS hSw
    (try dsimp only at hSw)
    go_simp
    (try with_reducible rfl)
  refine wpAnyH_take (i := 4) (v := ?_) rfl (by kernel_rfl) (by kernel_rfl) (by kernel_rfl) (fun _ _ _ h => h) (Or.inl ⟨by rfl, ?_⟩) (by assumption) ?_
  rotate_left
  · intro wS hSw
    (try dsimp only at hSw)
    go_simp
    (try with_reducible rfl)
  refine wpAnyH_take (i := 5) (v := ?_) rfl (by kernel_rfl) (by kernel_rfl) (by kernel_rfl) (fun _ _ _ h => h) (Or.inl ⟨by rfl, ?_⟩) (by assumption) ?_
  rotate_left
  · intro wS hSw
    (try dsimp only at hSw)
    go_simp
    (try with_reducible rfl)
  refine wpAnyH_take (i := 6) (v := ?_) rfl (by kernel_rfl) (by kernel_rfl) (by kernel_rfl) (fun _ _ _ h => h) (Or.inl ⟨by rfl, ?_⟩) (by assumption) ?_
  rotate_left
  · intro wS hSw
    (try dsimp only at hSw)
    go_simp
    (try with_reducible rfl)
  refine wpAnyH_take (i := 7) (v := ?_) rfl (by kernel_rfl) (by kernel_rfl) (by kernel_rfl) (fun _ _ _ h => h) (Or.inl ⟨by rfl, ?_⟩) (by assumption) ?_
  rotate_left
  · intro wS hSw
    (try dsimp only at hSw)
    go_simp
    (try with_reducible rfl)
  refine wpAnyH_take (i := 8) (v := ?_) rfl (by kernel_rfl) (by kernel_rfl) (by kernel_rfl) (fun _ _ _ h => h) (Or.inl ⟨by rfl, ?_⟩) (by assumption) ?_
  rotate_left
  · intro wS hSw
    (try dsimp only at hSw)
    go_simp
    (try with_reducible rfl)
  refine wpAnyH_ready (rs := [9]) (by kernel_rfl) (by simp) ?_
  refine (AllReadyH.cons rfl (fun K hK => ?_) AllReadyH.nil)
  go_simp
  refine (lookQ_out false none 0 0 m (by omega) (by omega) _).mono ?_
  rintro e W1 ⟨g, rfl, hk1, hg, hCg⟩
  have hkw : Kept noX W W1 := hkn.drew.trans hk1
  refine hK.out _ _ ⟨hk1.cell c0, hk1.cell c1⟩ (fun hHeld => ?_)
  clear hK K
  refine wpAnyH_take (i := 10) (v := ?_) rfl (by kernel_rfl) (by kernel_rfl) (by kernel_rfl) (fun _ _ _ h => h) (Or.inl ⟨by rfl, ?_⟩) (by assumption) ?_
  rotate_left
  · intro wS hSw
    (try dsimp only at hSw)
    go_simp
    (try with_reducible rfl)
  refine wpAnyH_take (i := 11) (v := ?_) rfl (by kernel_rfl) (by kernel_rfl) (by kernel_rfl) (fun _ _ _ h => h) (Or.inl ⟨by rfl, ?_⟩) (by assumption) ?_
  rotate_left
  · intro wS hSw
    (try dsimp only at hSw)
    go_simp
    (try with_reducible rfl)
  refine wpAnyH_take (i := 12) (v := ?_) rfl (by kernel_rfl) (by kernel_rfl) (by kernel_rfl) (fun _ _ _ h => h) (Or.inl ⟨by rfl, ?_⟩) (by assumption) ?_
  rotate_left
  · intro wS hSw
    (try dsimp only at hSw)
    go_simp
    (try with_reducible rfl)
  refine wpAnyH_take (i := 13) (v := ?_) rfl (by kernel_rfl) (by kernel_rfl) (by kernel_rfl) (fun _ _ _ h => h) (Or.inl ⟨by rfl, ?_⟩) (by assumption) ?_
  rotate_left
  · intro wS hSw
    (try dsimp only at hSw)
    go_simp
    (try with_reducible rfl)
  refine wpAnyH_take (i := 14) (v := ?_) rfl (by kernel_rfl) (by kernel_rfl) (by kernel_rfl) (fun _ _ _ h => h) (Or.inl ⟨by rfl, ?_⟩) (by assumption) ?_
  rotate_left
  · intro wS hSw
    (try dsimp only at hSw)
    go_simp
    (try with_reducible rfl)
  refine wpAnyH_done (by kernel_rfl) ?_ _
  have c2 := hCg.cell 0
  simp only [List.getElem?_cons_zero] at c2
  have HCO := Lib.hid (collect64_any [] none 0 (by simp) W1 (W1.alloc (.cells #[.slice none 0 0] 47)) .nilrow ((Kept.refl _ _).alloc _) (Cells.fresh W1 47 [.slice none 0 0]))
  go_wp2_with fail
  refine (each64_any g 0 none 0 0 W1 c2).mono ?_
  rintro e W2 ⟨rfl, rfl⟩
  go_wp2_with fail
  refine HCO.out.mono ?_
  rintro e W3 ⟨v, rfl, hown, hk3⟩
  go_wp2
  go_ret2
  exact ⟨⟨v, rfl, own_low hown (hkw.size)⟩, hkw.trans hk3⟩
set_option maxRecDepth 100000 in
set_option maxHeartbeats 1000000 in
theorem signal_none (m : Int) (W : World) : Calls Try.prog 17 #[.pointer none, .int .i64 m] W fun e W' => e = .returned (.tuple #[.int .i64 0, .bool false, .int .i64 1]) ∧ Kept noX W W' := by
  go_enter Try.func17, Try.ntmps17
  go_wp2_with (go_at_call 36; refine (whole_nil _).mono ?_; rintro e W0 ⟨rfl, hW0⟩; have hkn : Kept noX W W0 := hW0 ▸ (Kept.refl noX W).alloc _; have hCn : Cells W0 W.heap.size 76 [.bool false, .slice none 0 0, .slice none 0 0, .slice none 0 0] := hW0 ▸ Cells.fresh W 76 _; clear hW0; generalize hpn : W.heap.size = p at *)
  have c0 := hCn.cell 0
  have c1 := hCn.cell 2
  simp only [List.getElem?_cons_zero, List.getElem?_cons_succ] at c0 c1
  clear hCn
  refine wp_region_held_drew (S := (fun w' => w'.cell? ⟨p, 0, none⟩ = some (.bool false) ∧ w'.cell? ⟨p, 2, none⟩ = some (.slice none 0 0))) (by kernel_rfl) ⟨c0, c1⟩ (fun hHeld => ?_)
  refine wpAnyH_take (i := 0) (v := ?_) rfl (by kernel_rfl) (by kernel_rfl) (by kernel_rfl) (fun _ _ _ h => h) (Or.inl ⟨by rfl, ?_⟩) (by assumption) ?_
  rotate_left
  · intro wS hSw
    (try dsimp only at hSw)
    go_simp
    (try with_reducible rfl)
  refine wpAnyH_take (i := 1) (v := ?_) rfl (by kernel_rfl) (by kernel_rfl) (by kernel_rfl) (fun _ _ _ h => h) (Or.inl ⟨by rfl, ?_⟩) (by assumption) ?_
  rotate_left
  · intro wS hSw
    (try dsimp only at hSw)
    go_simp
    (try with_reducible rfl)
  refine wpAnyH_take (i := 2) (v := ?_) rfl (by kernel_rfl) (by kernel_rfl) (by kernel_rfl) (fun _ _ _ h => h) (Or.inl ⟨by rfl, ?_⟩) (by assumption) ?_
  rotate_left
  · intro wS hSw
    (try dsimp only at hSw)
    go_simp
    (try with_reducible rfl)
  refine wpAnyH_take (i := 3) (v := ?_) rfl (by kernel_rfl) (by kernel_rfl) (by kernel_rfl) (fun _ _ _ h => h) (Or.inl ⟨by rfl, ?_⟩) (by assumption) ?_
  rotate_left
  · intro wS hSw
    (try dsimp only at hSw)
    go_simp
    (try with_reducible rfl)
  refine wpAnyH_take (i := 4) (v := ?_) rfl (by kernel_rfl) (by kernel_rfl) (by kernel_rfl) (fun _ _ _ h => h) (Or.inl ⟨by rfl, ?_⟩) (by assumption) ?_
  rotate_left
  · intro wS hSw
    (try dsimp only at hSw)
    go_simp
    (try with_reducible rfl)
  refine wpAnyH_take (i := 5) (v := ?_) rfl (by kernel_rfl) (by kernel_rfl) (by kernel_rfl) (fun _ _ _ h => h) (Or.inl ⟨by rfl, ?_⟩) (by assumption) ?_
  rotate_left
  · intro wS hSw
    (try dsimp only at hSw)
    go_simp
    (try with_reducible rfl)
  refine wpAnyH_take (i := 6) (v := ?_) rfl (by kernel_rfl) (by kernel_rfl) (by kernel_rfl) (fun _ _ _ h => h) (Or.inl ⟨by rfl, ?_⟩) (by assumption) ?_
  rotate_left
  · intro wS hSw
    (try dsimp only at hSw)
    go_simp
    (try with_reducible rfl)
  refine wpAnyH_take (i := 7) (v := ?_) rfl (by kernel_rfl) (by kernel_rfl) (by kernel_rfl) (fun _ _ _ h => h) (Or.inl ⟨by rfl, ?_⟩) (by assumption) ?_
  rotate_left
  · intro wS hSw
    (try dsimp only at hSw)
    go_simp
    (try with_reducible rfl)
  refine wpAnyH_take (i := 8) (v := ?_) rfl (by kernel_rfl) (by kernel_rfl) (by kernel_rfl) (fun _ _ _ h => h) (Or.inl ⟨by rfl, ?_⟩) (by assumption) ?_
  rotate_left
  · intro wS hSw
    (try dsimp only at hSw)
    go_simp
    (try with_reducible rfl)
  refine wpAnyH_ready (rs := [9]) (by kernel_rfl) (by simp) ?_
  refine (AllReadyH.cons rfl (fun K hK => ?_) AllReadyH.nil)
  go_simp
  refine (lookC_out false none 0 0 m (by omega) (by omega) _).mono ?_
  rintro e W1 ⟨g, rfl, hk1, hg, hCg⟩
  have hkw : Kept noX W W1 := hkn.drew.trans hk1
  refine hK.out _ _ ⟨hk1.cell c0, hk1.cell c1⟩ (fun hHeld => ?_)
  clear hK K
  refine wpAnyH_take (i := 10) (v := ?_) rfl (by kernel_rfl) (by kernel_rfl) (by kernel_rfl) (fun _ _ _ h => h) (Or.inl ⟨by rfl, ?_⟩) (by assumption) ?_
  rotate_left
  · intro wS hSw
    (try dsimp only at hSw)
    go_simp
    (try with_reducible rfl)
  refine wpAnyH_take (i := 11) (v := ?_) rfl (by kernel_rfl) (by kernel_rfl) (by kernel_rfl) (fun _ _ _ h => h) (Or.inl ⟨by rfl, ?_⟩) (by assumption) ?_
  rotate_left
  · intro wS hSw
    (try dsimp only at hSw)
    go_simp
    (try with_reducible rfl)
  refine wpAnyH_take (i := 12) (v := ?_) rfl (by kernel_rfl) (by kernel_rfl) (by kernel_rfl) (fun _ _ _ h => h) (Or.inl ⟨by rfl, ?_⟩) (by assumption) ?_
  rotate_left
  · intro wS hSw
    (try dsimp only at hSw)
    go_simp
    (try with_reducible rfl)
  refine wpAnyH_take (i := 13) (v := ?_) rfl (by kernel_rfl) (by kernel_rfl) (by kernel_rfl) (fun _ _ _ h => h) (Or.inl ⟨by rfl, ?_⟩) (by assumption) ?_
  rotate_left
  · intro wS hSw
    (try dsimp only at hSw)
    go_simp
    (try with_reducible rfl)
  refine wpAnyH_take (i := 14) (v := ?_) rfl (by kernel_rfl) (by kernel_rfl) (by kernel_rfl) (fun _ _ _ h => h) (Or.inl ⟨by rfl, ?_⟩) (by assumption) ?_
  rotate_left
  · intro wS hSw
    (try dsimp only at hSw)
    go_simp
    (try with_reducible rfl)
  refine wpAnyH_done (by kernel_rfl) ?_ _
  have HT := Lib.hid (take_nil g 0 99 _ none 0 W1 hCg rfl)
  clear hCg
  go_wp2_with fail
  refine HT.out.mono ?_
  rintro e W2 ⟨rfl, hW2⟩
  rw [hW2]
  go_wp2
  go_ret3
  exact ⟨rfl, hkw⟩
set_option maxRecDepth 100000 in
set_option maxHeartbeats 1000000 in
theorem all_none (m : Int) (W : World) : Calls Try.prog 18 #[.pointer none, .int .i64 m] W fun e W' => e = .returned (.tuple #[.slice none 0 0, .int .i64 1]) ∧ Kept noX W W' := by
  go_enter Try.func18, Try.ntmps18
  go_wp2_with (go_at_call 36; refine (whole_nil _).mono ?_; rintro e W0 ⟨rfl, hW0⟩; have hkn : Kept noX W W0 := hW0 ▸ (Kept.refl noX W).alloc _; have hCn : Cells W0 W.heap.size 76 [.bool false, .slice none 0 0, .slice none 0 0, .slice none 0 0] := hW0 ▸ Cells.fresh W 76 _; clear hW0; generalize hpn : W.heap.size = p at *)
  have c0 := hCn.cell 0
  have c1 := hCn.cell 2
  simp only [List.getElem?_cons_zero, List.getElem?_cons_succ] at c0 c1
  clear hCn
  refine wp_region_held_drew (S := (fun w' => w'.cell? ⟨p, 0, none⟩ = some (.bool false) ∧ w'.cell? ⟨p, 2, none⟩ = some (.slice none 0 0))) (by kernel_rfl) ⟨c0, c1⟩ (fun hHeld => ?_)
  refine wpAnyH_take (i := 0) (v := ?_) rfl (by kernel_rfl) (by kernel_rfl) (by kernel_rfl) (fun _ _ _ h => h) (Or.inl ⟨by rfl, ?_⟩) (by assumption) ?_
  rotate_left
  · intro wS hSw
    (try dsimp only at hSw)
    go_simp
    (try with_reducible rfl)
  refine wpAnyH_take (i := 1) (v := ?_) rfl (by kernel_rfl) (by kernel_rfl) (by kernel_rfl) (fun _ _ _ h => h) (Or.inl ⟨by rfl, ?_⟩) (by assumption) ?_
  rotate_left
  · intro wS hSw
    (try dsimp only at hSw)
    go_simp
    (try with_reducible rfl)
  refine wpAnyH_take (i := 2) (v := ?_) rfl (by kernel_rfl) (by kernel_rfl) (by kernel_rfl) (fun _ _ _ h => h) (Or.inl ⟨by rfl, ?_⟩) (by assumption) ?_
  rotate_left
  · intro wS hSw
    (try dsimp only at hSw)
    go_simp
    (try with_reducible rfl)
  refine wpAnyH_take (i := 3) (v := ?_) rfl (by kernel_rfl) (by kernel_rfl) (by kernel_rfl) (fun _ _ _ h => h) (Or.inl ⟨by rfl, ?_⟩) (by assumption) ?_
  rotate_left
  · intro wS hSw
    (try dsimp only at hSw)
    go_simp
    (try with_reducible rfl)
  refine wpAnyH_take (i := 4) (v := ?_) rfl (by kernel_rfl) (by kernel_rfl) (by kernel_rfl) (fun _ _ _ h => h) (Or.inl ⟨by rfl, ?_⟩) (by assumption) ?_
  rotate_left
  · intro wS hSw
    (try dsimp only at hSw)
    go_simp
    (try with_reducible rfl)
  refine wpAnyH_take (i := 5) (v := ?_) rfl (by kernel_rfl) (by kernel_rfl) (by kernel_rfl) (fun _ _ _ h => h) (Or.inl ⟨by rfl, ?_⟩) (by assumption) ?_
  rotate_left
  · intro wS hSw
    (try dsimp only at hSw)
    go_simp
    (try with_reducible rfl)
  refine wpAnyH_take (i := 6) (v := ?_) rfl (by kernel_rfl) (by kernel_rfl) (by kernel_rfl) (fun _ _ _ h => h) (Or.inl ⟨by rfl, ?_⟩) (by assumption) ?_
  rotate_left
  · intro wS hSw
    (try dsimp only at hSw)
    go_simp
    (try with_reducible rfl)
  refine wpAnyH_take (i := 7) (v := ?_) rfl (by kernel_rfl) (by kernel_rfl) (by kernel_rfl) (fun _ _ _ h => h) (Or.inl ⟨by rfl, ?_⟩) (by assumption) ?_
  rotate_left
  · intro wS hSw
    (try dsimp only at hSw)
    go_simp
    (try with_reducible rfl)
  refine wpAnyH_take (i := 8) (v := ?_) rfl (by kernel_rfl) (by kernel_rfl) (by kernel_rfl) (fun _ _ _ h => h) (Or.inl ⟨by rfl, ?_⟩) (by assumption) ?_
  rotate_left
  · intro wS hSw
    (try dsimp only at hSw)
    go_simp
    (try with_reducible rfl)
  refine wpAnyH_ready (rs := [9]) (by kernel_rfl) (by simp) ?_
  refine (AllReadyH.cons rfl (fun K hK => ?_) AllReadyH.nil)
  go_simp
  refine (lookC_out false none 0 0 m (by omega) (by omega) _).mono ?_
  rintro e W1 ⟨g, rfl, hk1, hg, hCg⟩
  have hkw : Kept noX W W1 := hkn.drew.trans hk1
  refine hK.out _ _ ⟨hk1.cell c0, hk1.cell c1⟩ (fun hHeld => ?_)
  clear hK K
  refine wpAnyH_take (i := 10) (v := ?_) rfl (by kernel_rfl) (by kernel_rfl) (by kernel_rfl) (fun _ _ _ h => h) (Or.inl ⟨by rfl, ?_⟩) (by assumption) ?_
  rotate_left
  · intro wS hSw
    (try dsimp only at hSw)
    go_simp
    (try with_reducible rfl)
  refine wpAnyH_take (i := 11) (v := ?_) rfl (by kernel_rfl) (by kernel_rfl) (by kernel_rfl) (fun _ _ _ h => h) (Or.inl ⟨by rfl, ?_⟩) (by assumption) ?_
  rotate_left
  · intro wS hSw
    (try dsimp only at hSw)
    go_simp
    (try with_reducible rfl)
  refine wpAnyH_take (i := 12) (v := ?_) rfl (by kernel_rfl) (by kernel_rfl) (by kernel_rfl) (fun _ _ _ h => h) (Or.inl ⟨by rfl, ?_⟩) (by assumption) ?_
  rotate_left
  · intro wS hSw
    (try dsimp only at hSw)
    go_simp
    (try with_reducible rfl)
  refine wpAnyH_take (i := 13) (v := ?_) rfl (by kernel_rfl) (by kernel_rfl) (by kernel_rfl) (fun _ _ _ h => h) (Or.inl ⟨by rfl, ?_⟩) (by assumption) ?_
  rotate_left
  · intro wS hSw
    (try dsimp only at hSw)
    go_simp
    (try with_reducible rfl)
  refine wpAnyH_take (i := 14) (v := ?_) rfl (by kernel_rfl) (by kernel_rfl) (by kernel_rfl) (fun _ _ _ h => h) (Or.inl ⟨by rfl, ?_⟩) (by assumption) ?_
  rotate_left
  · intro wS hSw
    (try dsimp only at hSw)
    go_simp
    (try with_reducible rfl)
  refine wpAnyH_done (by kernel_rfl) ?_ _
  have HT := Lib.hid (take_nil g 0 99 _ none 0 W1 hCg rfl)
  clear hCg
  go_wp2_with fail
  refine HT.out.mono ?_
  rintro e W2 ⟨rfl, hW2⟩
  rw [hW2]
  go_wp2_with fail
  go_loopw [9, 11] (fun a b wr => a = .slice none 0 0 ∧ b = .bool false ∧ wr = W1) (fun _ _ _ => 0)
  case atStart => exact ⟨rfl, rfl, rfl⟩
  case round =>
    obtain ⟨rfl, rfl, rfl⟩ := hrel
    go_wp2
    go_ret2
    exact ⟨rfl, hkw⟩
set_option maxRecDepth 100000 in
set_option maxHeartbeats 1000000 in
theorem recv_none (m : Int) (W : World) : Calls Try.prog 20 #[.pointer none, .int .i64 m] W fun e W' => e = .returned (.tuple #[.int .i64 0, .int .i64 0, .bool false, .int .i64 1]) ∧ Kept noX W W' := by
  go_enter Try.func20, Try.ntmps20
  go_wp2_with (go_at_call 36; refine (whole_nil _).mono ?_; rintro e W0 ⟨rfl, hW0⟩; have hkn : Kept noX W W0 := hW0 ▸ (Kept.refl noX W).alloc _; have hCn : Cells W0 W.heap.size 76 [.bool false, .slice none 0 0, .slice none 0 0, .slice none 0 0] := hW0 ▸ Cells.fresh W 76 _; clear hW0; generalize hpn : W.heap.size = p at *)
  have c0 := hCn.cell 0
  have c1 := hCn.cell 3
  simp only [List.getElem?_cons_zero, List.getElem?_cons_succ] at c0 c1
  clear hCn
  refine wp_region_held_drew (S := (fun w' => w'.cell? ⟨p, 0, none⟩ = some (.bool false) ∧ w'.cell? ⟨p, 3, none⟩ = some (.slice none 0 0))) (by kernel_rfl) ⟨c0, c1⟩ (fun hHeld => ?_)
  refine wpAnyH_take (i := 0) (v := ?_) rfl (by kernel_rfl) (by kernel_rfl) (by kernel_rfl) (fun _ _ _ h => h) (Or.inl ⟨by rfl, ?_⟩) (by assumption) ?_
  rotate_left
  · intro wS hSw
    (try dsimp only at hSw)
    go_simp
    (try with_reducible rfl)
  refine wpAnyH_take (i := 1) (v := ?_) rfl (by kernel_rfl) (by kernel_rfl) (by kernel_rfl) (fun _ _ _ h => h) (Or.inl ⟨by rfl, ?_⟩) (by assumption) ?_
  rotate_left
  · intro wS hSw
    (try dsimp only at hSw)
    go_simp
    (try with_reducible rfl)
  refine wpAnyH_take (i := 2) (v := ?_) rfl (by kernel_rfl) (by kernel_rfl) (by kernel_rfl) (fun _ _ _ h => h) (Or.inl ⟨by rfl, ?_⟩) (by assumption) ?_
  rotate_left
  · intro wS hSw
    (try dsimp only at hSw)
    go_simp
    (try with_reducible rfl)
  refine wpAnyH_take (i := 3) (v := ?_) rfl (by kernel_rfl) (by kernel_rfl) (by kernel_rfl) (fun _ _ _ h => h) (Or.inl ⟨by rfl, ?_⟩) (by assumption) ?_
  rotate_left
  · intro wS hSw
    (try dsimp only at hSw)
    go_simp
    (try with_reducible rfl)
  refine wpAnyH_take (i := 4) (v := ?_) rfl (by kernel_rfl) (by kernel_rfl) (by kernel_rfl) (fun _ _ _ h => h) (Or.inl ⟨by rfl, ?_⟩) (by assumption) ?_
  rotate_left
  · intro wS hSw
    (try dsimp only at hSw)
    go_simp
    (try with_reducible rfl)
  refine wpAnyH_take (i := 5) (v := ?_) rfl (by kernel_rfl) (by kernel_rfl) (by kernel_rfl) (fun _ _ _ h => h) (Or.inl ⟨by rfl, ?_⟩) (by assumption) ?_
  rotate_left
  · intro wS hSw
    (try dsimp only at hSw)
    go_simp
    (try with_reducible rfl)
  refine wpAnyH_take (i := 6) (v := ?_) rfl (by kernel_rfl) (by kernel_rfl) (by kernel_rfl) (fun _ _ _ h => h) (Or.inl ⟨by rfl, ?_⟩) (by assumption) ?_
  rotate_left
  · intro wS hSw
    (try dsimp only at hSw)
    go_simp
    (try with_reducible rfl)
  refine wpAnyH_take (i := 7) (v := ?_) rfl (by kernel_rfl) (by kernel_rfl) (by kernel_rfl) (fun _ _ _ h => h) (Or.inl ⟨by rfl, ?_⟩) (by assumption) ?_
  rotate_left
  · intro wS hSw
    (try dsimp only at hSw)
    go_simp
    (try with_reducible rfl)
  refine wpAnyH_take (i := 8) (v := ?_) rfl (by kernel_rfl) (by kernel_rfl) (by kernel_rfl) (fun _ _ _ h => h) (Or.inl ⟨by rfl, ?_⟩) (by assumption) ?_
  rotate_left
  · intro wS hSw
    (try dsimp only at hSw)
    go_simp
    (try with_reducible rfl)
  refine wpAnyH_ready (rs := [9]) (by kernel_rfl) (by simp) ?_
  refine (AllReadyH.cons rfl (fun K hK => ?_) AllReadyH.nil)
  go_simp
  refine (lookQ_out false none 0 0 m (by omega) (by omega) _).mono ?_
  rintro e W1 ⟨g, rfl, hk1, hg, hCg⟩
  have hkw : Kept noX W W1 := hkn.drew.trans hk1
  refine hK.out _ _ ⟨hk1.cell c0, hk1.cell c1⟩ (fun hHeld => ?_)
  clear hK K
  refine wpAnyH_take (i := 10) (v := ?_) rfl (by kernel_rfl) (by kernel_rfl) (by kernel_rfl) (fun _ _ _ h => h) (Or.inl ⟨by rfl, ?_⟩) (by assumption) ?_
  rotate_left
  · intro wS hSw
    (try dsimp only at hSw)
    go_simp
    (try with_reducible rfl)
  refine wpAnyH_take (i := 11) (v := ?_) rfl (by kernel_rfl) (by kernel_rfl) (by kernel_rfl) (fun _ _ _ h => h) (Or.inl ⟨by rfl, ?_⟩) (by assumption) ?_
  rotate_left
  · intro wS hSw
    (try dsimp only at hSw)
    go_simp
    (try with_reducible rfl)
  refine wpAnyH_take (i := 12) (v := ?_) rfl (by kernel_rfl) (by kernel_rfl) (by kernel_rfl) (fun _ _ _ h => h) (Or.inl ⟨by rfl, ?_⟩) (by assumption) ?_
  rotate_left
  · intro wS hSw
    (try dsimp only at hSw)
    go_simp
    (try with_reducible rfl)
  refine wpAnyH_take (i := 13) (v := ?_) rfl (by kernel_rfl) (by kernel_rfl) (by kernel_rfl) (fun _ _ _ h => h) (Or.inl ⟨by rfl, ?_⟩) (by assumption) ?_
  rotate_left
  · intro wS hSw
    (try dsimp only at hSw)
    go_simp
    (try with_reducible rfl)
  refine wpAnyH_take (i := 14) (v := ?_) rfl (by kernel_rfl) (by kernel_rfl) (by kernel_rfl) (fun _ _ _ h => h) (Or.inl ⟨by rfl, ?_⟩) (by assumption) ?_
  rotate_left
  · intro wS hSw
    (try dsimp only at hSw)
    go_simp
    (try with_reducible rfl)
  refine wpAnyH_done (by kernel_rfl) ?_ _
  have HT := Lib.hid (take64_nil g 0 112 _ none 0 W1.drew hCg.drew rfl)
  have p0 := hCg.cell 0
  have p2 := hCg.cell 2
  simp only [List.getElem?_cons_zero, List.getElem?_cons_succ] at p0 p2
  clear hCg
  go_wp2_with fail
  refine wp_region_held_drew (S := (fun w' => w'.cell? ⟨g, 0, none⟩ = some (.slice none 0 0) ∧ w'.cell? ⟨g, 2, none⟩ = some (.int .i64 0))) (by kernel_rfl) ⟨p0, p2⟩ (fun hHeld => ?_)
  refine wpAnyH_take (i := 0) (v := ?_) rfl (by kernel_rfl) (by kernel_rfl) (by kernel_rfl) (fun _ _ _ h => h) (Or.inl ⟨by rfl, ?_⟩) (by assumption) ?_
  rotate_left
  · intro wS hSw
    (try dsimp only at hSw)
    go_simp
    (try with_reducible rfl)
  refine wpAnyH_take (i := 1) (v := ?_) rfl (by kernel_rfl) (by kernel_rfl) (by kernel_rfl) (fun _ _ _ h => h) (Or.inl ⟨by rfl, ?_⟩) (by assumption) ?_
  rotate_left
  · intro wS hSw
    (try dsimp only at hSw)
    go_simp
    (try with_reducible rfl)
  refine wpAnyH_take (i := 2) (v := ?_) rfl (by kernel_rfl) (by kernel_rfl) (by kernel_rfl) (fun _ _ _ h => h) (Or.inl ⟨by rfl, ?_⟩) (by assumption) ?_
  rotate_left
  · intro wS hSw
    (try dsimp only at hSw)
    go_simp
    (try with_reducible rfl)
  refine wpAnyH_take (i := 3) (v := ?_) rfl (by kernel_rfl) (by kernel_rfl) (by kernel_rfl) (fun _ _ _ h => h) (Or.inl ⟨by rfl, ?_⟩) (by assumption) ?_
  rotate_left
  · intro wS hSw
    (try dsimp only at hSw)
    go_simp
    (try with_reducible rfl)
  refine wpAnyH_take (i := 4) (v := ?_) rfl (by kernel_rfl) (by kernel_rfl) (by kernel_rfl) (fun _ _ _ h => h) (Or.inl ⟨by rfl, ?_⟩) (by assumption) ?_
  rotate_left
  · intro wS hSw
    (try dsimp only at hSw)
    go_simp
    (try with_reducible rfl)
  refine wpAnyH_take (i := 5) (v := ?_) rfl (by kernel_rfl) (by kernel_rfl) (by kernel_rfl) (fun _ _ _ h => h) (Or.inl ⟨by rfl, ?_⟩) (by assumption) ?_
  rotate_left
  · intro wS hSw
    (try dsimp only at hSw)
    go_simp
    (try with_reducible rfl)
  refine wpAnyH_take (i := 6) (v := ?_) rfl (by kernel_rfl) (by kernel_rfl) (by kernel_rfl) (fun _ _ _ h => h) (Or.inl ⟨by rfl, ?_⟩) (by assumption) ?_
  rotate_left
  · intro wS hSw
    (try dsimp only at hSw)
    go_simp
    (try with_reducible rfl)
  refine wpAnyH_take (i := 7) (v := ?_) rfl (by kernel_rfl) (by kernel_rfl) (by kernel_rfl) (fun _ _ _ h => h) (Or.inl ⟨by rfl, ?_⟩) (by assumption) ?_
  rotate_left
  · intro wS hSw
    (try dsimp only at hSw)
    go_simp
    (try with_reducible rfl)
  refine wpAnyH_take (i := 8) (v := ?_) rfl (by kernel_rfl) (by kernel_rfl) (by kernel_rfl) (fun _ _ _ h => h) (Or.inl ⟨by rfl, ?_⟩) (by assumption) ?_
  rotate_left
  · intro wS hSw
    (try dsimp only at hSw)
    go_simp
    (try with_reducible rfl)
  refine wpAnyH_take (i := 9) (v := ?_) rfl (by kernel_rfl) (by kernel_rfl) (by kernel_rfl) (fun _ _ _ h => h) (Or.inl ⟨by rfl, ?_⟩) (by assumption) ?_
  rotate_left
  · intro wS hSw
    (try dsimp only at hSw)
    go_simp
    (try with_reducible rfl)
  refine wpAnyH_take (i := 10) (v := ?_) rfl (by kernel_rfl) (by kernel_rfl) (by kernel_rfl) (fun _ _ _ h => h) (Or.inl ⟨by rfl, ?_⟩) (by assumption) ?_
  rotate_left
  · intro wS hSw
    (try dsimp only at hSw)
    go_simp
    (try with_reducible rfl)
  refine wpAnyH_take (i := 11) (v := ?_) rfl (by kernel_rfl) (by kernel_rfl) (by kernel_rfl) (fun _ _ _ h => h) (Or.inl ⟨by rfl, ?_⟩) (by assumption) ?_
  rotate_left
  · intro wS hSw
    (try dsimp only at hSw)
    go_simp
    (try with_reducible rfl)
  refine wpAnyH_done (by kernel_rfl) ?_ _
  go_wp2_with fail
  refine HT.out.mono ?_
  rintro e W2 ⟨rfl, hW2⟩
  rw [hW2]
  go_wp2
  exact ret_4 rfl rfl rfl rfl rfl rfl ⟨rfl, hkw.drew⟩
end Go.Proofs.Ytehcfahfbdphpaa
namespace Go.Proofs.Ytehcfahfbdphpaa
open Go.RowKit Go.Shelf

/-- Whether two say the same. -/
def sameS (S S' : SS) : Bool := decide (S.os = S'.os) && decide (S.cs = S'.cs) && decide (S.qs = S'.qs)
set_option maxRecDepth 100000 in
set_option maxHeartbeats 1000000 in
theorem same_ss {W : World} {p q : Nat} {S S' : SS} (h : PrV W p true S) (h' : PrV W q true S') :
    Calls Try.prog 27 #[.pointer (some ⟨p, 0, none⟩), .pointer (some ⟨q, 0, none⟩)] W fun e W' => e = .returned (.bool (sameS S S')) ∧ Kept noX W W' := by
  have HP := Lib.hid (fun w' (hk : Kept noX W w') => psame_any (h.keep hk) (h'.keep hk))
  have hr : (((true : Bool) == true) && decide (S.os = S'.os) && decide (S.cs = S'.cs) && decide (S.qs = S'.qs)) = sameS S S' := by simp [sameS]
  rw [hr] at HP
  generalize sameS S S' = r at HP ⊢
  clear h h' hr
  go_enter Try.func27, Try.ntmps27
  go_wp2_with fail
  refine (whole_p p _).mono ?_
  rintro e W0 ⟨rfl, rfl⟩
  go_wp2_with fail
  refine (whole_p q _).mono ?_
  rintro e W0 ⟨rfl, rfl⟩
  go_wp2_with fail
  refine (HP.out _ (Kept.refl _ _)).mono ?_
  rintro e W1 ⟨rfl, hk1⟩
  go_wp2
  go_ret
  exact ⟨rfl, hk1⟩
set_option maxRecDepth 100000 in
set_option maxHeartbeats 1000000 in
theorem same_sn {W : World} {p : Nat} {S : SS} (h : PrV W p true S) :
    Calls Try.prog 27 #[.pointer (some ⟨p, 0, none⟩), .pointer none] W fun e W' => e = .returned (.bool false) ∧ Kept noX W W' := by
  have HP := Lib.hid (fun w' q (hk : Kept noX W w') h' => psame_any (q := q) (mk' := false) (S' := ⟨[], [], []⟩) (h.keep hk) h')
  have hr : ((true == false) && decide (S.os = []) && decide (S.cs = []) && decide (S.qs = [])) = false := rfl
  simp only [hr] at HP
  clear h hr
  go_enter Try.func27, Try.ntmps27
  go_wp2_with fail
  refine (whole_p p _).mono ?_
  rintro e W0 ⟨rfl, rfl⟩
  go_wp2_with fail
  refine (whole_nil _).mono ?_
  rintro e W1 ⟨rfl, hW1⟩
  have hk1 : Kept noX W W1 := hW1 ▸ (Kept.refl noX W).alloc _
  have hv : PrV W1 W.heap.size false ⟨[], [], []⟩ := prv_nil (hW1 ▸ Cells.fresh W 76 _)
  clear hW1
  go_wp2_with fail
  refine (HP.out _ _ hk1 hv).mono ?_
  rintro e W2 ⟨rfl, hk2⟩
  go_wp2
  go_ret
  exact ⟨rfl, hk1.trans hk2⟩
set_option maxRecDepth 100000 in
set_option maxHeartbeats 1000000 in
theorem same_ns {W : World} {p : Nat} {S : SS} (h : PrV W p true S) :
    Calls Try.prog 27 #[.pointer none, .pointer (some ⟨p, 0, none⟩)] W fun e W' => e = .returned (.bool false) ∧ Kept noX W W' := by
  have HP := Lib.hid (fun w' q (hk : Kept noX W w') h' => psame_any (p := q) (mk := false) (S := ⟨[], [], []⟩) h' (h.keep hk))
  have hr : ((false == true) && decide ([] = S.os) && decide ([] = S.cs) && decide ([] = S.qs)) = false := rfl
  simp only [hr] at HP
  clear h hr
  go_enter Try.func27, Try.ntmps27
  go_wp2_with fail
  refine (whole_nil _).mono ?_
  rintro e W1 ⟨rfl, hW1⟩
  have hk1 : Kept noX W W1 := hW1 ▸ (Kept.refl noX W).alloc _
  have hv : PrV W1 W.heap.size false ⟨[], [], []⟩ := prv_nil (hW1 ▸ Cells.fresh W 76 _)
  clear hW1
  go_wp2_with fail
  refine (whole_p p _).mono ?_
  rintro e W0 ⟨rfl, rfl⟩
  go_wp2_with fail
  refine (HP.out _ _ hk1 hv).mono ?_
  rintro e W2 ⟨rfl, hk2⟩
  go_wp2
  go_ret
  exact ⟨rfl, hk1.trans hk2⟩
set_option maxRecDepth 100000 in
set_option maxHeartbeats 1000000 in
theorem same_nn (W : World) : Calls Try.prog 27 #[.pointer none, .pointer none] W fun e W' => e = .returned (.bool true) ∧ Kept noX W W' := by
  have HP := Lib.hid (fun w' p q h h' => psame_any (W := w') (p := p) (q := q) (mk := false) (S := ⟨[], [], []⟩) (mk' := false) (S' := ⟨[], [], []⟩) h h')
  simp only at HP
  go_enter Try.func27, Try.ntmps27
  go_wp2_with fail
  refine (whole_nil _).mono ?_
  rintro e W1 ⟨rfl, hW1⟩
  have hk1 : Kept noX W W1 := hW1 ▸ (Kept.refl noX W).alloc _
  have hv : PrV W1 W.heap.size false ⟨[], [], []⟩ := prv_nil (hW1 ▸ Cells.fresh W 76 _)
  clear hW1
  go_wp2_with fail
  refine (whole_nil _).mono ?_
  rintro e W2 ⟨rfl, hW2⟩
  have hk2 : Kept noX W1 W2 := hW2 ▸ (Kept.refl noX W1).alloc _
  have hv2 : PrV W2 W1.heap.size false ⟨[], [], []⟩ := prv_nil (hW2 ▸ Cells.fresh W1 76 _)
  clear hW2
  go_wp2_with fail
  refine (HP.out _ _ _ (hv.keep hk2) hv2).mono ?_
  rintro e W3 ⟨rfl, hk3⟩
  go_wp2
  go_ret
  exact ⟨rfl, (hk1.trans hk2).trans hk3⟩
set_option maxRecDepth 100000 in
set_option maxHeartbeats 1000000 in
theorem copy_nil (W : World) : Calls Try.prog 26 #[.pointer none] W fun e W' => e = .returned (.pointer none) ∧ Kept noX W W' := by
  go_enter Try.func26, Try.ntmps26
  go_wp2_with fail
  refine (whole_nil _).mono ?_
  rintro e W1 ⟨rfl, hW1⟩
  have hk1 : Kept noX W W1 := hW1 ▸ (Kept.refl noX W).alloc _
  have c0 := (show Cells W1 W.heap.size 76 [.bool false, .slice none 0 0, .slice none 0 0, .slice none 0 0] from hW1 ▸ Cells.fresh W 76 _).cell 0
  simp only [List.getElem?_cons_zero] at c0
  clear hW1
  go_wp2
  go_ret
  exact ⟨rfl, hk1⟩
end Go.Proofs.Ytehcfahfbdphpaa
namespace Go.Proofs.Ytehcfahfbdphpaa
open Go.RowKit Go.Shelf
set_option maxRecDepth 100000 in
set_option maxHeartbeats 1000000 in
theorem zints_any (xs ys : List Int) (A B : Option Addr) (ca cb : Nat) (hlen : xs.length ≤ 9223372036854775806) (w : World) (ha : IxAt w A xs) (hb : IxAt w B ys) :
    Calls Try.prog 65 #[.slice A xs.length ca, .slice B ys.length cb] w fun e w' => e = .returned (.bool (decide (xs = ys))) ∧ Kept noX w w' := by
  by_cases hl : xs.length = ys.length
  · have HA := Lib.hid ha
    have HB := Lib.hid hb
    have HY := Lib.hid (fun (k : Nat) (h1 : k < xs.length) (h2 : k < ys.length) (h : xs[k] ≠ ys[k]) => (show decide (xs = ys) = false by simp only [decide_eq_false_iff_not]; intro e; subst e; exact h rfl))
    have HZ := Lib.hid (fun (h : ∀ j, j < xs.length → xs[j]? = ys[j]?) => (show decide (xs = ys) = true by simp only [decide_eq_true_eq]; exact same_all hl h))
    generalize decide (xs = ys) = r at HY HZ ⊢
    have HL := Lib.hid hl
    clear ha hb
    rw [← hl]
    clear hl
    go_enter Try.func65, Try.ntmps65
    go_wp2
    go_loopw [5] (fun i wr => ∃ k : Nat, k ≤ xs.length ∧ i = .int .i64 k ∧ (∀ j, j < k → xs[j]? = ys[j]?) ∧ Kept noX w wr) (fun i _ => xs.length - (intOf i).toNat)
    case atStart => exact ⟨0, Nat.zero_le _, rfl, fun j hj => by omega, Kept.refl _ _⟩
    case round =>
      obtain ⟨k, hk, rfl, hall, hkr⟩ := hrel
      have HJ := Lib.hid hall
      clear hall
      by_cases hlt : k < xs.length
      · have hdl : decide ((k : Int) < (xs.length : Int)) = true := by simpa using hlt
        have hlt2 : k < ys.length := by rw [← HL.out]; exact hlt
        obtain ⟨b1, o1, rfl, hc1⟩ := HA.out k hlt
        obtain ⟨b2, o2, rfl, hc2⟩ := HB.out k hlt2
        have p1 := hkr.cell hc1
        have p2 := hkr.cell hc2
        have HN := Lib.hid (fun h : xs[k] = ys[k] => (fun j (hj : j < k + 1) => (by
          rcases Nat.lt_or_ge j k with h' | h'
          · exact HJ.out j h'
          · obtain rfl : j = k := by omega
            rw [List.getElem?_eq_getElem hlt, List.getElem?_eq_getElem hlt2, h] : xs[j]? = ys[j]?)))
        have HYk := Lib.hid (HY.out k hlt hlt2)
        generalize xs[k] = x at *
        generalize ys[k] = y at *
        clear hc1 hc2 HY HZ HJ
        by_cases hxy : x = y
        · subst hxy
          go_wp2_with fail
          refine wp_region_held_drew (S := (fun w' => w'.cell? ⟨b1, o1 + k, none⟩ = some (.int .i64 x) ∧ w'.cell? ⟨b2, o2 + k, none⟩ = some (.int .i64 x))) (by kernel_rfl) ⟨p1, p2⟩ (fun hHeld => ?_)
          refine wpAnyH_take (i := 0) (v := ?_) rfl (by kernel_rfl) (by kernel_rfl) (by kernel_rfl) (fun _ _ _ h => h) (Or.inl ⟨by rfl, ?_⟩) (by assumption) ?_
          rotate_left
          · intro wS hSw
            (try dsimp only at hSw)
            go_simp
            (try with_reducible rfl)
          refine wpAnyH_take (i := 1) (v := ?_) rfl (by kernel_rfl) (by kernel_rfl) (by kernel_rfl) (fun _ _ _ h => h) (Or.inl ⟨by rfl, ?_⟩) (by assumption) ?_
          rotate_left
          · intro wS hSw
            (try dsimp only at hSw)
            go_simp
            (try with_reducible rfl)
          refine wpAnyH_take (i := 2) (v := ?_) rfl (by kernel_rfl) (by kernel_rfl) (by kernel_rfl) (fun _ _ _ h => h) (Or.inl ⟨by rfl, ?_⟩) (by assumption) ?_
          rotate_left
          · intro wS hSw
            (try dsimp only at hSw)
            go_simp
            (try with_reducible rfl)
          refine wpAnyH_take (i := 3) (v := ?_) rfl (by kernel_rfl) (by kernel_rfl) (by kernel_rfl) (fun _ _ _ h => h) (Or.inl ⟨by rfl, ?_⟩) (by assumption) ?_
          rotate_left
          · intro wS hSw
            (try dsimp only at hSw)
            go_simp
            (try with_reducible rfl)
          refine wpAnyH_take (i := 4) (v := ?_) rfl (by kernel_rfl) (by kernel_rfl) (by kernel_rfl) (fun _ _ _ h => h) (Or.inl ⟨by rfl, ?_⟩) (by assumption) ?_
          rotate_left
          · intro wS hSw
            (try dsimp only at hSw)
            go_simp
            (try with_reducible rfl)
          (try simp only [Act.put, List.getElem_toArray, List.getElem_cons_succ, List.getElem_cons_zero, List.setIfInBounds_toArray, List.set_cons_zero, List.set_cons_succ])
          refine wpAnyH_take (i := 5) (v := ?_) rfl (by kernel_rfl) (by kernel_rfl) (by kernel_rfl) (fun _ _ _ h => h) (Or.inl ⟨by rfl, ?_⟩) (by assumption) ?_
          rotate_left
          · intro wS hSw
            (try dsimp only at hSw)
            go_simp
            (try with_reducible rfl)
          refine wpAnyH_take (i := 6) (v := ?_) rfl (by kernel_rfl) (by kernel_rfl) (by kernel_rfl) (fun _ _ _ h => h) (Or.inl ⟨by rfl, ?_⟩) (by assumption) ?_
          rotate_left
          · intro wS hSw
            (try dsimp only at hSw)
            go_simp
            (try with_reducible rfl)
          refine wpAnyH_take (i := 7) (v := ?_) rfl (by kernel_rfl) (by kernel_rfl) (by kernel_rfl) (fun _ _ _ h => h) (Or.inl ⟨by rfl, ?_⟩) (by assumption) ?_
          rotate_left
          · intro wS hSw
            (try dsimp only at hSw)
            go_simp
            (try with_reducible rfl)
          refine wpAnyH_take (i := 8) (v := ?_) rfl (by kernel_rfl) (by kernel_rfl) (by kernel_rfl) (fun _ _ _ h => h) (Or.inl ⟨by rfl, ?_⟩) (by assumption) ?_
          rotate_left
          · intro wS hSw
            (try dsimp only at hSw)
            go_simp
            (try with_reducible rfl)
          refine wpAnyH_done (by kernel_rfl) ?_ _
          (try simp only [Act.put, List.getElem_toArray, List.getElem_cons_succ, List.getElem_cons_zero, List.setIfInBounds_toArray, List.set_cons_zero, List.set_cons_succ])
          go_wp2
          go_roundw
          case rel => exact ⟨k + 1, hlt, by go_num, HN.out (by first | exact rfl | trivial), hkr.drew⟩
          case measure => simp [intOf]; omega
        · have hne : (x == y) = false := by simpa using hxy
          have hnd : decide (x = y) = false := by simpa using hxy
          go_wp2_with fail
          refine wp_region_held_drew (S := (fun w' => w'.cell? ⟨b1, o1 + k, none⟩ = some (.int .i64 x) ∧ w'.cell? ⟨b2, o2 + k, none⟩ = some (.int .i64 y))) (by kernel_rfl) ⟨p1, p2⟩ (fun hHeld => ?_)
          refine wpAnyH_take (i := 0) (v := ?_) rfl (by kernel_rfl) (by kernel_rfl) (by kernel_rfl) (fun _ _ _ h => h) (Or.inl ⟨by rfl, ?_⟩) (by assumption) ?_
          rotate_left
          · intro wS hSw
            (try dsimp only at hSw)
            go_simp
            (try with_reducible rfl)
          refine wpAnyH_take (i := 1) (v := ?_) rfl (by kernel_rfl) (by kernel_rfl) (by kernel_rfl) (fun _ _ _ h => h) (Or.inl ⟨by rfl, ?_⟩) (by assumption) ?_
          rotate_left
          · intro wS hSw
            (try dsimp only at hSw)
            go_simp
            (try with_reducible rfl)
          refine wpAnyH_take (i := 2) (v := ?_) rfl (by kernel_rfl) (by kernel_rfl) (by kernel_rfl) (fun _ _ _ h => h) (Or.inl ⟨by rfl, ?_⟩) (by assumption) ?_
          rotate_left
          · intro wS hSw
            (try dsimp only at hSw)
            go_simp
            (try with_reducible rfl)
          refine wpAnyH_take (i := 3) (v := ?_) rfl (by kernel_rfl) (by kernel_rfl) (by kernel_rfl) (fun _ _ _ h => h) (Or.inl ⟨by rfl, ?_⟩) (by assumption) ?_
          rotate_left
          · intro wS hSw
            (try dsimp only at hSw)
            go_simp
            (try with_reducible rfl)
          refine wpAnyH_take (i := 4) (v := ?_) rfl (by kernel_rfl) (by kernel_rfl) (by kernel_rfl) (fun _ _ _ h => h) (Or.inl ⟨by rfl, ?_⟩) (by assumption) ?_
          rotate_left
          · intro wS hSw
            (try dsimp only at hSw)
            go_simp
            (try with_reducible rfl)
          (try simp only [Act.put, List.getElem_toArray, List.getElem_cons_succ, List.getElem_cons_zero, List.setIfInBounds_toArray, List.set_cons_zero, List.set_cons_succ])
          refine wpAnyH_take (i := 5) (v := ?_) rfl (by kernel_rfl) (by kernel_rfl) (by kernel_rfl) (fun _ _ _ h => h) (Or.inl ⟨by rfl, ?_⟩) (by assumption) ?_
          rotate_left
          · intro wS hSw
            (try dsimp only at hSw)
            go_simp
            (try with_reducible rfl)
          refine wpAnyH_take (i := 6) (v := ?_) rfl (by kernel_rfl) (by kernel_rfl) (by kernel_rfl) (fun _ _ _ h => h) (Or.inl ⟨by rfl, ?_⟩) (by assumption) ?_
          rotate_left
          · intro wS hSw
            (try dsimp only at hSw)
            go_simp
            (try with_reducible rfl)
          refine wpAnyH_take (i := 7) (v := ?_) rfl (by kernel_rfl) (by kernel_rfl) (by kernel_rfl) (fun _ _ _ h => h) (Or.inl ⟨by rfl, ?_⟩) (by assumption) ?_
          rotate_left
          · intro wS hSw
            (try dsimp only at hSw)
            go_simp
            (try with_reducible rfl)
          refine wpAnyH_take (i := 8) (v := ?_) rfl (by kernel_rfl) (by kernel_rfl) (by kernel_rfl) (fun _ _ _ h => h) (Or.inl ⟨by rfl, ?_⟩) (by assumption) ?_
          rotate_left
          · intro wS hSw
            (try dsimp only at hSw)
            go_simp
            (try with_reducible rfl)
          refine wpAnyH_done (by kernel_rfl) ?_ _
          (try simp only [Act.put, List.getElem_toArray, List.getElem_cons_succ, List.getElem_cons_zero, List.setIfInBounds_toArray, List.set_cons_zero, List.set_cons_succ])
          go_wp2
          go_ret
          exact ⟨by rw [HYk.out hxy]; rfl, hkr.drew⟩
      · have hdl : decide ((k : Int) < (xs.length : Int)) = false := by simpa using hlt
        have hr : r = true := HZ.out (fun j hj => HJ.out j (by omega))
        clear HY HZ HJ
        go_wp2
        go_ret
        exact ⟨by rw [hr]; rfl, hkr⟩
  · have hd : decide ((xs.length : Int) = (ys.length : Int)) = false := by simp; omega
    have hr : decide (xs = ys) = false := by simp only [decide_eq_false_iff_not]; intro e; exact hl (by rw [e])
    rw [hr]
    clear ha hb hr
    go_enter Try.func65, Try.ntmps65
    go_wp2
    go_ret
    exact ⟨rfl, Kept.refl _ _⟩
set_option maxRecDepth 100000 in
set_option maxHeartbeats 1000000 in
theorem zvals_any (xs ys : List Int) (A B : Option Addr) (ca cb : Nat) (hlen : xs.length ≤ 9223372036854775806) (w : World) (ha : IxAt w A xs) (hb : IxAt w B ys) :
    Calls Try.prog 66 #[.slice A xs.length ca, .slice B ys.length cb] w fun e w' => e = .returned (.bool (decide (xs = ys))) ∧ Kept noX w w' := by
  by_cases hl : xs.length = ys.length
  · have HA := Lib.hid ha
    have HB := Lib.hid hb
    have HY := Lib.hid (fun (k : Nat) (h1 : k < xs.length) (h2 : k < ys.length) (h : xs[k] ≠ ys[k]) => (show decide (xs = ys) = false by simp only [decide_eq_false_iff_not]; intro e; subst e; exact h rfl))
    have HZ := Lib.hid (fun (h : ∀ j, j < xs.length → xs[j]? = ys[j]?) => (show decide (xs = ys) = true by simp only [decide_eq_true_eq]; exact same_all hl h))
    generalize decide (xs = ys) = r at HY HZ ⊢
    have HL := Lib.hid hl
    clear ha hb
    rw [← hl]
    clear hl
    go_enter Try.func66, Try.ntmps66
    go_wp2
    go_loopw [5] (fun i wr => ∃ k : Nat, k ≤ xs.length ∧ i = .int .i64 k ∧ (∀ j, j < k → xs[j]? = ys[j]?) ∧ Kept noX w wr) (fun i _ => xs.length - (intOf i).toNat)
    case atStart => exact ⟨0, Nat.zero_le _, rfl, fun j hj => by omega, Kept.refl _ _⟩
    case round =>
      obtain ⟨k, hk, rfl, hall, hkr⟩ := hrel
      have HJ := Lib.hid hall
      clear hall
      by_cases hlt : k < xs.length
      · have hdl : decide ((k : Int) < (xs.length : Int)) = true := by simpa using hlt
        have hlt2 : k < ys.length := by rw [← HL.out]; exact hlt
        obtain ⟨b1, o1, rfl, hc1⟩ := HA.out k hlt
        obtain ⟨b2, o2, rfl, hc2⟩ := HB.out k hlt2
        have p1 := hkr.cell hc1
        have p2 := hkr.cell hc2
        have HN := Lib.hid (fun h : xs[k] = ys[k] => (fun j (hj : j < k + 1) => (by
          rcases Nat.lt_or_ge j k with h' | h'
          · exact HJ.out j h'
          · obtain rfl : j = k := by omega
            rw [List.getElem?_eq_getElem hlt, List.getElem?_eq_getElem hlt2, h] : xs[j]? = ys[j]?)))
        have HYk := Lib.hid (HY.out k hlt hlt2)
        generalize xs[k] = x at *
        generalize ys[k] = y at *
        clear hc1 hc2 HY HZ HJ
        by_cases hxy : x = y
        · subst hxy
          go_wp2_with fail
          refine wp_region_held_drew (S := (fun w' => w'.cell? ⟨b1, o1 + k, none⟩ = some (.int .i64 x) ∧ w'.cell? ⟨b2, o2 + k, none⟩ = some (.int .i64 x))) (by kernel_rfl) ⟨p1, p2⟩ (fun hHeld => ?_)
          refine wpAnyH_take (i := 0) (v := ?_) rfl (by kernel_rfl) (by kernel_rfl) (by kernel_rfl) (fun _ _ _ h => h) (Or.inl ⟨by rfl, ?_⟩) (by assumption) ?_
          rotate_left
          · intro wS hSw
            (try dsimp only at hSw)
            go_simp
            (try with_reducible rfl)
          refine wpAnyH_take (i := 1) (v := ?_) rfl (by kernel_rfl) (by kernel_rfl) (by kernel_rfl) (fun _ _ _ h => h) (Or.inl ⟨by rfl, ?_⟩) (by assumption) ?_
          rotate_left
          · intro wS hSw
            (try dsimp only at hSw)
            go_simp
            (try with_reducible rfl)
          refine wpAnyH_take (i := 2) (v := ?_) rfl (by kernel_rfl) (by kernel_rfl) (by kernel_rfl) (fun _ _ _ h => h) (Or.inl ⟨by rfl, ?_⟩) (by assumption) ?_
          rotate_left
          · intro wS hSw
            (try dsimp only at hSw)
            go_simp
            (try with_reducible rfl)
          refine wpAnyH_take (i := 3) (v := ?_) rfl (by kernel_rfl) (by kernel_rfl) (by kernel_rfl) (fun _ _ _ h => h) (Or.inl ⟨by rfl, ?_⟩) (by assumption) ?_
          rotate_left
          · intro wS hSw
            (try dsimp only at hSw)
            go_simp
            (try with_reducible rfl)
          refine wpAnyH_take (i := 4) (v := ?_) rfl (by kernel_rfl) (by kernel_rfl) (by kernel_rfl) (fun _ _ _ h => h) (Or.inl ⟨by rfl, ?_⟩) (by assumption) ?_
          rotate_left
          · intro wS hSw
            (try dsimp only at hSw)
            go_simp
            (try with_reducible rfl)
          (try simp only [Act.put, List.getElem_toArray, List.getElem_cons_succ, List.getElem_cons_zero, List.setIfInBounds_toArray, List.set_cons_zero, List.set_cons_succ])
          refine wpAnyH_take (i := 5) (v := ?_) rfl (by kernel_rfl) (by kernel_rfl) (by kernel_rfl) (fun _ _ _ h => h) (Or.inl ⟨by rfl, ?_⟩) (by assumption) ?_
          rotate_left
          · intro wS hSw
            (try dsimp only at hSw)
            go_simp
            (try with_reducible rfl)
          refine wpAnyH_take (i := 6) (v := ?_) rfl (by kernel_rfl) (by kernel_rfl) (by kernel_rfl) (fun _ _ _ h => h) (Or.inl ⟨by rfl, ?_⟩) (by assumption) ?_
          rotate_left
          · intro wS hSw
            (try dsimp only at hSw)
            go_simp
            (try with_reducible rfl)
          refine wpAnyH_take (i := 7) (v := ?_) rfl (by kernel_rfl) (by kernel_rfl) (by kernel_rfl) (fun _ _ _ h => h) (Or.inl ⟨by rfl, ?_⟩) (by assumption) ?_
          rotate_left
          · intro wS hSw
            (try dsimp only at hSw)
            go_simp
            (try with_reducible rfl)
          refine wpAnyH_take (i := 8) (v := ?_) rfl (by kernel_rfl) (by kernel_rfl) (by kernel_rfl) (fun _ _ _ h => h) (Or.inl ⟨by rfl, ?_⟩) (by assumption) ?_
          rotate_left
          · intro wS hSw
            (try dsimp only at hSw)
            go_simp
            (try with_reducible rfl)
          refine wpAnyH_done (by kernel_rfl) ?_ _
          (try simp only [Act.put, List.getElem_toArray, List.getElem_cons_succ, List.getElem_cons_zero, List.setIfInBounds_toArray, List.set_cons_zero, List.set_cons_succ])
          go_wp2
          go_roundw
          case rel => exact ⟨k + 1, hlt, by go_num, HN.out (by first | exact rfl | trivial), hkr.drew⟩
          case measure => simp [intOf]; omega
        · have hne : (x == y) = false := by simpa using hxy
          have hnd : decide (x = y) = false := by simpa using hxy
          go_wp2_with fail
          refine wp_region_held_drew (S := (fun w' => w'.cell? ⟨b1, o1 + k, none⟩ = some (.int .i64 x) ∧ w'.cell? ⟨b2, o2 + k, none⟩ = some (.int .i64 y))) (by kernel_rfl) ⟨p1, p2⟩ (fun hHeld => ?_)
          refine wpAnyH_take (i := 0) (v := ?_) rfl (by kernel_rfl) (by kernel_rfl) (by kernel_rfl) (fun _ _ _ h => h) (Or.inl ⟨by rfl, ?_⟩) (by assumption) ?_
          rotate_left
          · intro wS hSw
            (try dsimp only at hSw)
            go_simp
            (try with_reducible rfl)
          refine wpAnyH_take (i := 1) (v := ?_) rfl (by kernel_rfl) (by kernel_rfl) (by kernel_rfl) (fun _ _ _ h => h) (Or.inl ⟨by rfl, ?_⟩) (by assumption) ?_
          rotate_left
          · intro wS hSw
            (try dsimp only at hSw)
            go_simp
            (try with_reducible rfl)
          refine wpAnyH_take (i := 2) (v := ?_) rfl (by kernel_rfl) (by kernel_rfl) (by kernel_rfl) (fun _ _ _ h => h) (Or.inl ⟨by rfl, ?_⟩) (by assumption) ?_
          rotate_left
          · intro wS hSw
            (try dsimp only at hSw)
            go_simp
            (try with_reducible rfl)
          refine wpAnyH_take (i := 3) (v := ?_) rfl (by kernel_rfl) (by kernel_rfl) (by kernel_rfl) (fun _ _ _ h => h) (Or.inl ⟨by rfl, ?_⟩) (by assumption) ?_
          rotate_left
          · intro wS hSw
            (try dsimp only at hSw)
            go_simp
            (try with_reducible rfl)
          refine wpAnyH_take (i := 4) (v := ?_) rfl (by kernel_rfl) (by kernel_rfl) (by kernel_rfl) (fun _ _ _ h => h) (Or.inl ⟨by rfl, ?_⟩) (by assumption) ?_
          rotate_left
          · intro wS hSw
            (try dsimp only at hSw)
            go_simp
            (try with_reducible rfl)
          (try simp only [Act.put, List.getElem_toArray, List.getElem_cons_succ, List.getElem_cons_zero, List.setIfInBounds_toArray, List.set_cons_zero, List.set_cons_succ])
          refine wpAnyH_take (i := 5) (v := ?_) rfl (by kernel_rfl) (by kernel_rfl) (by kernel_rfl) (fun _ _ _ h => h) (Or.inl ⟨by rfl, ?_⟩) (by assumption) ?_
          rotate_left
          · intro wS hSw
            (try dsimp only at hSw)
            go_simp
            (try with_reducible rfl)
          refine wpAnyH_take (i := 6) (v := ?_) rfl (by kernel_rfl) (by kernel_rfl) (by kernel_rfl) (fun _ _ _ h => h) (Or.inl ⟨by rfl, ?_⟩) (by assumption) ?_
          rotate_left
          · intro wS hSw
            (try dsimp only at hSw)
            go_simp
            (try with_reducible rfl)
          refine wpAnyH_take (i := 7) (v := ?_) rfl (by kernel_rfl) (by kernel_rfl) (by kernel_rfl) (fun _ _ _ h => h) (Or.inl ⟨by rfl, ?_⟩) (by assumption) ?_
          rotate_left
          · intro wS hSw
            (try dsimp only at hSw)
            go_simp
            (try with_reducible rfl)
          refine wpAnyH_take (i := 8) (v := ?_) rfl (by kernel_rfl) (by kernel_rfl) (by kernel_rfl) (fun _ _ _ h => h) (Or.inl ⟨by rfl, ?_⟩) (by assumption) ?_
          rotate_left
          · intro wS hSw
            (try dsimp only at hSw)
            go_simp
            (try with_reducible rfl)
          refine wpAnyH_done (by kernel_rfl) ?_ _
          (try simp only [Act.put, List.getElem_toArray, List.getElem_cons_succ, List.getElem_cons_zero, List.setIfInBounds_toArray, List.set_cons_zero, List.set_cons_succ])
          go_wp2
          go_ret
          exact ⟨by rw [HYk.out hxy]; rfl, hkr.drew⟩
      · have hdl : decide ((k : Int) < (xs.length : Int)) = false := by simpa using hlt
        have hr : r = true := HZ.out (fun j hj => HJ.out j (by omega))
        clear HY HZ HJ
        go_wp2
        go_ret
        exact ⟨by rw [hr]; rfl, hkr⟩
  · have hd : decide ((xs.length : Int) = (ys.length : Int)) = false := by simp; omega
    have hr : decide (xs = ys) = false := by simp only [decide_eq_false_iff_not]; intro e; exact hl (by rw [e])
    rw [hr]
    clear ha hb hr
    go_enter Try.func66, Try.ntmps66
    go_wp2
    go_ret
    exact ⟨rfl, Kept.refl _ _⟩
/-- Of one channel: the same values are left, as many were sent. -/
def sameV (R R' : RS) (q : Nat) : Prop := (R.st.getD q []).drop (R.tk.getD q 0) = (R'.st.getD q []).drop (R'.tk.getD q 0) ∧ (R.st.getD q []).length = (R'.st.getD q []).length
/-- Whether two of the document's states say the same, by definition. -/
def SameR (R R' : RS) : Prop := R.ow = R'.ow ∧ R.cs = R'.cs ∧ R.rm = R'.rm ∧ ∀ q, q < R.rm.length → sameV R R' q
structure ZOk (R : RS) : Prop where
  sz : R.ow.length ≤ 64 ∧ R.cs.length ≤ 64 ∧ R.rm.length ≤ 64 ∧ R.st.length = R.rm.length ∧ R.tk.length = R.rm.length
  cs : ∀ i (h : i < R.cs.length), R.cs[i].length ≤ 1000000000
  st : ∀ i (h : i < R.st.length), R.st[i].length ≤ 1000000000
  le : ∀ i (h : i < R.st.length) (h1 : i < R.tk.length), R.tk[i] ≤ R.st[i].length
def SmP (R R' : RS) (e : Ending) : Prop := ∃ b, e = .returned (.bool b) ∧ (b = true ↔ SameR R R')
theorem SmP.no {R R' : RS} {e : Ending} (he : e = .returned (.bool false)) (h : ¬ SameR R R') : SmP R R' e := ⟨false, he, by simp [h]⟩
theorem SmP.yes {R R' : RS} {e : Ending} (he : e = .returned (.bool true)) (h : SameR R R') : SmP R R' e := ⟨true, he, by simp [h]⟩
section
variable {W : World} {vs vs' : List Value} {R R' : RS} (h : RV W noX vs R) (h' : RV W noX vs' R')
include h h'
set_option maxRecDepth 100000 in
set_option maxHeartbeats 8000000 in
theorem zsame_any (hb : ZOk R) (hb' : ZOk R') : Calls Try.prog 33 #[.agg vs.toArray, .agg vs'.toArray] W fun e W' => SmP R R' e ∧ Kept noX W W' := by
  have HR := Lib.hid h
  have HR' := Lib.hid h'
  obtain ⟨v0, v1, v2, v3, v4, hvs, h0, h1, h2, h3, h4⟩ := h
  obtain ⟨w0, w1, w2, w3, w4, hws, g0, g1, g2, g3, g4⟩ := h'
  have H1 := Lib.hid h1
  have H3 := Lib.hid h3
  have G1 := Lib.hid g1
  have G3 := Lib.hid g3
  obtain ⟨A0, n0, c0, rfl, hn0, -⟩ := h0.form
  obtain ⟨A1, n1, c1, rfl, hn1, -⟩ := h1.form
  obtain ⟨A2, n2, c2, rfl, hn2, -⟩ := h2.form
  obtain ⟨A3, n3, c3, rfl, hn3, -⟩ := h3.form
  obtain ⟨A4, n4, c4, rfl, hn4, -⟩ := h4.form
  obtain ⟨B0, m0, d0, rfl, hm0, -⟩ := g0.form
  obtain ⟨B1, m1, d1, rfl, hm1, -⟩ := g1.form
  obtain ⟨B2, m2, d2, rfl, hm2, -⟩ := g2.form
  obtain ⟨B3, m3, d3, rfl, hm3, -⟩ := g3.form
  obtain ⟨B4, m4, d4, rfl, hm4, -⟩ := g4.form
  rw [List.length_map] at hn0 hn1 hn2 hn3 hn4 hm0 hm1 hm2 hm3 hm4
  subst hn0 hn1 hn2 hn3 hn4 hm0 hm1 hm2 hm3 hm4
  subst hvs hws
  have hl0 := hb.sz.1
  have hl1 := hb.sz.2.1
  have hl2 := hb.sz.2.2.1
  have hl2' := hb'.sz.2.2.1
  have HZ := Lib.hid hb
  have HZ' := Lib.hid hb'
  clear hb hb'
  obtain ⟨W0, hW0⟩ : ∃ W0, W0 = (W.alloc (.cells #[.slice A0 R.ow.length c0, .slice A1 R.cs.length c1, .slice A2 R.rm.length c2, .slice A3 R.st.length c3, .slice A4 R.tk.length c4] 33)).alloc (.cells #[.slice B0 R'.ow.length d0, .slice B1 R'.cs.length d1, .slice B2 R'.rm.length d2, .slice B3 R'.st.length d3, .slice B4 R'.tk.length d4] 33) := ⟨_, rfl⟩
  have HA : Hid (Cells W0 W.heap.size 33 [.slice A0 R.ow.length c0, .slice A1 R.cs.length c1, .slice A2 R.rm.length c2, .slice A3 R.st.length c3, .slice A4 R.tk.length c4]) := Lib.hid (hW0 ▸ (Cells.fresh W 33 _).alloc _)
  have HB : Hid (Cells W0 (W.heap.size + 1) 33 [.slice B0 R'.ow.length d0, .slice B1 R'.cs.length d1, .slice B2 R'.rm.length d2, .slice B3 R'.st.length d3, .slice B4 R'.tk.length d4]) := Lib.hid (hW0 ▸ cells_second W 33 _ _)
  have HK0 : Hid (Kept noX W W0) := Lib.hid (hW0 ▸ ((Kept.refl _ _).alloc _).alloc _)
  have a0 := HA.out.cell 0
  have a1 := HA.out.cell 1
  have a2 := HA.out.cell 2
  have b0 := HB.out.cell 0
  have b1 := HB.out.cell 1
  have b2 := HB.out.cell 2
  simp only [List.getElem?_cons_zero, List.getElem?_cons_succ] at a0 a1 a2 b0 b1 b2
  have HO := Lib.hid (fun W' (hk : Kept noX W W') => zints_any R.ow R'.ow A0 B0 c0 d0 (by omega) W' (IxAt.row (Rep.keep h0 hk)) (IxAt.row (Rep.keep g0 hk)))
  have HM := Lib.hid (fun W' (hk : Kept noX W W') => zints_any R.rm R'.rm A2 B2 c2 d2 (by omega) W' (IxAt.row (Rep.keep h2 hk)) (IxAt.row (Rep.keep g2 hk)))
  clear h0 h1 h2 h3 h4 g0 g1 g2 g3 g4
  have HS0 := Lib.hid (fun (hn : ¬ R.ow = R'.ow) (hs : SameR R R') => hn hs.1)
  have HS1 := Lib.hid (fun (hn : ¬ R.cs.length = R'.cs.length) (hs : SameR R R') => hn (by rw [hs.2.1]))
  have HS2 := Lib.hid (fun (hn : ¬ R.rm = R'.rm) (hs : SameR R R') => hn hs.2.2.1)
  by_cases e0 : R.ow = R'.ow
  rotate_left
  · have t0 : decide (R.ow = R'.ow) = false := by simpa using e0
    have hno := HS0.out e0
    rw [t0] at HO
    clear t0 e0 HS0 HS1 HS2 HM
    go_enter Try.func33, Try.ntmps33
    go_wp2_with fail
    rw [← hW0]
    clear hW0
    refine (HO.out _ HK0.out).mono ?_
    rintro e W1 ⟨rfl, hk1⟩
    go_wp2_with fail
    go_ret
    exact ⟨SmP.no rfl hno, HK0.out.trans hk1⟩
  have t0 : decide (R.ow = R'.ow) = true := by simpa using e0
  rw [t0] at HO
  by_cases e1 : R.cs.length = R'.cs.length
  rotate_left
  · have t1 : decide ((R.cs.length : Int) = (R'.cs.length : Int)) = false := by simp; omega
    have hno := HS1.out e1
    clear t0 e0 HS0 HS1 HS2 HM
    go_enter Try.func33, Try.ntmps33
    go_wp2_with fail
    rw [← hW0]
    clear hW0
    refine (HO.out _ HK0.out).mono ?_
    rintro e W1 ⟨rfl, hk1⟩
    have a1 := hk1.cell a1
    have b1 := hk1.cell b1
    go_wp2_with fail
    go_ret
    exact ⟨SmP.no rfl hno, HK0.out.trans hk1⟩
  rw [← e1] at hW0 HB b1 HR' ⊢
  by_cases e2 : R.rm = R'.rm
  rotate_left
  · have t2 : decide (R.rm = R'.rm) = false := by simpa using e2
    have hno := HS2.out e2
    rw [t2] at HM
    clear t0 e0 t2 e2 HS0 HS1 HS2 e1
    go_enter Try.func33, Try.ntmps33
    go_wp2_with fail
    rw [← hW0]
    clear hW0
    refine (HO.out _ HK0.out).mono ?_
    rintro e W1 ⟨rfl, hk1⟩
    have a1 := hk1.cell a1
    have b1 := hk1.cell b1
    have a2 := hk1.cell a2
    have b2 := hk1.cell b2
    go_wp2_with fail
    refine (HM.out _ (HK0.out.trans hk1)).mono ?_
    rintro e W2 ⟨rfl, hk2⟩
    go_wp2_with fail
    go_ret
    exact ⟨SmP.no rfl hno, (HK0.out.trans hk1).trans hk2⟩
  have t2 : decide (R.rm = R'.rm) = true := by simpa using e2
  rw [t2] at HM
  have HE := Lib.hid (And.intro e0 (And.intro e1 e2))
  clear HS0 HS1 HS2 t0 t2 e0 e1 e2
  go_enter Try.func33, Try.ntmps33
  go_wp2_with fail
  rw [← hW0]
  clear hW0
  refine (HO.out _ HK0.out).mono ?_
  rintro e W1 ⟨rfl, hk1⟩
  have a1 := hk1.cell a1
  have b1 := hk1.cell b1
  have a2 := hk1.cell a2
  have b2 := hk1.cell b2
  go_wp2_with fail
  refine (HM.out _ (HK0.out.trans hk1)).mono ?_
  rintro e W2 ⟨rfl, hk2⟩
  have hk2 := hk1.trans hk2
  have HK2 := Lib.hid (HK0.out.trans hk2)
  have HA2 := Lib.hid (HA.out.keep hk2)
  have HB2 := Lib.hid (HB.out.keep hk2)
  clear hk1 hk2 a0 a1 a2 b0 b1 b2 HO HM HA HB HK0
  have e1 := HE.out.2.1
  have mixed : Try.prog.follows .mixedOrders = true := by kernel_rfl
  have HCA := Lib.hid (fun (k : Nat) (h1 : k < R.cs.length) (h2 : k < R'.cs.length) (hn : R.cs[k] ≠ R'.cs[k]) (hs : SameR R R') => hn (by have := hs.2.1; simp only [this]))
  have HCE := Lib.hid (fun (h : ∀ j, j < R.cs.length → R.cs[j]? = R'.cs[j]?) => same_all e1 h)
  clear e1
  go_wp2_with fail
  go_loopw [5] (fun i wr => ∃ k : Nat, k ≤ R.cs.length ∧ i = .int .i64 k ∧ (∀ j, j < k → R.cs[j]? = R'.cs[j]?) ∧ Kept noX W2 wr) (fun i _ => R.cs.length - (intOf i).toNat)
  case atStart => exact ⟨0, Nat.zero_le _, rfl, fun j hj => by omega, Kept.refl _ _⟩
  case round =>
    obtain ⟨k, hk, rfl, hall, hkr⟩ := hrel
    have HJ := Lib.hid hall
    clear hall
    have a1 := (HA2.out.keep hkr).cell 1
    have b1 := (HB2.out.keep hkr).cell 1
    simp only [List.getElem?_cons_zero, List.getElem?_cons_succ] at a1 b1
    by_cases hlt : k < R.cs.length
    · have hdl : decide ((k : Int) < (R.cs.length : Int)) = true := by simpa using hlt
      have hlt2 : k < R'.cs.length := by rw [← HE.out.2.1]; exact hlt
      have hkw := HK2.out.trans hkr
      obtain ⟨p1, o1, c1', C1, m1, f1, hv1, hc1, hm1, hr1⟩ := rowL_at H1.out hlt
      obtain ⟨p2, o2, c2', C2, m2, f2, hv2, hc2, hm2, hr2⟩ := rowL_at G1.out hlt2
      injection hv1 with hA1 _ hc1'
      injection hv2 with hA2 _ hc2'
      have hlt3 := hlt
      subst hA1 hc1' hA2 hc2' hm1 hm2
      have q1 := hkw.cell hc1
      have q2 := hkw.cell hc2
      have hln := HZ.out.cs k hlt
      have HN := Lib.hid (fun h : R.cs[k] = R'.cs[k] => (fun j (hj : j < k + 1) => (by
          rcases Nat.lt_or_ge j k with h' | h'
          · exact HJ.out j h'
          · obtain rfl : j = k := by omega
            rw [List.getElem?_eq_getElem hlt, List.getElem?_eq_getElem hlt2, h] : R.cs[j]? = R'.cs[j]?)))
      have HYk := Lib.hid (HCA.out k hlt hlt2)
      generalize R.cs[k] = x at *
      generalize R'.cs[k] = y at *
      have HI := Lib.hid (fun W' (hk : Kept noX W W') => zints_any x y C1 C2 f1 f2 (by omega) W' (IxAt.row (Rep.keep (show Rep W noX [_] _ from hr1) hk)) (IxAt.row (Rep.keep (show Rep W noX [_] _ from hr2) hk)))
      have HKW := Lib.hid hkw
      have HKR := Lib.hid hkr
      have hHeld0 := (⟨a1, b1, q1, q2⟩ : _ ∧ _ ∧ _ ∧ _)
      clear hc1 hc2 hr1 hr2 HCA HCE HJ hkw hkr
      go_wp2_with fail
      refine wp_region_held_drew (S := (fun w' => w'.cell? ⟨W.heap.size, 1, none⟩ = some (.slice (some ⟨p1, o1, none⟩) R.cs.length c1) ∧ w'.cell? ⟨W.heap.size + 1, 1, none⟩ = some (.slice (some ⟨p2, o2, none⟩) R.cs.length d1) ∧ w'.cell? ⟨p1, o1 + k, none⟩ = some (.slice C1 x.length f1) ∧ w'.cell? ⟨p2, o2 + k, none⟩ = some (.slice C2 y.length f2))) (by kernel_rfl) hHeld0 (fun hHeld => ?_)
      refine wpAnyH_take (i := 0) (v := ?_) rfl (by kernel_rfl) (by kernel_rfl) (by kernel_rfl) (fun _ _ _ h => h) (Or.inl ⟨by rfl, ?_⟩) (by assumption) ?_
      rotate_left
      · intro wS hSw
        (try dsimp only at hSw)
        go_simp
        (try with_reducible rfl)
      refine wpAnyH_take (i := 1) (v := ?_) rfl (by kernel_rfl) (by kernel_rfl) (by kernel_rfl) (fun _ _ _ h => h) (Or.inl ⟨by rfl, ?_⟩) (by assumption) ?_
      rotate_left
      · intro wS hSw
        (try dsimp only at hSw)
        go_simp
        (try with_reducible rfl)
      refine wpAnyH_take (i := 2) (v := ?_) rfl (by kernel_rfl) (by kernel_rfl) (by kernel_rfl) (fun _ _ _ h => h) (Or.inl ⟨by rfl, ?_⟩) (by assumption) ?_
      rotate_left
      · intro wS hSw
        (try dsimp only at hSw)
        go_simp
        (try with_reducible rfl)
      refine wpAnyH_take (i := 3) (v := ?_) rfl (by kernel_rfl) (by kernel_rfl) (by kernel_rfl) (fun _ _ _ h => h) (Or.inl ⟨by rfl, ?_⟩) (by assumption) ?_
      rotate_left
      · intro wS hSw
        (try dsimp only at hSw)
        go_simp
        (try with_reducible rfl)
      refine wpAnyH_take (i := 4) (v := ?_) rfl (by kernel_rfl) (by kernel_rfl) (by kernel_rfl) (fun _ _ _ h => h) (Or.inl ⟨by rfl, ?_⟩) (by assumption) ?_
      rotate_left
      · intro wS hSw
        (try dsimp only at hSw)
        go_simp
        (try with_reducible rfl)
      (try simp only [Act.put, List.getElem_toArray, List.getElem_cons_succ, List.getElem_cons_zero, List.setIfInBounds_toArray, List.set_cons_zero, List.set_cons_succ])
      refine wpAnyH_take (i := 5) (v := ?_) rfl (by kernel_rfl) (by kernel_rfl) (by kernel_rfl) (fun _ _ _ h => h) (Or.inl ⟨by rfl, ?_⟩) (by assumption) ?_
      rotate_left
      · intro wS hSw
        (try dsimp only at hSw)
        go_simp
        (try with_reducible rfl)
      refine wpAnyH_take (i := 6) (v := ?_) rfl (by kernel_rfl) (by kernel_rfl) (by kernel_rfl) (fun _ _ _ h => h) (Or.inl ⟨by rfl, ?_⟩) (by assumption) ?_
      rotate_left
      · intro wS hSw
        (try dsimp only at hSw)
        go_simp
        (try with_reducible rfl)
      refine wpAnyH_take (i := 7) (v := ?_) rfl (by kernel_rfl) (by kernel_rfl) (by kernel_rfl) (fun _ _ _ h => h) (Or.inl ⟨by rfl, ?_⟩) (by assumption) ?_
      rotate_left
      · intro wS hSw
        (try dsimp only at hSw)
        go_simp
        (try with_reducible rfl)
      refine wpAnyH_take (i := 8) (v := ?_) rfl (by kernel_rfl) (by kernel_rfl) (by kernel_rfl) (fun _ _ _ h => h) (Or.inl ⟨by rfl, ?_⟩) (by assumption) ?_
      rotate_left
      · intro wS hSw
        (try dsimp only at hSw)
        go_simp
        (try with_reducible rfl)
      refine wpAnyH_take (i := 9) (v := ?_) rfl (by kernel_rfl) (by kernel_rfl) (by kernel_rfl) (fun _ _ _ h => h) (Or.inl ⟨by rfl, ?_⟩) (by assumption) ?_
      rotate_left
      · intro wS hSw
        (try dsimp only at hSw)
        go_simp
        (try with_reducible rfl)
      (try simp only [Act.put, List.getElem_toArray, List.getElem_cons_succ, List.getElem_cons_zero, List.setIfInBounds_toArray, List.set_cons_zero, List.set_cons_succ])
      refine wpAnyH_ready (rs := [10]) (by kernel_rfl) (by simp) ?_
      refine (AllReadyH.cons rfl (fun K hK => ?_) AllReadyH.nil)
      go_simp
      refine (HI.out _ (HKW.out.drew)).mono ?_
      rintro e W3 ⟨rfl, hk3⟩
      replace hk3 := ((Kept.refl noX wr).drew).trans hk3
      refine hK.out _ _ ⟨hk3.cell a1, hk3.cell b1, hk3.cell q1, hk3.cell q2⟩ (fun hHeld => ?_)
      clear hK K
      (try simp only [Act.put, List.getElem_toArray, List.getElem_cons_succ, List.getElem_cons_zero, List.setIfInBounds_toArray, List.set_cons_zero, List.set_cons_succ])
      refine wpAnyH_take (i := 11) (v := ?_) rfl (by kernel_rfl) (by kernel_rfl) (by kernel_rfl) (fun _ _ _ h => h) (Or.inl ⟨by rfl, ?_⟩) (by assumption) ?_
      rotate_left
      · intro wS hSw
        (try dsimp only at hSw)
        go_simp
        (try with_reducible rfl)
      refine wpAnyH_done (by kernel_rfl) ?_ _
      (try simp only [Act.put, List.getElem_toArray, List.getElem_cons_succ, List.getElem_cons_zero, List.setIfInBounds_toArray, List.set_cons_zero, List.set_cons_succ])
      by_cases hxy : x = y
      · have hd1 : decide (x = y) = true := by simpa using hxy
        rw [hd1]
        go_wp2
        go_roundw
        case rel => exact ⟨k + 1, hlt, by go_num, HN.out hxy, HKR.out.trans hk3⟩
        case measure => simp [intOf]; omega
      · have hd1 : decide (x = y) = false := by simpa using hxy
        rw [hd1]
        go_wp2
        go_ret
        exact ⟨SmP.no rfl (HYk.out hxy), HKW.out.trans hk3⟩
    · have hdl : decide ((k : Int) < (R.cs.length : Int)) = false := by simpa using hlt
      have HEC : Hid (R.cs = R'.cs) := Lib.hid (HCE.out (fun j hj => HJ.out j (by omega)))
      clear hk HJ HCE HCA
      go_wp2_with fail
      obtain ⟨W3, hW3⟩ : ∃ W3, W3 = wr := ⟨_, rfl⟩
      rw [← hW3] at hkr ⊢
      have HA3 := Lib.hid (HA2.out.keep hkr)
      have HB3 := Lib.hid (HB2.out.keep hkr)
      have HK3 := Lib.hid (HK2.out.trans hkr)
      clear hkr hdl hlt hW3 HA2 HB2 HK2 a1 b1
      go_loopw [6] (fun i wr => ∃ k : Nat, k ≤ R.rm.length ∧ i = .int .i64 k ∧ (∀ j, j < k → sameV R R' j) ∧ Kept noX W3 wr) (fun i _ => R.rm.length - (intOf i).toNat)
      case atStart => exact ⟨0, Nat.zero_le _, rfl, fun j hj => by omega, Kept.refl _ _⟩
      case round =>
        obtain ⟨k, hk, rfl, hall, hkr⟩ := hrel
        have HJ := Lib.hid hall
        clear hall
        have x2 := (HA3.out.keep hkr).cell 2
        simp only [List.getElem?_cons_zero, List.getElem?_cons_succ] at x2
        by_cases hlt : k < R.rm.length
        · have hdl : decide ((k : Int) < (R.rm.length : Int)) = true := by simpa using hlt
          have hkw := HK3.out.trans hkr
          have hs1 : k < R.st.length := by have := HZ.out.sz; omega
          have ht1 : k < R.tk.length := by have := HZ.out.sz; omega
          have hre : R.rm.length = R'.rm.length := by rw [HE.out.2.2]
          have hs2 : k < R'.st.length := by have := HZ'.out.sz; omega
          have ht2 : k < R'.tk.length := by have := HZ'.out.sz; omega
          clear hre
          obtain ⟨p3, o3, c1', E1, m1, f1, hv1, hc1, hm1, -⟩ := rowL_at H3.out hs1
          obtain ⟨p4, o4, c2', E2, m2, f2, hv2, hc2, hm2, -⟩ := rowL_at G3.out hs2
          injection hv1 with hA1 _ hc1'
          injection hv2 with hA2 _ hc2'
          subst hA1 hc1' hA2 hc2' hm1 hm2
          have q1 := hkw.cell hc1
          have q2 := hkw.cell hc2
          have hb1 : R.st.length ≤ 1000000000 ∧ R.st[k].length ≤ 1000000000 := ⟨by have := HZ.out.sz; omega, HZ.out.st k hs1⟩
          have hb2 : R'.st.length ≤ 1000000000 ∧ R'.st[k].length ≤ 1000000000 := ⟨by have := HZ'.out.sz; omega, HZ'.out.st k hs2⟩
          have HV1 := Lib.hid (fun W' (hk : Kept noX W W') => zvalues_any (HR.out.keep hk) k hs1 ht1 (HZ.out.le k hs1 ht1) hb1)
          have HV2 := Lib.hid (fun W' (hk : Kept noX W W') => zvalues_any (HR'.out.keep hk) k hs2 ht2 (HZ'.out.le k hs2 ht2) hb2)
          have HVI := Lib.hid (show sameV R R' k ↔ R.st[k].drop R.tk[k] = R'.st[k].drop R'.tk[k] ∧ R.st[k].length = R'.st[k].length by
            unfold sameV
            simp only [List.getD_eq_getElem?_getD, List.getElem?_eq_getElem hs1, List.getElem?_eq_getElem hs2, List.getElem?_eq_getElem ht1, List.getElem?_eq_getElem ht2, Option.getD_some])
          have hln : (R.st[k].drop R.tk[k]).length ≤ 1000000000 := by rw [List.length_drop]; omega
          generalize R.st[k].drop R.tk[k] = us at *
          generalize R'.st[k].drop R'.tk[k] = zs at *
          generalize R.st[k] = xs at *
          generalize R'.st[k] = ys at *
          have hCA := HA3.out.keep hkr
          have hCB := HB3.out.keep hkr
          have x0 := hCA.cell 0
          have x1 := hCA.cell 1
          have x3 := hCA.cell 3
          have x4 := hCA.cell 4
          have y0 := hCB.cell 0
          have y1 := hCB.cell 1
          have y2 := hCB.cell 2
          have y3 := hCB.cell 3
          have y4 := hCB.cell 4
          simp only [List.getElem?_cons_zero, List.getElem?_cons_succ] at x0 x1 x3 x4 y0 y1 y2 y3 y4
          have HKW := Lib.hid hkw
          have HKR := Lib.hid hkr
          have hHeld0 := (⟨x0, x1, x2, x3, x4, y0, y1, y2, y3, y4, q1, q2⟩ : _ ∧ _ ∧ _ ∧ _ ∧ _ ∧ _ ∧ _ ∧ _ ∧ _ ∧ _ ∧ _ ∧ _)
          have hdr1 : decide ((k : Int) < (R.st.length : Int)) = true := by simpa using hs1
          have hdr2 : decide ((k : Int) < (R'.st.length : Int)) = true := by simpa using hs2
          clear hc1 hc2 hkw hkr hCA hCB hb1 hb2
          go_wp2_with fail
          refine wp_region_held_drew (S := (fun w' => w'.cell? ⟨W.heap.size, 0, none⟩ = some (.slice A0 R.ow.length c0) ∧ w'.cell? ⟨W.heap.size, 1, none⟩ = some (.slice A1 R.cs.length c1) ∧ w'.cell? ⟨W.heap.size, 2, none⟩ = some (.slice A2 R.rm.length c2) ∧ w'.cell? ⟨W.heap.size, 3, none⟩ = some (.slice (some ⟨p3, o3, none⟩) R.st.length c3) ∧ w'.cell? ⟨W.heap.size, 4, none⟩ = some (.slice A4 R.tk.length c4) ∧ w'.cell? ⟨W.heap.size + 1, 0, none⟩ = some (.slice B0 R'.ow.length d0) ∧ w'.cell? ⟨W.heap.size + 1, 1, none⟩ = some (.slice B1 R.cs.length d1) ∧ w'.cell? ⟨W.heap.size + 1, 2, none⟩ = some (.slice B2 R'.rm.length d2) ∧ w'.cell? ⟨W.heap.size + 1, 3, none⟩ = some (.slice (some ⟨p4, o4, none⟩) R'.st.length d3) ∧ w'.cell? ⟨W.heap.size + 1, 4, none⟩ = some (.slice B4 R'.tk.length d4) ∧ w'.cell? ⟨p3, o3 + k, none⟩ = some (.slice E1 xs.length f1) ∧ w'.cell? ⟨p4, o4 + k, none⟩ = some (.slice E2 ys.length f2))) (by kernel_rfl) hHeld0 (fun hHeld => ?_)
          refine wpAnyH_take (i := 0) (v := ?_) rfl (by kernel_rfl) (by kernel_rfl) (by kernel_rfl) (fun _ _ _ h => h) (Or.inl ⟨by rfl, ?_⟩) (by assumption) ?_
          rotate_left
          · intro wS hSw
            (try dsimp only at hSw)
            go_simp
            (try with_reducible rfl)
          refine wpAnyH_take (i := 1) (v := ?_) rfl (by kernel_rfl) (by kernel_rfl) (by kernel_rfl) (fun _ _ _ h => h) (Or.inl ⟨by rfl, ?_⟩) (by assumption) ?_
          rotate_left
          · intro wS hSw
            (try dsimp only at hSw)
            go_simp
            (try with_reducible rfl)
          refine wpAnyH_take (i := 3) (v := ?_) rfl (by kernel_rfl) (by kernel_rfl) (by kernel_rfl) (fun _ _ _ h => h) (Or.inl ⟨by rfl, ?_⟩) (by assumption) ?_
          rotate_left
          · intro wS hSw
            (try dsimp only at hSw)
            go_simp
            (try with_reducible rfl)
          refine wpAnyH_take (i := 4) (v := ?_) rfl (by kernel_rfl) (by kernel_rfl) (by kernel_rfl) (fun _ _ _ h => h) (Or.inl ⟨by rfl, ?_⟩) (by assumption) ?_
          rotate_left
          · intro wS hSw
            (try dsimp only at hSw)
            go_simp
            (try with_reducible rfl)
          (try simp only [Act.put, List.getElem_toArray, List.getElem_cons_succ, List.getElem_cons_zero, List.setIfInBounds_toArray, List.set_cons_zero, List.set_cons_succ])
          refine wpAnyH_ready (rs := [2]) (by kernel_rfl) (by simp) ?_
          refine (AllReadyH.cons rfl (fun K hK => ?_) AllReadyH.nil)
          go_simp
          refine (HV1.out _ (HKW.out.drew)).mono ?_
          rintro e W4 ⟨⟨D1, e1, rfl, hr1⟩, hk4⟩
          replace hk4 := ((Kept.refl noX wr).drew).trans hk4
          refine hK.out _ _ ⟨hk4.cell x0, hk4.cell x1, hk4.cell x2, hk4.cell x3, hk4.cell x4, hk4.cell y0, hk4.cell y1, hk4.cell y2, hk4.cell y3, hk4.cell y4, hk4.cell q1, hk4.cell q2⟩ (fun hHeld => ?_)
          clear hK K
          (try simp only [Act.put, List.getElem_toArray, List.getElem_cons_succ, List.getElem_cons_zero, List.setIfInBounds_toArray, List.set_cons_zero, List.set_cons_succ])
          refine wpAnyH_ready (rs := [5]) (by kernel_rfl) (by simp) ?_
          refine (AllReadyH.cons rfl (fun K hK => ?_) AllReadyH.nil)
          go_simp
          refine (HV2.out _ (HKW.out.trans hk4)).mono ?_
          rintro e W5 ⟨⟨D2, e2, rfl, hr2⟩, hk5⟩
          have hk5' := hk5
          replace hk5 := hk4.trans hk5
          refine hK.out _ _ ⟨hk5.cell x0, hk5.cell x1, hk5.cell x2, hk5.cell x3, hk5.cell x4, hk5.cell y0, hk5.cell y1, hk5.cell y2, hk5.cell y3, hk5.cell y4, hk5.cell q1, hk5.cell q2⟩ (fun hHeld => ?_)
          clear hK K
          (try simp only [Act.put, List.getElem_toArray, List.getElem_cons_succ, List.getElem_cons_zero, List.setIfInBounds_toArray, List.set_cons_zero, List.set_cons_succ])
          refine wpAnyH_ready (rs := [6]) (by kernel_rfl) (by simp) ?_
          refine (AllReadyH.cons rfl (fun K hK => ?_) AllReadyH.nil)
          go_simp
          refine (zvals_any us zs D1 D2 e1 e2 (by omega) _ (IxAt.row (Rep.keep hr1 hk5')) (IxAt.row hr2)).mono ?_
          rintro e W6 ⟨rfl, hk6⟩
          replace hk6 := hk5.trans hk6
          by_cases hxy : us = zs
          · have hd1 : decide (us = zs) = true := by simpa using hxy
            rw [hd1]
            clear hd1
            refine hK.out _ _ ⟨hk6.cell x0, hk6.cell x1, hk6.cell x2, hk6.cell x3, hk6.cell x4, hk6.cell y0, hk6.cell y1, hk6.cell y2, hk6.cell y3, hk6.cell y4, hk6.cell q1, hk6.cell q2⟩ (fun hHeld => ?_)
            clear hK K
            (try simp only [Act.put, List.getElem_toArray, List.getElem_cons_succ, List.getElem_cons_zero, List.setIfInBounds_toArray, List.set_cons_zero, List.set_cons_succ])
            refine wpAnyH_take (i := 7) (v := ?_) rfl (by kernel_rfl) (by kernel_rfl) (by kernel_rfl) (fun _ _ _ h => h) (Or.inl ⟨by rfl, ?_⟩) (by assumption) ?_
            rotate_left
            · intro wS hSw
              (try dsimp only at hSw)
              go_simp
              (try with_reducible rfl)
            refine wpAnyH_take (i := 8) (v := ?_) rfl (by kernel_rfl) (by kernel_rfl) (by kernel_rfl) (fun _ _ _ h => h) (Or.inl ⟨by rfl, ?_⟩) (by assumption) ?_
            rotate_left
            · intro wS hSw
              (try dsimp only at hSw)
              go_simp
              (try with_reducible rfl)
            refine wpAnyH_take (i := 9) (v := ?_) rfl (by kernel_rfl) (by kernel_rfl) (by kernel_rfl) (fun _ _ _ h => h) (Or.inl ⟨by rfl, ?_⟩) (by assumption) ?_
            rotate_left
            · intro wS hSw
              (try dsimp only at hSw)
              go_simp
              (try with_reducible rfl)
            (try simp only [Act.put, List.getElem_toArray, List.getElem_cons_succ, List.getElem_cons_zero, List.setIfInBounds_toArray, List.set_cons_zero, List.set_cons_succ])
            by_cases hnn : xs.length = ys.length
            · have hna : decide ((xs.length : Int) = (ys.length : Int)) = true := by simp; omega
              have hnb : ((xs.length : Int) == (ys.length : Int)) = true := by simp; omega
              have hnc : ((xs.length : Int) != (ys.length : Int)) = false := by simp; omega
              have HV := Lib.hid (HVI.out.2 ⟨hxy, hnn⟩)
              clear hnn hxy HVI
              refine wpAnyH_take (i := 10) (v := ?_) rfl (by kernel_rfl) (by kernel_rfl) (by kernel_rfl) (fun _ _ _ h => h) (Or.inl ⟨by rfl, ?_⟩) (by assumption) ?_
              rotate_left
              · intro wS hSw
                (try dsimp only at hSw)
                go_simp
                (try with_reducible rfl)
              refine wpAnyH_take (i := 11) (v := ?_) rfl (by kernel_rfl) (by kernel_rfl) (by kernel_rfl) (fun _ _ _ h => h) (Or.inl ⟨by rfl, ?_⟩) (by assumption) ?_
              rotate_left
              · intro wS hSw
                (try dsimp only at hSw)
                go_simp
                (try with_reducible rfl)
              refine wpAnyH_take (i := 12) (v := ?_) rfl (by kernel_rfl) (by kernel_rfl) (by kernel_rfl) (fun _ _ _ h => h) (Or.inl ⟨by rfl, ?_⟩) (by assumption) ?_
              rotate_left
              · intro wS hSw
                (try dsimp only at hSw)
                go_simp
                (try with_reducible rfl)
              refine wpAnyH_take (i := 13) (v := ?_) rfl (by kernel_rfl) (by kernel_rfl) (by kernel_rfl) (fun _ _ _ h => h) (Or.inl ⟨by rfl, ?_⟩) (by assumption) ?_
              rotate_left
              · intro wS hSw
                (try dsimp only at hSw)
                go_simp
                (try with_reducible rfl)
              (try simp only [Act.put, List.getElem_toArray, List.getElem_cons_succ, List.getElem_cons_zero, List.setIfInBounds_toArray, List.set_cons_zero, List.set_cons_succ])
              refine wpAnyH_take (i := 14) (v := ?_) rfl (by kernel_rfl) (by kernel_rfl) (by kernel_rfl) (fun _ _ _ h => h) (Or.inl ⟨by rfl, ?_⟩) (by assumption) ?_
              rotate_left
              · intro wS hSw
                (try dsimp only at hSw)
                go_simp
                (try with_reducible rfl)
              refine wpAnyH_take (i := 15) (v := ?_) rfl (by kernel_rfl) (by kernel_rfl) (by kernel_rfl) (fun _ _ _ h => h) (Or.inl ⟨by rfl, ?_⟩) (by assumption) ?_
              rotate_left
              · intro wS hSw
                (try dsimp only at hSw)
                go_simp
                (try with_reducible rfl)
              refine wpAnyH_take (i := 16) (v := ?_) rfl (by kernel_rfl) (by kernel_rfl) (by kernel_rfl) (fun _ _ _ h => h) (Or.inl ⟨by rfl, ?_⟩) (by assumption) ?_
              rotate_left
              · intro wS hSw
                (try dsimp only at hSw)
                go_simp
                (try with_reducible rfl)
              refine wpAnyH_take (i := 17) (v := ?_) rfl (by kernel_rfl) (by kernel_rfl) (by kernel_rfl) (fun _ _ _ h => h) (Or.inl ⟨by rfl, ?_⟩) (by assumption) ?_
              rotate_left
              · intro wS hSw
                (try dsimp only at hSw)
                go_simp
                (try with_reducible rfl)
              (try simp only [Act.put, List.getElem_toArray, List.getElem_cons_succ, List.getElem_cons_zero, List.setIfInBounds_toArray, List.set_cons_zero, List.set_cons_succ])
              refine wpAnyH_take (i := 18) (v := ?_) rfl (by kernel_rfl) (by kernel_rfl) (by kernel_rfl) (fun _ _ _ h => h) (Or.inl ⟨by rfl, ?_⟩) (by assumption) ?_
              rotate_left
              · intro wS hSw
                (try dsimp only at hSw)
                go_simp
                (try with_reducible rfl)
              refine wpAnyH_take (i := 19) (v := ?_) rfl (by kernel_rfl) (by kernel_rfl) (by kernel_rfl) (fun _ _ _ h => h) (Or.inl ⟨by rfl, ?_⟩) (by assumption) ?_
              rotate_left
              · intro wS hSw
                (try dsimp only at hSw)
                go_simp
                (try with_reducible rfl)
              refine wpAnyH_take (i := 20) (v := ?_) rfl (by kernel_rfl) (by kernel_rfl) (by kernel_rfl) (fun _ _ _ h => h) (Or.inl ⟨by rfl, ?_⟩) (by assumption) ?_
              rotate_left
              · intro wS hSw
                (try dsimp only at hSw)
                go_simp
                (try with_reducible rfl)
              refine wpAnyH_take (i := 21) (v := ?_) rfl (by kernel_rfl) (by kernel_rfl) (by kernel_rfl) (fun _ _ _ h => h) (Or.inl ⟨by rfl, ?_⟩) (by assumption) ?_
              rotate_left
              · intro wS hSw
                (try dsimp only at hSw)
                go_simp
                (try with_reducible rfl)
              refine wpAnyH_take (i := 22) (v := ?_) rfl (by kernel_rfl) (by kernel_rfl) (by kernel_rfl) (fun _ _ _ h => h) (Or.inl ⟨by rfl, ?_⟩) (by assumption) ?_
              rotate_left
              · intro wS hSw
                (try dsimp only at hSw)
                go_simp
                (try with_reducible rfl)
              (try simp only [Act.put, List.getElem_toArray, List.getElem_cons_succ, List.getElem_cons_zero, List.setIfInBounds_toArray, List.set_cons_zero, List.set_cons_succ])
              refine wpAnyH_done (by kernel_rfl) ?_ _
              (try simp only [Act.put, List.getElem_toArray, List.getElem_cons_succ, List.getElem_cons_zero, List.setIfInBounds_toArray, List.set_cons_zero, List.set_cons_succ])
              go_wp2
              go_roundw
              case rel => exact ⟨k + 1, hlt, by go_num, fun j hj => (by
                rcases Nat.lt_or_ge j k with h' | h'
                · exact HJ.out j h'
                · obtain rfl : j = k := by omega
                  exact HV.out), HKR.out.trans hk6⟩
              case measure => simp [intOf]; omega
            · have hna : decide ((xs.length : Int) = (ys.length : Int)) = false := by simp; omega
              have hno : ¬ SameR R R' := fun hs => hnn (HVI.out.1 (hs.2.2.2 k hlt)).2
              clear hxy HVI
              refine wpAnyH_take (i := 10) (v := ?_) rfl (by kernel_rfl) (by kernel_rfl) (by kernel_rfl) (fun _ _ _ h => h) (Or.inl ⟨by rfl, ?_⟩) (by assumption) ?_
              rotate_left
              · intro wS hSw
                (try dsimp only at hSw)
                go_simp
                (try with_reducible rfl)
              refine wpAnyH_take (i := 11) (v := ?_) rfl (by kernel_rfl) (by kernel_rfl) (by kernel_rfl) (fun _ _ _ h => h) (Or.inl ⟨by rfl, ?_⟩) (by assumption) ?_
              rotate_left
              · intro wS hSw
                (try dsimp only at hSw)
                go_simp
                (try with_reducible rfl)
              refine wpAnyH_take (i := 12) (v := ?_) rfl (by kernel_rfl) (by kernel_rfl) (by kernel_rfl) (fun _ _ _ h => h) (Or.inl ⟨by rfl, ?_⟩) (by assumption) ?_
              rotate_left
              · intro wS hSw
                (try dsimp only at hSw)
                go_simp
                (try with_reducible rfl)
              refine wpAnyH_take (i := 13) (v := ?_) rfl (by kernel_rfl) (by kernel_rfl) (by kernel_rfl) (fun _ _ _ h => h) (Or.inl ⟨by rfl, ?_⟩) (by assumption) ?_
              rotate_left
              · intro wS hSw
                (try dsimp only at hSw)
                go_simp
                (try with_reducible rfl)
              (try simp only [Act.put, List.getElem_toArray, List.getElem_cons_succ, List.getElem_cons_zero, List.setIfInBounds_toArray, List.set_cons_zero, List.set_cons_succ])
              refine wpAnyH_take (i := 14) (v := ?_) rfl (by kernel_rfl) (by kernel_rfl) (by kernel_rfl) (fun _ _ _ h => h) (Or.inl ⟨by rfl, ?_⟩) (by assumption) ?_
              rotate_left
              · intro wS hSw
                (try dsimp only at hSw)
                go_simp
                (try with_reducible rfl)
              refine wpAnyH_take (i := 15) (v := ?_) rfl (by kernel_rfl) (by kernel_rfl) (by kernel_rfl) (fun _ _ _ h => h) (Or.inl ⟨by rfl, ?_⟩) (by assumption) ?_
              rotate_left
              · intro wS hSw
                (try dsimp only at hSw)
                go_simp
                (try with_reducible rfl)
              refine wpAnyH_take (i := 16) (v := ?_) rfl (by kernel_rfl) (by kernel_rfl) (by kernel_rfl) (fun _ _ _ h => h) (Or.inl ⟨by rfl, ?_⟩) (by assumption) ?_
              rotate_left
              · intro wS hSw
                (try dsimp only at hSw)
                go_simp
                (try with_reducible rfl)
              refine wpAnyH_take (i := 17) (v := ?_) rfl (by kernel_rfl) (by kernel_rfl) (by kernel_rfl) (fun _ _ _ h => h) (Or.inl ⟨by rfl, ?_⟩) (by assumption) ?_
              rotate_left
              · intro wS hSw
                (try dsimp only at hSw)
                go_simp
                (try with_reducible rfl)
              (try simp only [Act.put, List.getElem_toArray, List.getElem_cons_succ, List.getElem_cons_zero, List.setIfInBounds_toArray, List.set_cons_zero, List.set_cons_succ])
              refine wpAnyH_take (i := 18) (v := ?_) rfl (by kernel_rfl) (by kernel_rfl) (by kernel_rfl) (fun _ _ _ h => h) (Or.inl ⟨by rfl, ?_⟩) (by assumption) ?_
              rotate_left
              · intro wS hSw
                (try dsimp only at hSw)
                go_simp
                (try with_reducible rfl)
              refine wpAnyH_take (i := 19) (v := ?_) rfl (by kernel_rfl) (by kernel_rfl) (by kernel_rfl) (fun _ _ _ h => h) (Or.inl ⟨by rfl, ?_⟩) (by assumption) ?_
              rotate_left
              · intro wS hSw
                (try dsimp only at hSw)
                go_simp
                (try with_reducible rfl)
              refine wpAnyH_take (i := 20) (v := ?_) rfl (by kernel_rfl) (by kernel_rfl) (by kernel_rfl) (fun _ _ _ h => h) (Or.inl ⟨by rfl, ?_⟩) (by assumption) ?_
              rotate_left
              · intro wS hSw
                (try dsimp only at hSw)
                go_simp
                (try with_reducible rfl)
              refine wpAnyH_take (i := 21) (v := ?_) rfl (by kernel_rfl) (by kernel_rfl) (by kernel_rfl) (fun _ _ _ h => h) (Or.inl ⟨by rfl, ?_⟩) (by assumption) ?_
              rotate_left
              · intro wS hSw
                (try dsimp only at hSw)
                go_simp
                (try with_reducible rfl)
              refine wpAnyH_take (i := 22) (v := ?_) rfl (by kernel_rfl) (by kernel_rfl) (by kernel_rfl) (fun _ _ _ h => h) (Or.inl ⟨by rfl, ?_⟩) (by assumption) ?_
              rotate_left
              · intro wS hSw
                (try dsimp only at hSw)
                go_simp
                (try with_reducible rfl)
              (try simp only [Act.put, List.getElem_toArray, List.getElem_cons_succ, List.getElem_cons_zero, List.setIfInBounds_toArray, List.set_cons_zero, List.set_cons_succ])
              refine wpAnyH_done (by kernel_rfl) ?_ _
              (try simp only [Act.put, List.getElem_toArray, List.getElem_cons_succ, List.getElem_cons_zero, List.setIfInBounds_toArray, List.set_cons_zero, List.set_cons_succ])
              go_wp2
              go_ret
              exact ⟨SmP.no rfl hno, HKW.out.trans hk6⟩
          · have hd1 : decide (us = zs) = false := by simpa using hxy
            have hno : ¬ SameR R R' := fun hs => hxy (HVI.out.1 (hs.2.2.2 k hlt)).1
            rw [hd1]
            clear hd1 hxy HVI
            refine hK.out _ _ ⟨hk6.cell x0, hk6.cell x1, hk6.cell x2, hk6.cell x3, hk6.cell x4, hk6.cell y0, hk6.cell y1, hk6.cell y2, hk6.cell y3, hk6.cell y4, hk6.cell q1, hk6.cell q2⟩ (fun hHeld => ?_)
            clear hK K
            (try simp only [Act.put, List.getElem_toArray, List.getElem_cons_succ, List.getElem_cons_zero, List.setIfInBounds_toArray, List.set_cons_zero, List.set_cons_succ])
            refine wpAnyH_take (i := 7) (v := ?_) rfl (by kernel_rfl) (by kernel_rfl) (by kernel_rfl) (fun _ _ _ h => h) (Or.inl ⟨by rfl, ?_⟩) (by assumption) ?_
            rotate_left
            · intro wS hSw
              (try dsimp only at hSw)
              go_simp
              (try with_reducible rfl)
            refine wpAnyH_take (i := 8) (v := ?_) rfl (by kernel_rfl) (by kernel_rfl) (by kernel_rfl) (fun _ _ _ h => h) (Or.inl ⟨by rfl, ?_⟩) (by assumption) ?_
            rotate_left
            · intro wS hSw
              (try dsimp only at hSw)
              go_simp
              (try with_reducible rfl)
            (try simp only [Act.put, List.getElem_toArray, List.getElem_cons_succ, List.getElem_cons_zero, List.setIfInBounds_toArray, List.set_cons_zero, List.set_cons_succ])
            refine wpAnyH_take (i := 9) (v := undef) rfl (by kernel_rfl) (by kernel_rfl) (by kernel_rfl) (fun _ _ _ h => h) (Or.inr ⟨by rfl, rfl⟩) (by assumption) ?_
            refine wpAnyH_take (i := 10) (v := undef) rfl (by kernel_rfl) (by kernel_rfl) (by kernel_rfl) (fun _ _ _ h => h) (Or.inr ⟨by rfl, rfl⟩) (by assumption) ?_
            refine wpAnyH_take (i := 11) (v := undef) rfl (by kernel_rfl) (by kernel_rfl) (by kernel_rfl) (fun _ _ _ h => h) (Or.inr ⟨by rfl, rfl⟩) (by assumption) ?_
            refine wpAnyH_take (i := 12) (v := undef) rfl (by kernel_rfl) (by kernel_rfl) (by kernel_rfl) (fun _ _ _ h => h) (Or.inr ⟨by rfl, rfl⟩) (by assumption) ?_
            (try simp only [Act.put, List.getElem_toArray, List.getElem_cons_succ, List.getElem_cons_zero, List.setIfInBounds_toArray, List.set_cons_zero, List.set_cons_succ])
            refine wpAnyH_take (i := 13) (v := undef) rfl (by kernel_rfl) (by kernel_rfl) (by kernel_rfl) (fun _ _ _ h => h) (Or.inr ⟨by rfl, rfl⟩) (by assumption) ?_
            refine wpAnyH_take (i := 14) (v := undef) rfl (by kernel_rfl) (by kernel_rfl) (by kernel_rfl) (fun _ _ _ h => h) (Or.inr ⟨by rfl, rfl⟩) (by assumption) ?_
            refine wpAnyH_take (i := 15) (v := undef) rfl (by kernel_rfl) (by kernel_rfl) (by kernel_rfl) (fun _ _ _ h => h) (Or.inr ⟨by rfl, rfl⟩) (by assumption) ?_
            refine wpAnyH_take (i := 16) (v := undef) rfl (by kernel_rfl) (by kernel_rfl) (by kernel_rfl) (fun _ _ _ h => h) (Or.inr ⟨by rfl, rfl⟩) (by assumption) ?_
            (try simp only [Act.put, List.getElem_toArray, List.getElem_cons_succ, List.getElem_cons_zero, List.setIfInBounds_toArray, List.set_cons_zero, List.set_cons_succ])
            refine wpAnyH_take (i := 17) (v := undef) rfl (by kernel_rfl) (by kernel_rfl) (by kernel_rfl) (fun _ _ _ h => h) (Or.inr ⟨by rfl, rfl⟩) (by assumption) ?_
            refine wpAnyH_take (i := 18) (v := undef) rfl (by kernel_rfl) (by kernel_rfl) (by kernel_rfl) (fun _ _ _ h => h) (Or.inr ⟨by rfl, rfl⟩) (by assumption) ?_
            refine wpAnyH_take (i := 19) (v := undef) rfl (by kernel_rfl) (by kernel_rfl) (by kernel_rfl) (fun _ _ _ h => h) (Or.inr ⟨by rfl, rfl⟩) (by assumption) ?_
            refine wpAnyH_take (i := 20) (v := undef) rfl (by kernel_rfl) (by kernel_rfl) (by kernel_rfl) (fun _ _ _ h => h) (Or.inr ⟨by rfl, rfl⟩) (by assumption) ?_
            refine wpAnyH_take (i := 21) (v := undef) rfl (by kernel_rfl) (by kernel_rfl) (by kernel_rfl) (fun _ _ _ h => h) (Or.inr ⟨by rfl, rfl⟩) (by assumption) ?_
            (try simp only [Act.put, List.getElem_toArray, List.getElem_cons_succ, List.getElem_cons_zero, List.setIfInBounds_toArray, List.set_cons_zero, List.set_cons_succ])
            refine wpAnyH_take (i := 22) (v := ?_) rfl (by kernel_rfl) (by kernel_rfl) (by kernel_rfl) (fun _ _ _ h => h) (Or.inl ⟨by rfl, ?_⟩) (by assumption) ?_
            rotate_left
            · intro wS hSw
              (try dsimp only at hSw)
              go_simp
              (try with_reducible rfl)
            refine wpAnyH_done (by kernel_rfl) ?_ _
            (try simp only [Act.put, List.getElem_toArray, List.getElem_cons_succ, List.getElem_cons_zero, List.setIfInBounds_toArray, List.set_cons_zero, List.set_cons_succ])
            go_wp2
            go_ret
            exact ⟨SmP.no rfl hno, HKW.out.trans hk6⟩
        · have hdl : decide ((k : Int) < (R.rm.length : Int)) = false := by simpa using hlt
          have hs : SameR R R' := ⟨HE.out.1, HEC.out, HE.out.2.2, fun q hq => HJ.out q (by omega)⟩
          clear HJ HE HEC
          go_wp2
          go_ret
          exact ⟨SmP.yes rfl hs, HK3.out.trans hkr⟩
end
end Go.Proofs.Ytehcfahfbdphpaa
namespace Go.Proofs.Ytehcfahfbdphpaa
open Go.RowKit Go.Shelf

set_option maxRecDepth 100000 in
set_option maxHeartbeats 4000000 in
theorem clone_cells (A : Option Addr) (n c : Nat) (news : List Value) (hn : news.length = n * 1) (w : World) (hc : 0 < n → ∃ b o, A = some ⟨b, o, none⟩ ∧ ∀ j u, news[j]? = some u → w.cell? ⟨b, o + j, none⟩ = some u) (h1 : ∀ u ∈ news, u.oneCell' = true) (hb : n ≤ 1000000000) :
    Calls Try.prog 92 #[.slice A n c] w fun e W' => ∃ v', e = .returned v' ∧ W'.ownsRow w.heap.size 3 1 v' n news ∧ Kept noX w W' := by
  rcases A with _ | a
  · obtain rfl : n = 0 := Classical.byContradiction fun h => by
      obtain ⟨b, o, h2, _⟩ := hc (by omega)
      cases h2
    obtain rfl : news = [] := List.eq_nil_of_length_eq_zero (by omega)
    clear hc h1
    have heq : ∀ w, (binOp .eql 22 (.slice none 0 c) (.slice none 0 0)).run Try.prog w = .ok (.bool true) w := fun _ => by kernel_rfl
    go_enter Try.func92, Try.ntmps92
    go_wp2
    go_ret
    exact ⟨_, rfl, World.ownsRow_nil _ _ _ _, Kept.refl _ _⟩
  · have hnews : ∀ j u, news[j]? = some u → (w.alloc (.cells #[] 3)).cell? (a.add j) = some u := fun j u hj => by
      have hj0 := (List.getElem?_eq_some_iff.1 hj).1
      obtain ⟨b, o, h2, h3⟩ := hc (Nat.pos_of_ne_zero fun h => by rw [hn, h] at hj0; omega)
      obtain rfl : a = ⟨b, o, none⟩ := Option.some.inj h2
      rw [Addr.add_lit]
      exact ((Kept.refl noX w).alloc _).cell (h3 j u hj)
    have HN := Lib.hid hnews
    have H1 := Lib.hid h1
    have HO : Hid ((w.alloc (.cells #[] 3)).ownsRow w.heap.size 3 1 (.slice (some ⟨w.heap.size, 0, none⟩) 0 0) 0 []) := Lib.hid ⟨rfl, .inr ⟨w.heap.size, 0, #[], rfl, Nat.le_refl _, Cells.fresh w 3 [], Nat.le_refl _, Nat.zero_le _, rfl, rfl⟩⟩
    obtain ⟨i0, hi0, hz0, hz1, hz2⟩ := info_parts infoI
    clear hnews h1 hc
    have heq : ∀ w, (binOp .eql 22 (.slice (some a) n c) (.slice none 0 0)).run Try.prog w = .ok (.bool false) w := fun _ => by kernel_rfl
    go_enter Try.func92, Try.ntmps92
    go_wp2_with (at_builtin; refine wpList_append_own_at _ rfl _ _ 22 rfl w.heap.size 3 i0 (.int .i64 0) 1 8 Try.underlying22 hi0 hz0 hz1 hz2 rfl (by decide) (.slice (some ⟨w.heap.size, 0, none⟩) 0 0) 0 [] rfl HO.out a n c news rfl hn HN.out H1.out (by unfold maxLen; omega) (by omega) (by rw [World.size_alloc]; omega) ?_
                 intro v' W5 hown' hgrow _ hat
                 rw [Nat.zero_add, List.nil_append] at hown'
                 have HW5 := Lib.hid hown'
                 have HK5 : Hid (Kept noX w W5) := Lib.hid (((Kept.refl noX w).alloc _).own (((Kept.refl _ _).grown hgrow (fun k hk _ => (Option.some.inj hk).symm)) : Kept (· = w.heap.size) (w.alloc (.cells #[] 3)) W5) (Nat.le_refl _))
                 obtain ⟨A5, n5, c5, rfl⟩ := own_form0 hown'
                 clear hown' hgrow hat)
    go_ret
    exact ⟨_, rfl, HW5.out, HK5.out⟩
set_option maxRecDepth 100000 in
set_option maxHeartbeats 4000000 in
theorem clone64_cells (A : Option Addr) (n c : Nat) (news : List Value) (hn : news.length = n * 1) (w : World) (hc : 0 < n → ∃ b o, A = some ⟨b, o, none⟩ ∧ ∀ j u, news[j]? = some u → w.cell? ⟨b, o + j, none⟩ = some u) (h1 : ∀ u ∈ news, u.oneCell' = true) (hb : n ≤ 1000000000) :
    Calls Try.prog 93 #[.slice A n c] w fun e W' => ∃ v', e = .returned v' ∧ W'.ownsRow w.heap.size 2 1 v' n news ∧ Kept noX w W' := by
  rcases A with _ | a
  · obtain rfl : n = 0 := Classical.byContradiction fun h => by
      obtain ⟨b, o, h2, _⟩ := hc (by omega)
      cases h2
    obtain rfl : news = [] := List.eq_nil_of_length_eq_zero (by omega)
    clear hc h1
    have heq : ∀ w, (binOp .eql 47 (.slice none 0 c) (.slice none 0 0)).run Try.prog w = .ok (.bool true) w := fun _ => by kernel_rfl
    go_enter Try.func93, Try.ntmps93
    go_wp2
    go_ret
    exact ⟨_, rfl, World.ownsRow_nil _ _ _ _, Kept.refl _ _⟩
  · have hnews : ∀ j u, news[j]? = some u → (w.alloc (.cells #[] 2)).cell? (a.add j) = some u := fun j u hj => by
      have hj0 := (List.getElem?_eq_some_iff.1 hj).1
      obtain ⟨b, o, h2, h3⟩ := hc (Nat.pos_of_ne_zero fun h => by rw [hn, h] at hj0; omega)
      obtain rfl : a = ⟨b, o, none⟩ := Option.some.inj h2
      rw [Addr.add_lit]
      exact ((Kept.refl noX w).alloc _).cell (h3 j u hj)
    have HN := Lib.hid hnews
    have H1 := Lib.hid h1
    have HO : Hid ((w.alloc (.cells #[] 2)).ownsRow w.heap.size 2 1 (.slice (some ⟨w.heap.size, 0, none⟩) 0 0) 0 []) := Lib.hid ⟨rfl, .inr ⟨w.heap.size, 0, #[], rfl, Nat.le_refl _, Cells.fresh w 2 [], Nat.le_refl _, Nat.zero_le _, rfl, rfl⟩⟩
    obtain ⟨i0, hi0, hz0, hz1, hz2⟩ := info_parts infoI64
    clear hnews h1 hc
    have heq : ∀ w, (binOp .eql 47 (.slice (some a) n c) (.slice none 0 0)).run Try.prog w = .ok (.bool false) w := fun _ => by kernel_rfl
    go_enter Try.func93, Try.ntmps93
    go_wp2_with (at_builtin; refine wpList_append_own_at _ rfl _ _ 47 rfl w.heap.size 2 i0 (.int .i64 0) 1 8 Try.underlying47 hi0 hz0 hz1 hz2 rfl (by decide) (.slice (some ⟨w.heap.size, 0, none⟩) 0 0) 0 [] rfl HO.out a n c news rfl hn HN.out H1.out (by unfold maxLen; omega) (by omega) (by rw [World.size_alloc]; omega) ?_
                 intro v' W5 hown' hgrow _ hat
                 rw [Nat.zero_add, List.nil_append] at hown'
                 have HW5 := Lib.hid hown'
                 have HK5 : Hid (Kept noX w W5) := Lib.hid (((Kept.refl noX w).alloc _).own (((Kept.refl _ _).grown hgrow (fun k hk _ => (Option.some.inj hk).symm)) : Kept (· = w.heap.size) (w.alloc (.cells #[] 2)) W5) (Nat.le_refl _))
                 obtain ⟨A5, n5, c5, rfl⟩ := own_form0 hown'
                 clear hown' hgrow hat)
    go_ret
    exact ⟨_, rfl, HW5.out, HK5.out⟩
set_option maxRecDepth 100000 in
set_option maxHeartbeats 4000000 in
theorem cloneM_cells (A : Option Addr) (n c : Nat) (news : List Value) (hn : news.length = n * 1) (w : World) (hc : 0 < n → ∃ b o, A = some ⟨b, o, none⟩ ∧ ∀ j u, news[j]? = some u → w.cell? ⟨b, o + j, none⟩ = some u) (h1 : ∀ u ∈ news, u.oneCell' = true) (hb : n ≤ 1000000000) :
    Calls Try.prog 76 #[.slice A n c] w fun e W' => ∃ v', e = .returned v' ∧ W'.ownsRow w.heap.size 86 1 v' n news ∧ Kept noX w W' := by
  rcases A with _ | a
  · obtain rfl : n = 0 := Classical.byContradiction fun h => by
      obtain ⟨b, o, h2, _⟩ := hc (by omega)
      cases h2
    obtain rfl : news = [] := List.eq_nil_of_length_eq_zero (by omega)
    clear hc h1
    have heq : ∀ w, (binOp .eql 72 (.slice none 0 c) (.slice none 0 0)).run Try.prog w = .ok (.bool true) w := fun _ => by kernel_rfl
    go_enter Try.func76, Try.ntmps76
    go_wp2
    go_ret
    exact ⟨_, rfl, World.ownsRow_nil _ _ _ _, Kept.refl _ _⟩
  · have hnews : ∀ j u, news[j]? = some u → (w.alloc (.cells #[] 86)).cell? (a.add j) = some u := fun j u hj => by
      have hj0 := (List.getElem?_eq_some_iff.1 hj).1
      obtain ⟨b, o, h2, h3⟩ := hc (Nat.pos_of_ne_zero fun h => by rw [hn, h] at hj0; omega)
      obtain rfl : a = ⟨b, o, none⟩ := Option.some.inj h2
      rw [Addr.add_lit]
      exact ((Kept.refl noX w).alloc _).cell (h3 j u hj)
    have HN := Lib.hid hnews
    have H1 := Lib.hid h1
    have HO : Hid ((w.alloc (.cells #[] 86)).ownsRow w.heap.size 86 1 (.slice (some ⟨w.heap.size, 0, none⟩) 0 0) 0 []) := Lib.hid ⟨rfl, .inr ⟨w.heap.size, 0, #[], rfl, Nat.le_refl _, Cells.fresh w 86 [], Nat.le_refl _, Nat.zero_le _, rfl, rfl⟩⟩
    obtain ⟨i0, hi0, hz0, hz1, hz2⟩ := info_parts infoM
    clear hnews h1 hc
    have heq : ∀ w, (binOp .eql 72 (.slice (some a) n c) (.slice none 0 0)).run Try.prog w = .ok (.bool false) w := fun _ => by kernel_rfl
    go_enter Try.func76, Try.ntmps76
    go_wp2_with (at_builtin; refine wpList_append_own_at _ rfl _ _ 72 rfl w.heap.size 86 i0 (.agg #[.int .i64 0]) 1 8 Try.underlying72 hi0 hz0 hz1 hz2 rfl (by decide) (.slice (some ⟨w.heap.size, 0, none⟩) 0 0) 0 [] rfl HO.out a n c news rfl hn HN.out H1.out (by unfold maxLen; omega) (by omega) (by rw [World.size_alloc]; omega) ?_
                 intro v' W5 hown' hgrow _ hat
                 rw [Nat.zero_add, List.nil_append] at hown'
                 have HW5 := Lib.hid hown'
                 have HK5 : Hid (Kept noX w W5) := Lib.hid (((Kept.refl noX w).alloc _).own (((Kept.refl _ _).grown hgrow (fun k hk _ => (Option.some.inj hk).symm)) : Kept (· = w.heap.size) (w.alloc (.cells #[] 86)) W5) (Nat.le_refl _))
                 obtain ⟨A5, n5, c5, rfl⟩ := own_form0 hown'
                 clear hown' hgrow hat)
    go_ret
    exact ⟨_, rfl, HW5.out, HK5.out⟩
set_option maxRecDepth 100000 in
set_option maxHeartbeats 4000000 in
theorem cloneC_cells (A : Option Addr) (n c : Nat) (news : List Value) (hn : news.length = n * 1) (w : World) (hc : 0 < n → ∃ b o, A = some ⟨b, o, none⟩ ∧ ∀ j u, news[j]? = some u → w.cell? ⟨b, o + j, none⟩ = some u) (h1 : ∀ u ∈ news, u.oneCell' = true) (hb : n ≤ 1000000000) :
    Calls Try.prog 77 #[.slice A n c] w fun e W' => ∃ v', e = .returned v' ∧ W'.ownsRow w.heap.size 99 1 v' n news ∧ Kept noX w W' := by
  rcases A with _ | a
  · obtain rfl : n = 0 := Classical.byContradiction fun h => by
      obtain ⟨b, o, h2, _⟩ := hc (by omega)
      cases h2
    obtain rfl : news = [] := List.eq_nil_of_length_eq_zero (by omega)
    clear hc h1
    have heq : ∀ w, (binOp .eql 73 (.slice none 0 c) (.slice none 0 0)).run Try.prog w = .ok (.bool true) w := fun _ => by kernel_rfl
    go_enter Try.func77, Try.ntmps77
    go_wp2
    go_ret
    exact ⟨_, rfl, World.ownsRow_nil _ _ _ _, Kept.refl _ _⟩
  · have hnews : ∀ j u, news[j]? = some u → (w.alloc (.cells #[] 99)).cell? (a.add j) = some u := fun j u hj => by
      have hj0 := (List.getElem?_eq_some_iff.1 hj).1
      obtain ⟨b, o, h2, h3⟩ := hc (Nat.pos_of_ne_zero fun h => by rw [hn, h] at hj0; omega)
      obtain rfl : a = ⟨b, o, none⟩ := Option.some.inj h2
      rw [Addr.add_lit]
      exact ((Kept.refl noX w).alloc _).cell (h3 j u hj)
    have HN := Lib.hid hnews
    have H1 := Lib.hid h1
    have HO : Hid ((w.alloc (.cells #[] 99)).ownsRow w.heap.size 99 1 (.slice (some ⟨w.heap.size, 0, none⟩) 0 0) 0 []) := Lib.hid ⟨rfl, .inr ⟨w.heap.size, 0, #[], rfl, Nat.le_refl _, Cells.fresh w 99 [], Nat.le_refl _, Nat.zero_le _, rfl, rfl⟩⟩
    obtain ⟨i0, hi0, hz0, hz1, hz2⟩ := info_parts infoC
    clear hnews h1 hc
    have heq : ∀ w, (binOp .eql 73 (.slice (some a) n c) (.slice none 0 0)).run Try.prog w = .ok (.bool false) w := fun _ => by kernel_rfl
    go_enter Try.func77, Try.ntmps77
    go_wp2_with (at_builtin; refine wpList_append_own_at _ rfl _ _ 73 rfl w.heap.size 99 i0 (.agg #[.slice none 0 0]) 1 24 Try.underlying73 hi0 hz0 hz1 hz2 rfl (by decide) (.slice (some ⟨w.heap.size, 0, none⟩) 0 0) 0 [] rfl HO.out a n c news rfl hn HN.out H1.out (by unfold maxLen; omega) (by omega) (by rw [World.size_alloc]; omega) ?_
                 intro v' W5 hown' hgrow _ hat
                 rw [Nat.zero_add, List.nil_append] at hown'
                 have HW5 := Lib.hid hown'
                 have HK5 : Hid (Kept noX w W5) := Lib.hid (((Kept.refl noX w).alloc _).own (((Kept.refl _ _).grown hgrow (fun k hk _ => (Option.some.inj hk).symm)) : Kept (· = w.heap.size) (w.alloc (.cells #[] 99)) W5) (Nat.le_refl _))
                 obtain ⟨A5, n5, c5, rfl⟩ := own_form0 hown'
                 clear hown' hgrow hat)
    go_ret
    exact ⟨_, rfl, HW5.out, HK5.out⟩
set_option maxRecDepth 100000 in
set_option maxHeartbeats 4000000 in
theorem cloneQ_cells (A : Option Addr) (n c : Nat) (news : List Value) (hn : news.length = n * 3) (w : World) (hc : 0 < n → ∃ b o, A = some ⟨b, o, none⟩ ∧ ∀ j u, news[j]? = some u → w.cell? ⟨b, o + j, none⟩ = some u) (h1 : ∀ u ∈ news, u.oneCell' = true) (hb : n ≤ 1000000000) :
    Calls Try.prog 78 #[.slice A n c] w fun e W' => ∃ v', e = .returned v' ∧ W'.ownsRow w.heap.size 112 3 v' n news ∧ Kept noX w W' := by
  rcases A with _ | a
  · obtain rfl : n = 0 := Classical.byContradiction fun h => by
      obtain ⟨b, o, h2, _⟩ := hc (by omega)
      cases h2
    obtain rfl : news = [] := List.eq_nil_of_length_eq_zero (by omega)
    clear hc h1
    have heq : ∀ w, (binOp .eql 74 (.slice none 0 c) (.slice none 0 0)).run Try.prog w = .ok (.bool true) w := fun _ => by kernel_rfl
    go_enter Try.func78, Try.ntmps78
    go_wp2
    go_ret
    exact ⟨_, rfl, World.ownsRow_nil _ _ _ _, Kept.refl _ _⟩
  · have hnews : ∀ j u, news[j]? = some u → (w.alloc (.cells #[] 112)).cell? (a.add j) = some u := fun j u hj => by
      have hj0 := (List.getElem?_eq_some_iff.1 hj).1
      obtain ⟨b, o, h2, h3⟩ := hc (Nat.pos_of_ne_zero fun h => by rw [hn, h] at hj0; omega)
      obtain rfl : a = ⟨b, o, none⟩ := Option.some.inj h2
      rw [Addr.add_lit]
      exact ((Kept.refl noX w).alloc _).cell (h3 j u hj)
    have HN := Lib.hid hnews
    have H1 := Lib.hid h1
    have HO : Hid ((w.alloc (.cells #[] 112)).ownsRow w.heap.size 112 3 (.slice (some ⟨w.heap.size, 0, none⟩) 0 0) 0 []) := Lib.hid ⟨rfl, .inr ⟨w.heap.size, 0, #[], rfl, Nat.le_refl _, Cells.fresh w 112 [], Nat.le_refl _, Nat.zero_le _, rfl, rfl⟩⟩
    obtain ⟨i0, hi0, hz0, hz1, hz2⟩ := info_parts infoQ
    clear hnews h1 hc
    have heq : ∀ w, (binOp .eql 74 (.slice (some a) n c) (.slice none 0 0)).run Try.prog w = .ok (.bool false) w := fun _ => by kernel_rfl
    go_enter Try.func78, Try.ntmps78
    go_wp2_with (at_builtin; refine wpList_append_own_at _ rfl _ _ 74 rfl w.heap.size 112 i0 (.agg #[.slice none 0 0, .int .i64 0, .int .i64 0]) 3 40 Try.underlying74 hi0 hz0 hz1 hz2 rfl (by decide) (.slice (some ⟨w.heap.size, 0, none⟩) 0 0) 0 [] rfl HO.out a n c news rfl hn HN.out H1.out (by unfold maxLen; omega) (by omega) (by rw [World.size_alloc]; omega) ?_
                 intro v' W5 hown' hgrow _ hat
                 rw [Nat.zero_add, List.nil_append] at hown'
                 have HW5 := Lib.hid hown'
                 have HK5 : Hid (Kept noX w W5) := Lib.hid (((Kept.refl noX w).alloc _).own (((Kept.refl _ _).grown hgrow (fun k hk _ => (Option.some.inj hk).symm)) : Kept (· = w.heap.size) (w.alloc (.cells #[] 112)) W5) (Nat.le_refl _))
                 obtain ⟨A5, n5, c5, rfl⟩ := own_form0 hown'
                 clear hown' hgrow hat)
    go_ret
    exact ⟨_, rfl, HW5.out, HK5.out⟩
end Go.Proofs.Ytehcfahfbdphpaa
namespace Go.Proofs.Ytehcfahfbdphpaa
open Go.RowKit Go.Shelf

theorem own_news {W : World} {base : Nat} {t : TypeId} {size : Nat} {A : Option Addr} {n c : Nat} {xs : List Value} (h : W.ownsRow base t size (.slice A n c) n xs) (h0 : 0 < n) : ∃ b o, A = some ⟨b, o, none⟩ ∧ ∀ j u, xs[j]? = some u → W.cell? ⟨b, o + j, none⟩ = some u := by
  rcases h.2 with ⟨_, h1⟩ | ⟨g, cap, cur, hv, _, hg, h3, _, h4, h5⟩
  · omega
  · injection hv with hA _ _
    refine ⟨g, 0, hA, fun j u hj => ?_⟩
    have hj0 := (List.getElem?_eq_some_iff.1 hj).1
    have hl := h.1
    have hC : Cells W g t cur.toList := by unfold Cells; simpa using hg
    rw [Nat.zero_add, hC.cell, ← hj, ← h5, List.getElem?_take, if_pos (by omega)]
set_option maxRecDepth 100000 in
set_option maxHeartbeats 1000000 in
theorem part_any (xs : List Int) (g o : Nat) (t : TypeId) (cs : List Value) (v : Value) (w : World) (hC : Cells w g t cs) (hv : cs[o]? = some v) (hown : w.ownsRow 0 3 1 v xs.length (xs.map (.int .i64))) (hlen : xs.length ≤ 1000000000) :
    Calls Try.prog 79 #[.pointer (some ⟨g, o, none⟩)] w fun e w' => e = .returned (.tuple #[]) ∧ ∃ v', Cells w' g t (cs.set o v') ∧ w'.ownsRow w.heap.size 3 1 v' xs.length (xs.map (.int .i64)) ∧ Kept (· = g) w w' := by
  obtain ⟨A0, c0, rfl, -, -⟩ := own_formN hown
  have c1 := hC.cell o
  rw [hv] at c1
  have HC := Lib.hid hC
  have HCL := Lib.hid (clone_cells A0 xs.length c0 (xs.map (.int .i64)) (by simp) w (fun h0 => own_news hown h0) (fun u hu => by obtain ⟨q, _, rfl⟩ := List.mem_map.1 hu; rfl) hlen)
  have hgl := hC.lt
  clear hC hown
  go_enter Try.func79, Try.ntmps79
  go_wp2_with fail
  refine HCL.out.mono ?_
  rintro e W1 ⟨v', rfl, hown, hk1⟩
  have hC1 := HC.out.keep hk1
  have f1 := hC1.free o
  have c2 := hC1.cell o
  rw [hv] at c2
  have HO := Lib.hid hown
  have HC1 := Lib.hid hC1
  obtain ⟨A', n', c', rfl⟩ := own_form0 hown
  clear hC1 hown
  go_wp2
  go_end0
  have hks := hk1.size
  have hset : Kept (· = g) W1 (W1.setCell ⟨g, o, none⟩ (.slice A' n' c')) := (Kept.refl (· = g) _).setCell (p := ⟨g, o, none⟩) (fun _ => rfl) _
  exact ⟨rfl, _, HC1.out.put o _, own_kept HO.out hset (fun k hk e => by have := own_ge HO.out hk; have e : k = g := e; omega), hk1.any.trans hset⟩
set_option maxRecDepth 100000 in
set_option maxHeartbeats 1000000 in
theorem part64_any (xs : List Int) (g o : Nat) (t : TypeId) (cs : List Value) (v : Value) (w : World) (hC : Cells w g t cs) (hv : cs[o]? = some v) (hown : w.ownsRow 0 2 1 v xs.length (xs.map (.int .i64))) (hlen : xs.length ≤ 1000000000) :
    Calls Try.prog 80 #[.pointer (some ⟨g, o, none⟩)] w fun e w' => e = .returned (.tuple #[]) ∧ ∃ v', Cells w' g t (cs.set o v') ∧ w'.ownsRow w.heap.size 2 1 v' xs.length (xs.map (.int .i64)) ∧ Kept (· = g) w w' := by
  obtain ⟨A0, c0, rfl, -, -⟩ := own_formN hown
  have c1 := hC.cell o
  rw [hv] at c1
  have HC := Lib.hid hC
  have HCL := Lib.hid (clone64_cells A0 xs.length c0 (xs.map (.int .i64)) (by simp) w (fun h0 => own_news hown h0) (fun u hu => by obtain ⟨q, _, rfl⟩ := List.mem_map.1 hu; rfl) hlen)
  have hgl := hC.lt
  clear hC hown
  go_enter Try.func80, Try.ntmps80
  go_wp2_with fail
  refine HCL.out.mono ?_
  rintro e W1 ⟨v', rfl, hown, hk1⟩
  have hC1 := HC.out.keep hk1
  have f1 := hC1.free o
  have c2 := hC1.cell o
  rw [hv] at c2
  have HO := Lib.hid hown
  have HC1 := Lib.hid hC1
  obtain ⟨A', n', c', rfl⟩ := own_form0 hown
  clear hC1 hown
  go_wp2
  go_end0
  have hks := hk1.size
  have hset : Kept (· = g) W1 (W1.setCell ⟨g, o, none⟩ (.slice A' n' c')) := (Kept.refl (· = g) _).setCell (p := ⟨g, o, none⟩) (fun _ => rfl) _
  exact ⟨rfl, _, HC1.out.put o _, own_kept HO.out hset (fun k hk e => by have := own_ge HO.out hk; have e : k = g := e; omega), hk1.any.trans hset⟩
end Go.Proofs.Ytehcfahfbdphpaa
namespace Go.Proofs.Ytehcfahfbdphpaa
open Go.RowKit Go.Shelf

/-- A queue's row as it was ahead of the call. -/
def OldQ (W : World) (t : TypeId) (v : Value) (xs : List Int) : Prop := W.ownsRow 0 t 1 v xs.length (xs.map (.int .i64)) ∧ xs.length ≤ 1000000000
/-- Rows that are copied (from the block L on), the queues of the first kc conditions and kq channels too. -/
def CqI (W : World) (L : Nat) (wr : World) (vM vC vQ : Value) (S : SS) (kc kq : Nat) : Prop :=
  ∃ T Am cm Ac cc Aq cq curM curC curQ,
    (vM = .slice Am S.os.length cm ∧ vC = .slice Ac S.cs.length cc ∧ vQ = .slice Aq S.qs.length cq) ∧
    (RowIs wr T 2 86 Am S.os.length curM ∧ RowIs wr T 3 99 Ac S.cs.length curC ∧ RowIs wr T 4 112 Aq S.qs.length curQ) ∧
    (∀ i (h : i < S.os.length), curM[i]? = some (.int .i64 S.os[i])) ∧
    (∀ i (h : i < S.cs.length), ∃ v, curC[i]? = some v ∧ (i < kc → QAt wr T (5 + 2 * i) 3 v S.cs[i]) ∧ (kc ≤ i → OldQ W 3 v S.cs[i])) ∧
    (∀ i (h : i < S.qs.length), ∃ v, curQ[i * 3]? = some v ∧ curQ[i * 3 + 1]? = some (.int .i64 S.qs[i].room) ∧ curQ[i * 3 + 2]? = some (.int .i64 S.qs[i].sent) ∧ (i < kq → QAt wr T (6 + 2 * i) 2 v S.qs[i].it) ∧ (kq ≤ i → OldQ W 2 v S.qs[i].it)) ∧
    (∀ g, T g ≠ 0 → L ≤ g ∧ g < wr.heap.size) ∧ W.heap.size ≤ L ∧ Kept noX W wr
section
variable {W wr W' : World} {L : Nat} {vM vC vQ : Value} {S : SS} {kc kq : Nat}
theorem CqI.kept {X : Nat → Prop} (h : CqI W L wr vM vC vQ S kc kq) (hk : Kept X wr W') (hx : ∀ g, X g → g < L) (hw : Kept noX W W') : CqI W L W' vM vC vQ S kc kq := by
  obtain ⟨T, Am, cm, Ac, cc, Aq, cq, curM, curC, curQ, h1, ⟨h2, h3, h4⟩, h5, h6, h7, h8, h9, h10⟩ := h
  have hn : ∀ tag, 0 < tag → ∀ g, g < wr.heap.size → T g = tag → ¬ X g := fun tag h0 g _ ht hX => by have := (h8 g (by omega)).1; have := hx g hX; omega
  exact ⟨T, Am, cm, Ac, cc, Aq, cq, curM, curC, curQ, h1, ⟨h2.kept hk (hn 2 (by omega)) (fun _ _ => rfl), h3.kept hk (hn 3 (by omega)) (fun _ _ => rfl), h4.kept hk (hn 4 (by omega)) (fun _ _ => rfl)⟩, h5,
    fun i hi => by obtain ⟨v, a, b, c⟩ := h6 i hi; exact ⟨v, a, fun hl => (b hl).kept hk (hn _ (by omega)) (fun _ _ => rfl), c⟩,
    fun i hi => by obtain ⟨v, a, b, c, d, e⟩ := h7 i hi; exact ⟨v, a, b, c, fun hl => (d hl).kept hk (hn _ (by omega)) (fun _ _ => rfl), e⟩,
    fun g hg => ⟨(h8 g hg).1, Nat.lt_of_lt_of_le (h8 g hg).2 hk.size⟩, h9, hw⟩
theorem CqI.keep (h : CqI W L wr vM vC vQ S kc kq) (hk : Kept noX wr W') : CqI W L W' vM vC vQ S kc kq := h.kept hk (fun _ h => h.elim) (by obtain ⟨_, _, _, _, _, _, _, _, _, _, _, _, _, _, _, _, _, h10⟩ := h; exact h10.trans hk)
theorem OldQ.now {t : TypeId} {v : Value} {xs : List Int} (h : OldQ W t v xs) (hk : Kept noX W wr) : wr.ownsRow 0 t 1 v xs.length (xs.map (.int .i64)) := own_kept h.1 hk (fun _ _ h => h)
/-- The next condition's queue. -/
theorem CqI.stepC (h : CqI W L wr vM vC vQ S kc kq) (hlt : kc < S.cs.length) : ∃ g cc cur v, vC = .slice (some ⟨g, 0, none⟩) S.cs.length cc ∧ L ≤ g ∧ Cells wr g 99 cur ∧ cur[kc]? = some v ∧ wr.ownsRow 0 3 1 v S.cs[kc].length (S.cs[kc].map (.int .i64)) ∧ S.cs[kc].length ≤ 1000000000 ∧
    ∀ v' W', Cells W' g 99 (cur.set kc v') → W'.ownsRow wr.heap.size 3 1 v' S.cs[kc].length (S.cs[kc].map (.int .i64)) → Kept (· = g) wr W' → CqI W L W' vM vC vQ S (kc + 1) kq := by
  obtain ⟨T, Am, cm, Ac, cc, Aq, cq, curM, curC, curQ, ⟨rfl, rfl, rfl⟩, ⟨h2, h3, h4⟩, h5, h6, h7, h8, h9, h10⟩ := h
  obtain ⟨g, rfl, hC, hg⟩ := h3 (by omega)
  obtain ⟨v, hv, -, hold⟩ := h6 kc hlt
  have ho := hold (Nat.le_refl _)
  have hgL := (h8 g (by omega)).1
  refine ⟨g, cc, curC, v, rfl, hgL, hC, hv, ho.now h10, ho.2, fun v' W' hC' hO' hk => ?_⟩
  have hgl := hC.lt
  have hT : ∀ x, x < wr.heap.size → (fun x => if v'.ownBlock = some x then 5 + 2 * kc else T x) x = T x := fun x hx => by
    dsimp only
    rw [if_neg (fun hb => by have := own_ge hO' hb; omega)]
  have hn : ∀ tag, tag ≠ 3 → ∀ x, x < wr.heap.size → T x = tag → ¬ x = g := fun tag h0 x _ ht hX => by subst hX; omega
  refine ⟨fun x => if v'.ownBlock = some x then 5 + 2 * kc else T x, Am, cm, _, cc, Aq, cq, curM, curC.set kc v', curQ, ⟨rfl, rfl, rfl⟩, ⟨h2.kept hk (hn 2 (by omega)) hT, fun _ => ⟨g, rfl, hC', (hT g hgl).trans hg⟩, h4.kept hk (hn 4 (by omega)) hT⟩, h5, fun i hi => ?_, fun i hi => ?_, fun x hx => ?_, h9, h10.own hk (by omega)⟩
  · by_cases e : i = kc
    · subst e
      refine ⟨v', by rw [List.getElem?_set_self (by have := (List.getElem?_eq_some_iff.1 hv).1; exact this)], fun _ => ⟨own_low hO' (Nat.zero_le _), fun x hx => if_pos hx, ho.2⟩, fun hl => absurd hl (by omega)⟩
    · obtain ⟨u, a, b, c⟩ := h6 i hi
      exact ⟨u, by rw [List.getElem?_set_ne (fun h => e h.symm)]; exact a, fun hl => (b (by omega)).kept hk (hn _ (by omega)) hT, fun hl => c (by omega)⟩
  · obtain ⟨u, a, b, c, d, e⟩ := h7 i hi
    exact ⟨u, a, b, c, fun hl => (d hl).kept hk (hn _ (by omega)) hT, e⟩
  · have hs := hk.size
    by_cases hb : v'.ownBlock = some x
    · have := own_ge hO' hb
      have := own_lt hO' hb
      exact ⟨by omega, by omega⟩
    · dsimp only at hx
      rw [if_neg hb] at hx
      have := h8 x hx
      exact ⟨this.1, by omega⟩
/-- The next channel's queue. -/
theorem CqI.stepQ (h : CqI W L wr vM vC vQ S kc kq) (hlt : kq < S.qs.length) : ∃ g cc cur v, vQ = .slice (some ⟨g, 0, none⟩) S.qs.length cc ∧ L ≤ g ∧ Cells wr g 112 cur ∧ cur[kq * 3]? = some v ∧ wr.ownsRow 0 2 1 v S.qs[kq].it.length (S.qs[kq].it.map (.int .i64)) ∧ S.qs[kq].it.length ≤ 1000000000 ∧
    ∀ v' W', Cells W' g 112 (cur.set (kq * 3) v') → W'.ownsRow wr.heap.size 2 1 v' S.qs[kq].it.length (S.qs[kq].it.map (.int .i64)) → Kept (· = g) wr W' → CqI W L W' vM vC vQ S kc (kq + 1) := by
  obtain ⟨T, Am, cm, Ac, cc, Aq, cq, curM, curC, curQ, ⟨rfl, rfl, rfl⟩, ⟨h2, h3, h4⟩, h5, h6, h7, h8, h9, h10⟩ := h
  obtain ⟨g, rfl, hC, hg⟩ := h4 (by omega)
  obtain ⟨v, hv, hv1, hv2, -, hold⟩ := h7 kq hlt
  have ho := hold (Nat.le_refl _)
  have hgL := (h8 g (by omega)).1
  refine ⟨g, cq, curQ, v, rfl, hgL, hC, hv, ho.now h10, ho.2, fun v' W' hC' hO' hk => ?_⟩
  have hgl := hC.lt
  have hT : ∀ x, x < wr.heap.size → (fun x => if v'.ownBlock = some x then 6 + 2 * kq else T x) x = T x := fun x hx => by
    dsimp only
    rw [if_neg (fun hb => by have := own_ge hO' hb; omega)]
  have hn : ∀ tag, tag ≠ 4 → ∀ x, x < wr.heap.size → T x = tag → ¬ x = g := fun tag h0 x _ ht hX => by subst hX; omega
  refine ⟨fun x => if v'.ownBlock = some x then 6 + 2 * kq else T x, Am, cm, Ac, cc, _, cq, curM, curC, curQ.set (kq * 3) v', ⟨rfl, rfl, rfl⟩, ⟨h2.kept hk (hn 2 (by omega)) hT, h3.kept hk (hn 3 (by omega)) hT, fun _ => ⟨g, rfl, hC', (hT g hgl).trans hg⟩⟩, h5, fun i hi => ?_, fun i hi => ?_, fun x hx => ?_, h9, h10.own hk (by omega)⟩
  · obtain ⟨u, a, b, c⟩ := h6 i hi
    exact ⟨u, a, fun hl => (b hl).kept hk (hn _ (by omega)) hT, c⟩
  · by_cases e : i = kq
    · subst e
      exact ⟨v', by rw [List.getElem?_set_self (by have := (List.getElem?_eq_some_iff.1 hv).1; exact this)], by rw [List.getElem?_set_ne (by omega)]; exact hv1, by rw [List.getElem?_set_ne (by omega)]; exact hv2, fun _ => ⟨own_low hO' (Nat.zero_le _), fun x hx => if_pos hx, ho.2⟩, fun hl => absurd hl (by omega)⟩
    · obtain ⟨u, a, b, c, d, f⟩ := h7 i hi
      exact ⟨u, by rw [List.getElem?_set_ne (by omega)]; exact a, by rw [List.getElem?_set_ne (by omega)]; exact b, by rw [List.getElem?_set_ne (by omega)]; exact c, fun hl => (d (by omega)).kept hk (hn _ (by omega)) hT, fun hl => f (by omega)⟩
  · have hs := hk.size
    by_cases hb : v'.ownBlock = some x
    · have := own_ge hO' hb
      have := own_lt hO' hb
      exact ⟨by omega, by omega⟩
    · dsimp only at hx
      rw [if_neg hb] at hx
      have := h8 x hx
      exact ⟨this.1, by omega⟩
/-- All is copied: a box around it is a state. -/
theorem CqI.sync (h : CqI W L wr vM vC vQ S S.cs.length S.qs.length) (hb : S.os.length ≤ 64 ∧ S.cs.length ≤ 64 ∧ S.qs.length ≤ 64) : ∃ T, SyAt (wr.alloc (.cells #[.bool true, vM, vC, vQ] 79)) T wr.heap.size S ∧ (∀ g, T g ≠ 0 → W.heap.size ≤ g) ∧ Kept noX W (wr.alloc (.cells #[.bool true, vM, vC, vQ] 79)) := by
  obtain ⟨T, Am, cm, Ac, cc, Aq, cq, curM, curC, curQ, ⟨rfl, rfl, rfl⟩, ⟨h2, h3, h4⟩, h5, h6, h7, h8, h9, h10⟩ := h
  have hk : ∀ o, Kept noX wr (wr.alloc o) := fun o => (Kept.refl _ _).alloc _
  have hT : ∀ x, x < wr.heap.size → (fun x => if x = wr.heap.size then 1 else T x) x = T x := fun x hx => if_neg (by omega)
  have hn : ∀ tag, ∀ x, x < wr.heap.size → T x = tag → ¬ noX x := fun _ _ _ _ h => h
  have hs := h10.size
  refine ⟨fun x => if x = wr.heap.size then 1 else T x, ⟨Am, Ac, Aq, cm, cc, cq, curM, curC, curQ, ⟨Cells.fresh wr 79 _, if_pos rfl⟩, ⟨h2.kept (hk _) (hn 2) hT, h3.kept (hk _) (hn 3) hT, h4.kept (hk _) (hn 4) hT⟩, h5, fun i hi => ?_, fun i hi => ?_, fun x hx => ?_, hb⟩, fun x hx => ?_, h10.trans (hk _)⟩
  · obtain ⟨u, a, b, _⟩ := h6 i hi
    exact ⟨u, a, (b hi).kept (hk _) (hn _) hT⟩
  · obtain ⟨u, a, b, c, d, _⟩ := h7 i hi
    exact ⟨u, a, b, c, (d hi).kept (hk _) (hn _) hT⟩
  · rw [World.size_alloc]
    by_cases e : x = wr.heap.size
    · omega
    · dsimp only at hx
      rw [if_neg e] at hx
      have := (h8 x hx).2
      omega
  · by_cases e : x = wr.heap.size
    · omega
    · dsimp only at hx
      rw [if_neg e] at hx
      have := (h8 x hx).1
      omega
end
end Go.Proofs.Ytehcfahfbdphpaa
namespace Go.Proofs.Ytehcfahfbdphpaa
open Go.RowKit Go.Shelf

theorem own_rowis {wr : World} {L : Nat} {t : TypeId} {size n : Nat} {v : Value} {xs : List Value} (h : wr.ownsRow L t size v n xs) : ∃ A c cur, v = .slice A n c ∧ (0 < n → ∃ g, A = some ⟨g, 0, none⟩ ∧ Cells wr g t cur ∧ v.ownBlock = some g) ∧ ∀ j, j < n * size → cur[j]? = xs[j]? := by
  rcases h.2 with ⟨rfl, rfl⟩ | ⟨g, cap, cur, rfl, _, hg, h3, _, h4, h5⟩
  · exact ⟨none, 0, xs, rfl, fun h => absurd h (by omega), fun _ _ => rfl⟩
  · refine ⟨_, cap, cur.toList, rfl, fun _ => ⟨g, rfl, by unfold Cells; simpa using hg, rfl⟩, fun j hj => ?_⟩
    rw [← h5, List.getElem?_take, if_pos hj]
theorem own_geS {wr : World} {L : Nat} {t : TypeId} {size n : Nat} {v : Value} {xs : List Value} {g : Nat} (h : wr.ownsRow L t size v n xs) (hv : v.ownBlock = some g) : L ≤ g := by
  rcases h.2 with ⟨rfl, _⟩ | ⟨g1, c1, cur1, rfl, hb, _⟩
  · cases hv
  · obtain rfl : g1 = g := Option.some.inj hv
    exact hb
theorem own_lowS {wr : World} {b c : Nat} {t : TypeId} {size n : Nat} {v : Value} {xs : List Value} (h : wr.ownsRow c t size v n xs) (hb : b ≤ c) : wr.ownsRow b t size v n xs := by
  refine ⟨h.1, ?_⟩
  rcases h.2 with hn | ⟨g, cap, cur, rfl, h1, rest⟩
  · exact .inl hn
  · exact .inr ⟨g, cap, cur, rfl, Nat.le_trans hb h1, rest⟩
theorem CqI.begin {W wr : World} {L : Nat} {vM vC vQ : Value} {S : SS} {nC nQ : List Value} (hw : Kept noX W wr) (hL : W.heap.size ≤ L) (hM : wr.ownsRow L 86 1 vM S.os.length (S.os.map (.int .i64))) (hC : wr.ownsRow L 99 1 vC S.cs.length nC) (hQ : wr.ownsRow L 112 3 vQ S.qs.length nQ)
    (hc : ∀ i (h : i < S.cs.length), ∃ v, nC[i]? = some v ∧ OldQ W 3 v S.cs[i]) (hq : ∀ i (h : i < S.qs.length), ∃ v, nQ[i * 3]? = some v ∧ nQ[i * 3 + 1]? = some (.int .i64 S.qs[i].room) ∧ nQ[i * 3 + 2]? = some (.int .i64 S.qs[i].sent) ∧ OldQ W 2 v S.qs[i].it) : CqI W L wr vM vC vQ S 0 0 := by
  obtain ⟨Am, cm, curM, hvM, rM, tM⟩ := own_rowis hM
  obtain ⟨Ac, cc, curC, hvC, rC, tC⟩ := own_rowis hC
  obtain ⟨Aq, cq, curQ, hvQ, rQ, tQ⟩ := own_rowis hQ
  refine ⟨fun g => if vM.ownBlock = some g then 2 else if vC.ownBlock = some g then 3 else if vQ.ownBlock = some g then 4 else 0, Am, cm, Ac, cc, Aq, cq, curM, curC, curQ, ⟨hvM, hvC, hvQ⟩, ⟨fun h0 => ?_, fun h0 => ?_, fun h0 => ?_⟩, fun i hi => ?_, fun i hi => ?_, fun i hi => ?_, fun g hg => ?_, hL, hw⟩
  · obtain ⟨g, h1, h2, h3⟩ := rM h0
    exact ⟨g, h1, h2, if_pos h3⟩
  · obtain ⟨g, h1, h2, h3⟩ := rC h0
    exact ⟨g, h1, h2, by dsimp only; rw [if_neg (own_ne hM h2 (by decide)), if_pos h3]⟩
  · obtain ⟨g, h1, h2, h3⟩ := rQ h0
    exact ⟨g, h1, h2, by dsimp only; rw [if_neg (own_ne hM h2 (by decide)), if_neg (own_ne hC h2 (by decide)), if_pos h3]⟩
  · rw [tM i (by omega)]
    simp [hi]
  · obtain ⟨v, h1, h2⟩ := hc i hi
    exact ⟨v, by rw [tC i (by omega)]; exact h1, fun h => absurd h (by omega), fun _ => h2⟩
  · obtain ⟨v, h1, h2, h3, h4⟩ := hq i hi
    exact ⟨v, by rw [tQ _ (by omega)]; exact h1, by rw [tQ _ (by omega)]; exact h2, by rw [tQ _ (by omega)]; exact h3, fun h => absurd h (by omega), fun _ => h4⟩
  · dsimp only at hg
    by_cases h1 : vM.ownBlock = some g
    · exact ⟨own_ge hM h1, own_lt hM h1⟩
    · rw [if_neg h1] at hg
      by_cases h2 : vC.ownBlock = some g
      · exact ⟨own_ge hC h2, own_lt hC h2⟩
      · rw [if_neg h2] at hg
        by_cases h3 : vQ.ownBlock = some g
        · exact ⟨own_geS hQ h3, own_lt hQ h3⟩
        · rw [if_neg h3] at hg
          exact absurd rfl hg
/-- The first so many cells of a row that is all there. -/
theorem take_len {α : Type} {l : List α} {n : Nat} (h : ∀ i, i < n → ∃ v, l[i]? = some v) : (l.take n).length = n := by
  rw [List.length_take]
  rcases Nat.eq_zero_or_pos n with h0 | h0
  · omega
  · obtain ⟨v, hv⟩ := h (n - 1) (by omega)
    have := (List.getElem?_eq_some_iff.1 hv).1
    omega
section
variable {W : World} {T : Nat → Nat} {p : Nat} {S : SS} (h : SyAt W T p S)
include h
set_option maxRecDepth 100000 in
set_option maxHeartbeats 8000000 in
theorem copied_any : Calls Try.prog 55 #[.pointer (some ⟨p, 0, none⟩)] W fun e W' => ∃ vM vC vQ, e = .returned (.agg #[.bool true, vM, vC, vQ]) ∧ CqI W (W.heap.size + 2) W' vM vC vQ S S.cs.length S.qs.length := by
  obtain ⟨Am, Ac, Aq, cm, cc, cq, curM, curC, curQ, ⟨hp, hTp⟩, ⟨hM, hC, hQ⟩, hos, hcs, hqs, hTl, hb1, hb2, hb3⟩ := h
  have c0 := hp.cell 0
  have cM := hp.cell 1
  have cC := hp.cell 2
  have cQ := hp.cell 3
  simp only [List.getElem?_cons_zero, List.getElem?_cons_succ] at c0 cM cC cQ
  have hlC : (curC.take S.cs.length).length = S.cs.length := take_len (fun i hi => by obtain ⟨v, hv, _⟩ := hcs i hi; exact ⟨v, hv⟩)
  have hlQ : (curQ.take (S.qs.length * 3)).length = S.qs.length * 3 := take_len (fun i hi => by
    obtain ⟨v, a, b, c, _⟩ := hqs (i / 3) (by omega)
    have : i = i / 3 * 3 ∨ i = i / 3 * 3 + 1 ∨ i = i / 3 * 3 + 2 := by omega
    rcases this with e | e | e
    · rw [e]; exact ⟨_, a⟩
    · rw [e]; exact ⟨_, b⟩
    · rw [e]; exact ⟨_, c⟩)
  have HM := Lib.hid (fun w' (hk : Kept noX W w') => cloneM_cells Am S.os.length cm (S.os.map (.int .i64)) (by simp) w' (fun h0 => by
    obtain ⟨g, rfl, hg, _⟩ := hM h0
    refine ⟨g, 0, rfl, fun j u hj => ?_⟩
    have hj0 : j < S.os.length := by have := (List.getElem?_eq_some_iff.1 hj).1; simpa using this
    rw [Nat.zero_add, (hg.keep hk).cell, hos j hj0, ← hj]
    simp [hj0]) (fun u hu => by obtain ⟨q, _, rfl⟩ := List.mem_map.1 hu; rfl) (by omega))
  have HC := Lib.hid (fun w' (hk : Kept noX W w') => cloneC_cells Ac S.cs.length cc (curC.take S.cs.length) (by omega) w' (fun h0 => by
    obtain ⟨g, rfl, hg, _⟩ := hC h0
    refine ⟨g, 0, rfl, fun j u hj => ?_⟩
    have hj0 : j < S.cs.length := by have := (List.getElem?_eq_some_iff.1 hj).1; omega
    rw [Nat.zero_add, (hg.keep hk).cell, ← hj, List.getElem?_take, if_pos hj0]) (fun u hu => by
    obtain ⟨j, hj, rfl⟩ := List.mem_iff_getElem.1 hu
    obtain ⟨v, hv, hq⟩ := hcs j (by omega)
    obtain ⟨A, c, rfl⟩ := hq.form
    rw [List.getElem_take]
    rw [(List.getElem?_eq_some_iff.1 hv).2]
    rfl) (by omega))
  have HQ := Lib.hid (fun w' (hk : Kept noX W w') => cloneQ_cells Aq S.qs.length cq (curQ.take (S.qs.length * 3)) (by omega) w' (fun h0 => by
    obtain ⟨g, rfl, hg, _⟩ := hQ h0
    refine ⟨g, 0, rfl, fun j u hj => ?_⟩
    have hj0 : j < S.qs.length * 3 := by have := (List.getElem?_eq_some_iff.1 hj).1; omega
    rw [Nat.zero_add, (hg.keep hk).cell, ← hj, List.getElem?_take, if_pos hj0]) (fun u hu => by
    obtain ⟨j, hj, rfl⟩ := List.mem_iff_getElem.1 hu
    obtain ⟨v, a, b, c, hq⟩ := hqs (j / 3) (by omega)
    obtain ⟨A, c', rfl⟩ := hq.form
    rw [List.getElem_take]
    have : j = j / 3 * 3 ∨ j = j / 3 * 3 + 1 ∨ j = j / 3 * 3 + 2 := by omega
    rcases this with e | e | e
    · rw [← e] at a; rw [(List.getElem?_eq_some_iff.1 a).2]; rfl
    · rw [← e] at b; rw [(List.getElem?_eq_some_iff.1 b).2]; rfl
    · rw [← e] at c; rw [(List.getElem?_eq_some_iff.1 c).2]; rfl) (by omega))
  have HCO := Lib.hid (show ∀ i (h : i < S.cs.length), ∃ v, (curC.take S.cs.length)[i]? = some v ∧ OldQ W 3 v S.cs[i] from fun i hi => by
    obtain ⟨v, hv, hq⟩ := hcs i hi
    exact ⟨v, by rw [List.getElem?_take, if_pos hi]; exact hv, hq.1, hq.2.2⟩)
  have HQO := Lib.hid (show ∀ i (h : i < S.qs.length), ∃ v, (curQ.take (S.qs.length * 3))[i * 3]? = some v ∧ (curQ.take (S.qs.length * 3))[i * 3 + 1]? = some (.int .i64 S.qs[i].room) ∧ (curQ.take (S.qs.length * 3))[i * 3 + 2]? = some (.int .i64 S.qs[i].sent) ∧ OldQ W 2 v S.qs[i].it from fun i hi => by
    obtain ⟨v, a, b, c, hq⟩ := hqs i hi
    exact ⟨v, by rw [List.getElem?_take, if_pos (by omega)]; exact a, by rw [List.getElem?_take, if_pos (by omega)]; exact b, by rw [List.getElem?_take, if_pos (by omega)]; exact c, hq.1, hq.2.2⟩)
  have hpl := hp.lt
  clear hp hM hC hQ hcs hqs hTl hos hTp hlC hlQ
  generalize curC.take S.cs.length = nC at *
  generalize curQ.take (S.qs.length * 3) = nQ at *
  have mixed : Try.prog.follows .mixedOrders = true := by kernel_rfl
  go_enter Try.func55, Try.ntmps55
  go_wp2_with fail
  obtain ⟨W0, hW0⟩ : ∃ W0, W0 = (W.alloc (.cells #[.bool false, .slice none 0 0, .slice none 0 0, .slice none 0 0] 76)).alloc (.cells #[.bool true, .slice Am S.os.length cm, .slice Ac S.cs.length cc, .slice Aq S.qs.length cq] 76) := ⟨_, rfl⟩
  have hk0 : Kept noX W W0 := hW0 ▸ ((Kept.refl _ _).alloc _).alloc _
  have hB2 : Cells W0 W.heap.size 76 [.bool false, .slice none 0 0, .slice none 0 0, .slice none 0 0] := hW0 ▸ (Cells.fresh W 76 _).alloc _
  have hB3 : Cells W0 (W.heap.size + 1) 76 [.bool true, .slice Am S.os.length cm, .slice Ac S.cs.length cc, .slice Aq S.qs.length cq] := hW0 ▸ (by have h := Cells.fresh (W.alloc (.cells #[.bool false, .slice none 0 0, .slice none 0 0, .slice none 0 0] 76)) 76 [.bool true, .slice Am S.os.length cm, .slice Ac S.cs.length cc, .slice Aq S.qs.length cq]; rwa [World.size_alloc] at h)
  have hs0 : W0.heap.size = W.heap.size + 2 := by rw [hW0, World.size_alloc, World.size_alloc]
  rw [← hW0]
  clear hW0
  have k1 := hk0.cell cM
  have k2 := hk0.cell cC
  have k3 := hk0.cell cQ
  have HB2 := Lib.hid hB2
  have HB3 := Lib.hid hB3
  have HK0 := Lib.hid hk0
  have HS0 := Lib.hid hs0
  have hpB : ¬ p = W.heap.size + 1 := by omega
  have hHeld0 := (⟨k1, k2, k3⟩ : _ ∧ _ ∧ _)
  clear c0 cM cC cQ hB2 hB3 hk0 hs0 hpl
  refine wp_region_held_drew (S := (fun w' => w'.cell? ⟨p, 1, none⟩ = some (.slice Am S.os.length cm) ∧ w'.cell? ⟨p, 2, none⟩ = some (.slice Ac S.cs.length cc) ∧ w'.cell? ⟨p, 3, none⟩ = some (.slice Aq S.qs.length cq))) (by kernel_rfl) hHeld0 (fun hHeld => ?_)
  refine wpAnyH_take (i := 0) (v := ?_) rfl (by kernel_rfl) (by kernel_rfl) (by kernel_rfl) (fun _ _ _ h => h) (Or.inl ⟨by rfl, ?_⟩) (by assumption) ?_
  rotate_left
  · intro wS hSw
    (try dsimp only at hSw)
    go_simp
    (try with_reducible rfl)
  refine wpAnyH_take (i := 1) (v := ?_) rfl (by kernel_rfl) (by kernel_rfl) (by kernel_rfl) (fun _ _ _ h => h) (Or.inl ⟨by rfl, ?_⟩) (by assumption) ?_
  rotate_left
  · intro wS hSw
    (try dsimp only at hSw)
    go_simp
    (try with_reducible rfl)
  refine wpAnyH_take (i := 2) (v := ?_) rfl (by kernel_rfl) (by kernel_rfl) (by kernel_rfl) (fun _ _ _ h => h) (Or.inl ⟨by rfl, ?_⟩) (by assumption) ?_
  rotate_left
  · intro wS hSw
    (try dsimp only at hSw)
    go_simp
    (try with_reducible rfl)
  refine wpAnyH_take (i := 3) (v := ?_) rfl (by kernel_rfl) (by kernel_rfl) (by kernel_rfl) (fun _ _ _ h => h) (Or.inl ⟨by rfl, ?_⟩) (by assumption) ?_
  rotate_left
  · intro wS hSw
    (try dsimp only at hSw)
    go_simp
    (try with_reducible rfl)
  (try simp only [Act.put, List.getElem_toArray, List.getElem_cons_succ, List.getElem_cons_zero, List.setIfInBounds_toArray, List.set_cons_zero, List.set_cons_succ])
  refine wpAnyH_take (i := 5) (v := ?_) rfl (by kernel_rfl) (by kernel_rfl) (by kernel_rfl) (fun _ _ _ h => h) (Or.inl ⟨by rfl, ?_⟩) (by assumption) ?_
  rotate_left
  · intro wS hSw
    (try dsimp only at hSw)
    go_simp
    (try with_reducible rfl)
  refine wpAnyH_take (i := 6) (v := ?_) rfl (by kernel_rfl) (by kernel_rfl) (by kernel_rfl) (fun _ _ _ h => h) (Or.inl ⟨by rfl, ?_⟩) (by assumption) ?_
  rotate_left
  · intro wS hSw
    (try dsimp only at hSw)
    go_simp
    (try with_reducible rfl)
  refine wpAnyH_take (i := 7) (v := ?_) rfl (by kernel_rfl) (by kernel_rfl) (by kernel_rfl) (fun _ _ _ h => h) (Or.inl ⟨by rfl, ?_⟩) (by assumption) ?_
  rotate_left
  · intro wS hSw
    (try dsimp only at hSw)
    go_simp
    (try with_reducible rfl)
  refine wpAnyH_take (i := 8) (v := ?_) rfl (by kernel_rfl) (by kernel_rfl) (by kernel_rfl) (fun _ _ _ h => h) (Or.inl ⟨by rfl, ?_⟩) (by assumption) ?_
  rotate_left
  · intro wS hSw
    (try dsimp only at hSw)
    go_simp
    (try with_reducible rfl)
  (try simp only [Act.put, List.getElem_toArray, List.getElem_cons_succ, List.getElem_cons_zero, List.setIfInBounds_toArray, List.set_cons_zero, List.set_cons_succ])
  refine wpAnyH_take (i := 10) (v := ?_) rfl (by kernel_rfl) (by kernel_rfl) (by kernel_rfl) (fun _ _ _ h => h) (Or.inl ⟨by rfl, ?_⟩) (by assumption) ?_
  rotate_left
  · intro wS hSw
    (try dsimp only at hSw)
    go_simp
    (try with_reducible rfl)
  refine wpAnyH_take (i := 11) (v := ?_) rfl (by kernel_rfl) (by kernel_rfl) (by kernel_rfl) (fun _ _ _ h => h) (Or.inl ⟨by rfl, ?_⟩) (by assumption) ?_
  rotate_left
  · intro wS hSw
    (try dsimp only at hSw)
    go_simp
    (try with_reducible rfl)
  refine wpAnyH_take (i := 12) (v := ?_) rfl (by kernel_rfl) (by kernel_rfl) (by kernel_rfl) (fun _ _ _ h => h) (Or.inl ⟨by rfl, ?_⟩) (by assumption) ?_
  rotate_left
  · intro wS hSw
    (try dsimp only at hSw)
    go_simp
    (try with_reducible rfl)
  refine wpAnyH_take (i := 13) (v := ?_) rfl (by kernel_rfl) (by kernel_rfl) (by kernel_rfl) (fun _ _ _ h => h) (Or.inl ⟨by rfl, ?_⟩) (by assumption) ?_
  rotate_left
  · intro wS hSw
    (try dsimp only at hSw)
    go_simp
    (try with_reducible rfl)
  (try simp only [Act.put, List.getElem_toArray, List.getElem_cons_succ, List.getElem_cons_zero, List.setIfInBounds_toArray, List.set_cons_zero, List.set_cons_succ])
  refine wpAnyH_ready (rs := [4]) (by kernel_rfl) (by simp) ?_
  refine (AllReadyH.cons rfl (fun K hK => ?_) AllReadyH.nil)
  go_simp
  refine (HM.out _ HK0.out.drew).mono ?_
  rintro e W3 ⟨vM, rfl, hoM, hk3⟩
  replace hk3 := ((Kept.refl noX W0).drew).trans hk3
  obtain ⟨AM, dM, _, rfl, -, -⟩ := own_rowis hoM
  refine hK.out _ _ ⟨hk3.cell k1, hk3.cell k2, hk3.cell k3⟩ (fun hHeld => ?_)
  clear hK K
  (try simp only [Act.put, List.getElem_toArray, List.getElem_cons_succ, List.getElem_cons_zero, List.setIfInBounds_toArray, List.set_cons_zero, List.set_cons_succ])
  refine wpAnyH_take (i := 15) (v := ?_) rfl (by kernel_rfl) (by kernel_rfl) (by kernel_rfl) (fun _ _ _ h => h) (Or.inl ⟨by rfl, ?_⟩) (by assumption) ?_
  rotate_left
  · intro wS hSw
    (try dsimp only at hSw)
    go_simp
    (try with_reducible rfl)
  (try simp only [Act.put, List.getElem_toArray, List.getElem_cons_succ, List.getElem_cons_zero, List.setIfInBounds_toArray, List.set_cons_zero, List.set_cons_succ])
  refine wpAnyH_ready (rs := [9]) (by kernel_rfl) (by simp) ?_
  refine (AllReadyH.cons rfl (fun K hK => ?_) AllReadyH.nil)
  go_simp
  refine (HC.out _ (HK0.out.trans hk3)).mono ?_
  rintro e W4 ⟨vC, rfl, hoC, hk4⟩
  have hk34 := hk3.trans hk4
  obtain ⟨AC, dC, _, rfl, -, -⟩ := own_rowis hoC
  refine hK.out _ _ ⟨hk34.cell k1, hk34.cell k2, hk34.cell k3⟩ (fun hHeld => ?_)
  clear hK K
  (try simp only [Act.put, List.getElem_toArray, List.getElem_cons_succ, List.getElem_cons_zero, List.setIfInBounds_toArray, List.set_cons_zero, List.set_cons_succ])
  refine wpAnyH_ready (rs := [14]) (by kernel_rfl) (by simp) ?_
  refine (AllReadyH.cons rfl (fun K hK => ?_) AllReadyH.nil)
  go_simp
  refine (HQ.out _ (HK0.out.trans hk34)).mono ?_
  rintro e W5 ⟨vQ, rfl, hoQ, hk5⟩
  have hk35 := hk34.trans hk5
  obtain ⟨AQ, dQ, _, rfl, -, -⟩ := own_rowis hoQ
  refine hK.out _ _ ⟨hk35.cell k1, hk35.cell k2, hk35.cell k3⟩ (fun hHeld => ?_)
  clear hK K
  (try simp only [Act.put, List.getElem_toArray, List.getElem_cons_succ, List.getElem_cons_zero, List.setIfInBounds_toArray, List.set_cons_zero, List.set_cons_succ])
  have hX3 := HB3.out.keep hk35
  have x1 := hX3.cell 1
  have x2 := hX3.cell 2
  have x3 := hX3.cell 3
  have f1 := hX3.free 1
  have f2 := hX3.free 2
  have f3 := hX3.free 3
  simp only [List.getElem?_cons_zero, List.getElem?_cons_succ] at x1 x2 x3
  have HX3 := Lib.hid hX3
  have HO := Lib.hid (And.intro (own_kept hoM (hk4.trans hk5) (fun _ _ h => h)) (And.intro (own_kept hoC hk5 (fun _ _ h => h)) hoQ))
  have HK35 := Lib.hid hk35
  have HSZ := Lib.hid (And.intro hk3.size (And.intro hk34.size hk35.size))
  have hl1 := hk35.cell k1
  have hl2 := hk35.cell k2
  have hl3 := hk35.cell k3
  clear hX3 hoM hoC hoQ hk3 hk4 hk5 hk34 hk35 k1 k2 k3
  have hq1 : Kept (· = W.heap.size + 1) W5 (W5.setCell ⟨W.heap.size + 1, 1, none⟩ (.slice AM S.os.length dM)) := (Kept.refl (· = W.heap.size + 1) _).setCell (p := ⟨W.heap.size + 1, 1, none⟩) (fun _ => rfl) _
  have hq2 : Kept (· = W.heap.size + 1) W5 ((W5.setCell ⟨W.heap.size + 1, 1, none⟩ (.slice AM S.os.length dM)).setCell ⟨W.heap.size + 1, 2, none⟩ (.slice AC S.cs.length dC)) := hq1.setCell (p := ⟨W.heap.size + 1, 2, none⟩) (fun _ => rfl) _
  have hq3 : Kept (· = W.heap.size + 1) W5 (((W5.setCell ⟨W.heap.size + 1, 1, none⟩ (.slice AM S.os.length dM)).setCell ⟨W.heap.size + 1, 2, none⟩ (.slice AC S.cs.length dC)).setCell ⟨W.heap.size + 1, 3, none⟩ (.slice AQ S.qs.length dQ)) := hq2.setCell (p := ⟨W.heap.size + 1, 3, none⟩) (fun _ => rfl) _
  refine wpAnyH_ready (rs := [16]) (by kernel_rfl) (by simp) ?_
  refine (AllReadyH.cons rfl (fun K hK => ?_) AllReadyH.nil)
  go_simp
  refine hK.out _ _ ⟨hq1.cell_far hl1 hpB, hq1.cell_far hl2 hpB, hq1.cell_far hl3 hpB⟩ (fun hHeld => ?_)
  clear hK K
  (try simp only [Act.put, List.getElem_toArray, List.getElem_cons_succ, List.getElem_cons_zero, List.setIfInBounds_toArray, List.set_cons_zero, List.set_cons_succ])
  refine wpAnyH_take (i := 17) (v := ?_) rfl (by kernel_rfl) (by kernel_rfl) (by kernel_rfl) (fun _ _ _ h => h) (Or.inl ⟨by rfl, ?_⟩) (by assumption) ?_
  rotate_left
  · intro wS hSw
    (try dsimp only at hSw)
    go_simp
    (try with_reducible rfl)
  (try simp only [Act.put, List.getElem_toArray, List.getElem_cons_succ, List.getElem_cons_zero, List.setIfInBounds_toArray, List.set_cons_zero, List.set_cons_succ])
  refine wpAnyH_ready (rs := [18]) (by kernel_rfl) (by simp) ?_
  refine (AllReadyH.cons rfl (fun K hK => ?_) AllReadyH.nil)
  go_simp
  refine hK.out _ _ ⟨hq2.cell_far hl1 hpB, hq2.cell_far hl2 hpB, hq2.cell_far hl3 hpB⟩ (fun hHeld => ?_)
  clear hK K
  (try simp only [Act.put, List.getElem_toArray, List.getElem_cons_succ, List.getElem_cons_zero, List.setIfInBounds_toArray, List.set_cons_zero, List.set_cons_succ])
  refine wpAnyH_take (i := 19) (v := ?_) rfl (by kernel_rfl) (by kernel_rfl) (by kernel_rfl) (fun _ _ _ h => h) (Or.inl ⟨by rfl, ?_⟩) (by assumption) ?_
  rotate_left
  · intro wS hSw
    (try dsimp only at hSw)
    go_simp
    (try with_reducible rfl)
  (try simp only [Act.put, List.getElem_toArray, List.getElem_cons_succ, List.getElem_cons_zero, List.setIfInBounds_toArray, List.set_cons_zero, List.set_cons_succ])
  refine wpAnyH_ready (rs := [20]) (by kernel_rfl) (by simp) ?_
  refine (AllReadyH.cons rfl (fun K hK => ?_) AllReadyH.nil)
  go_simp
  refine hK.out _ _ ⟨hq3.cell_far hl1 hpB, hq3.cell_far hl2 hpB, hq3.cell_far hl3 hpB⟩ (fun hHeld => ?_)
  clear hK K
  (try simp only [Act.put, List.getElem_toArray, List.getElem_cons_succ, List.getElem_cons_zero, List.setIfInBounds_toArray, List.set_cons_zero, List.set_cons_succ])
  refine wpAnyH_done (by kernel_rfl) ?_ _
  (try simp only [Act.put, List.getElem_toArray, List.getElem_cons_succ, List.getElem_cons_zero, List.setIfInBounds_toArray, List.set_cons_zero, List.set_cons_succ])
  obtain ⟨W6, hW6⟩ : ∃ W6, W6 = (((W5.setCell ⟨W.heap.size + 1, 1, none⟩ (.slice AM S.os.length dM)).setCell ⟨W.heap.size + 1, 2, none⟩ (.slice AC S.cs.length dC)).setCell ⟨W.heap.size + 1, 3, none⟩ (.slice AQ S.qs.length dQ)) := ⟨_, rfl⟩
  have hX6 : Cells W6 (W.heap.size + 1) 76 [.bool true, .slice AM S.os.length dM, .slice AC S.cs.length dC, .slice AQ S.qs.length dQ] := hW6 ▸ ((HX3.out.put 1 _).put 2 _).put 3 _
  rw [← hW6] at hq3 ⊢
  have hI : CqI W (W.heap.size + 2) W6 (.slice AM S.os.length dM) (.slice AC S.cs.length dC) (.slice AQ S.qs.length dQ) S 0 0 := by
    have hs := HSZ.out
    have hs0 := HS0.out
    have hLB : ∀ v : Value, (∀ k, v.ownBlock = some k → W.heap.size + 2 ≤ k) → ∀ k, v.ownBlock = some k → ¬ k = W.heap.size + 1 := fun v hv k hk e => by have := hv k hk; omega
    have o1 := own_lowS HO.out.1 (show W.heap.size + 2 ≤ _ by rw [← hs0]; exact (Kept.refl noX W0).drew.size)
    have o2 := own_lowS HO.out.2.1 (show W.heap.size + 2 ≤ _ by omega)
    have o3 := own_lowS HO.out.2.2 (show W.heap.size + 2 ≤ _ by omega)
    exact CqI.begin ((HK0.out.trans HK35.out).own hq3 (by omega)) (by omega) (own_kept o1 hq3 (hLB _ (fun k hk => own_geS o1 hk))) (own_kept o2 hq3 (hLB _ (fun k hk => own_geS o2 hk))) (own_kept o3 hq3 (hLB _ (fun k hk => own_geS o3 hk))) HCO.out HQO.out
  have hZ6 := (HB2.out.keep HK35.out).kept hq3 (by omega)
  have HI := Lib.hid hI
  have HX6 := Lib.hid hX6
  have HZ6 := Lib.hid hZ6
  have g2 := hX6.cell 2
  simp only [List.getElem?_cons_zero, List.getElem?_cons_succ] at g2
  clear hI hX6 hZ6 hq1 hq2 hq3 hl1 hl2 hl3 x1 x2 x3 f1 f2 f3 HO HK35 HSZ HM HC HQ HCO HQO HX3 HB3 HB2 hW6 hHeld0 hHeld
  go_wp2_with fail
  go_loopw [30] (fun i wr => ∃ k : Nat, k ≤ S.cs.length ∧ i = .int .i64 k ∧ CqI W (W.heap.size + 2) wr (.slice AM S.os.length dM) (.slice AC S.cs.length dC) (.slice AQ S.qs.length dQ) S k 0 ∧ Cells wr (W.heap.size + 1) 76 [.bool true, .slice AM S.os.length dM, .slice AC S.cs.length dC, .slice AQ S.qs.length dQ] ∧ Cells wr W.heap.size 76 [.bool false, .slice none 0 0, .slice none 0 0, .slice none 0 0]) (fun i _ => S.cs.length - (intOf i).toNat)
  case atStart => exact ⟨0, Nat.zero_le _, rfl, HI.out, HX6.out, HZ6.out⟩
  case round =>
    obtain ⟨k, hk, rfl, h1, h2, h3⟩ := hrel
    have g2 := h2.cell 2
    simp only [List.getElem?_cons_zero, List.getElem?_cons_succ] at g2
    by_cases hlt : k < S.cs.length
    · have hdl : decide ((k : Int) < (S.cs.length : Int)) = true := by simpa using hlt
      obtain ⟨g, cc', cur, v, hvc, hgL, hC, hv, ho, hln, hnext⟩ := h1.stepC hlt
      injection hvc with hA _ hc
      subst hA hc
      have HPT := Lib.hid (part_any S.cs[k] g k 99 cur v wr hC hv ho hln)
      have HNX := Lib.hid hnext
      have HX := Lib.hid h2
      have HY := Lib.hid h3
      clear h1 h2 h3 hC hv ho hnext HI HX6 HZ6
      go_wp2_with fail
      refine HPT.out.mono ?_
      rintro e W7 ⟨rfl, v', hC', hO', hk7⟩
      have hnx := HNX.out v' W7 hC' hO' hk7
      have hX7 := HX.out.kept hk7 (by omega)
      have hY7 := HY.out.kept hk7 (by omega)
      have HNX := Lib.hid (And.intro hnx (And.intro hX7 hY7))
      clear hnx hX7 hY7 hC' hO' hk7
      go_wp2
      go_roundw
      case rel => exact ⟨k + 1, hlt, by go_num, HNX.out.1, HNX.out.2.1, HNX.out.2.2⟩
      case measure => simp [intOf]; omega
    · have hdl : decide ((k : Int) < (S.cs.length : Int)) = false := by simpa using hlt
      obtain rfl : k = S.cs.length := by omega
      have HI := Lib.hid h1
      have HX6 := Lib.hid h2
      have HZ6 := Lib.hid h3
      have g3 := h2.cell 3
      simp only [List.getElem?_cons_zero, List.getElem?_cons_succ] at g3
      clear h1 h2 h3 hk
      go_wp2_with fail
      clear hdl hlt
      go_loopw [43] (fun i wr => ∃ k : Nat, k ≤ S.qs.length ∧ i = .int .i64 k ∧ CqI W (W.heap.size + 2) wr (.slice AM S.os.length dM) (.slice AC S.cs.length dC) (.slice AQ S.qs.length dQ) S S.cs.length k ∧ Cells wr (W.heap.size + 1) 76 [.bool true, .slice AM S.os.length dM, .slice AC S.cs.length dC, .slice AQ S.qs.length dQ] ∧ Cells wr W.heap.size 76 [.bool false, .slice none 0 0, .slice none 0 0, .slice none 0 0]) (fun i _ => S.qs.length - (intOf i).toNat)
      case atStart => exact ⟨0, Nat.zero_le _, rfl, HI.out, HX6.out, HZ6.out⟩
      case round =>
        obtain ⟨k, hk, rfl, h1, h2, h3⟩ := hrel
        have g3 := h2.cell 3
        simp only [List.getElem?_cons_zero, List.getElem?_cons_succ] at g3
        by_cases hlt : k < S.qs.length
        · have hdl : decide ((k : Int) < (S.qs.length : Int)) = true := by simpa using hlt
          obtain ⟨g, cc', cur, v, hvc, hgL, hC, hv, ho, hln, hnext⟩ := h1.stepQ hlt
          injection hvc with hA _ hc
          subst hA hc
          have HPT := Lib.hid (part64_any S.qs[k].it g (k * 3) 112 cur v wr hC hv ho hln)
          have HNX := Lib.hid hnext
          have HX := Lib.hid h2
          have HY := Lib.hid h3
          clear h1 h2 h3 hC hv ho hnext HI HX6 HZ6
          go_wp2_with fail
          refine HPT.out.mono ?_
          rintro e W7 ⟨rfl, v', hC', hO', hk7⟩
          have hnx := HNX.out v' W7 hC' hO' hk7
          have hX7 := HX.out.kept hk7 (by omega)
          have hY7 := HY.out.kept hk7 (by omega)
          have HNX := Lib.hid (And.intro hnx (And.intro hX7 hY7))
          clear hnx hX7 hY7 hC' hO' hk7
          go_wp2
          go_roundw
          case rel => exact ⟨k + 1, hlt, by go_num, HNX.out.1, HNX.out.2.1, HNX.out.2.2⟩
          case measure => simp [intOf]; omega
        · have hdl : decide ((k : Int) < (S.qs.length : Int)) = false := by simpa using hlt
          obtain rfl : k = S.qs.length := by omega
          have x0 := h2.cell 0
          have x1 := h2.cell 1
          have x2 := h2.cell 2
          have y0 := h3.cell 0
          have y1 := h3.cell 1
          have y2 := h3.cell 2
          have y3 := h3.cell 3
          have f0 := h3.free 0
          have f1 := h3.free 1
          have f2 := h3.free 2
          have f3 := h3.free 3
          simp only [List.getElem?_cons_zero, List.getElem?_cons_succ] at x0 x1 x2 y0 y1 y2 y3
          have HI := Lib.hid h1
          have HZ := Lib.hid h3
          clear h1 h2 h3 hk HX6 HZ6
          go_wp2_with fail
          refine ret_box Try.results55 rfl ((((HZ.out.put 0 _).put 1 _).put 2 _).put 3 _) Try.underlying76 rfl (by kernel_rfl) rfl ?_
          have hkp : Kept (· = W.heap.size) wr ((((wr.setCell ⟨W.heap.size, 0, none⟩ (.bool true)).setCell ⟨W.heap.size, 1, none⟩ (.slice AM S.os.length dM)).setCell ⟨W.heap.size, 2, none⟩ (.slice AC S.cs.length dC)).setCell ⟨W.heap.size, 3, none⟩ (.slice AQ S.qs.length dQ)) := ((((Kept.refl (· = W.heap.size) _).setCell (p := ⟨W.heap.size, 0, none⟩) (fun _ => rfl) _).setCell (p := ⟨W.heap.size, 1, none⟩) (fun _ => rfl) _).setCell (p := ⟨W.heap.size, 2, none⟩) (fun _ => rfl) _).setCell (p := ⟨W.heap.size, 3, none⟩) (fun _ => rfl) _
          exact ⟨_, _, _, rfl, HI.out.kept hkp (fun g e => by have e' : g = W.heap.size := e; omega) (by obtain ⟨_, _, _, _, _, _, _, _, _, _, _, _, _, _, _, _, _, h10⟩ := HI.out; exact h10.own hkp (Nat.le_refl _))⟩
theorem copy_any : Calls Try.prog 26 #[.pointer (some ⟨p, 0, none⟩)] W fun e W' => ∃ q T', e = .returned (.pointer (some ⟨q, 0, none⟩)) ∧ SyAt W' T' q S ∧ (∀ g, T' g ≠ 0 → W.heap.size ≤ g) ∧ Kept noX W W' := by
  have hb : S.os.length ≤ 64 ∧ S.cs.length ≤ 64 ∧ S.qs.length ≤ 64 := by
    obtain ⟨_, _, _, _, _, _, _, _, _, _, _, _, _, _, _, hh⟩ := h
    exact hh
  have HC := Lib.hid (copied_any h)
  obtain ⟨Am, Ac, Aq, cm, cc, cq, curM, curC, curQ, ⟨hp, hTp⟩, ⟨hM, hC, hQ⟩, hos, hcs, hqs, hTl, hb1, hb2, hb3⟩ := h
  have c0 := hp.cell 0
  have cM := hp.cell 1
  have cC := hp.cell 2
  have cQ := hp.cell 3
  simp only [List.getElem?_cons_zero, List.getElem?_cons_succ] at c0 cM cC cQ
  clear hp hM hC hQ hcs hqs hTl hos hTp cM cC cQ
  go_enter Try.func26, Try.ntmps26
  go_wp2_with fail
  refine (whole_p p _).mono ?_
  rintro e W0 ⟨rfl, rfl⟩
  go_wp2_with fail
  refine HC.out.mono ?_
  rintro e W1 ⟨vM, vC, vQ, rfl, hI⟩
  obtain ⟨T', h1, h2, h3⟩ := hI.sync hb
  have H1 := Lib.hid (And.intro h1 (And.intro h2 h3))
  clear h1 h2 h3 hI
  go_wp2_with fail
  go_ret
  exact ⟨_, T', rfl, H1.out.1, H1.out.2.1, H1.out.2.2⟩
end
end Go.Proofs.Ytehcfahfbdphpaa
