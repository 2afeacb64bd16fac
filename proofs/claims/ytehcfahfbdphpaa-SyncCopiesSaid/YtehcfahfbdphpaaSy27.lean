/- Layer 4: the document's state in memory, and what its channels hold (conditions: none). -/
import Derived.Test.YtehcfahfbdphpaaSy24
import Derived.Test.YtehcfahfbdphpaaSy10
namespace Go.Proofs.Ytehcfahfbdphpaa
open Go.RowKit Go.Shelf

/-- The document's state: owners, who waits, rooms, all that was sent, how many were received. -/
structure RS where
  ow : List Int
  cs : List (List Int)
  rm : List Int
  st : List (List Int)
  tk : List Nat
abbrev dI (l : List Int) : List D := l.map (D.int .i64)
abbrev dL (l : List (List Int)) : List D := l.map fun l => D.row (dI l)
abbrev dN (l : List Nat) : List D := l.map fun n : Nat => D.int .i64 (n : Int)
def RV (W : World) (Z : Nat → Prop) (vs : List Value) (R : RS) : Prop :=
  ∃ v0 v1 v2 v3 v4, vs = [v0, v1, v2, v3, v4] ∧ RowV W Z v0 (dI R.ow) ∧ RowV W Z v1 (dL R.cs) ∧ RowV W Z v2 (dI R.rm) ∧ RowV W Z v3 (dL R.st) ∧ RowV W Z v4 (dN R.tk)
theorem RV.kept {W W' : World} {Z X : Nat → Prop} {vs : List Value} {R : RS} (h : RV W Z vs R) (hk : Kept X W W') (hx : ∀ g, g < W.heap.size → X g → Z g) : RV W' Z vs R := by
  obtain ⟨v0, v1, v2, v3, v4, h0, h1, h2, h3, h4, h5⟩ := h
  exact ⟨v0, v1, v2, v3, v4, h0, Rep.kept h1 hk hx, Rep.kept h2 hk hx, Rep.kept h3 hk hx, Rep.kept h4 hk hx, Rep.kept h5 hk hx⟩
theorem RV.keep {W W' : World} {Z : Nat → Prop} {vs : List Value} {R : RS} (h : RV W Z vs R) (hk : Kept noX W W') : RV W' Z vs R := h.kept hk (fun _ _ h => h.elim)
theorem RV.any {W : World} {Z : Nat → Prop} {vs : List Value} {R : RS} (h : RV W Z vs R) : RV W noX vs R := by
  obtain ⟨v0, v1, v2, v3, v4, h0, h1, h2, h3, h4, h5⟩ := h
  exact ⟨v0, v1, v2, v3, v4, h0, Rep.any h1, Rep.any h2, Rep.any h3, Rep.any h4, Rep.any h5⟩
/-- A list of lists, one of them. -/
theorem rowL_at {W : World} {Z : Nat → Prop} {v : Value} {xs : List (List Int)} (h : RowV W Z v (dL xs)) {i : Nat} (hi : i < xs.length) :
    ∃ b o c A n ci, v = .slice (some ⟨b, o, none⟩) xs.length c ∧ W.cell? ⟨b, o + i, none⟩ = some (.slice A n ci) ∧ n = xs[i].length ∧ RowV W Z (.slice A n ci) (dI xs[i]) := by
  obtain ⟨b, o, c, size, cs, h1, h2, h3, h4, h5⟩ := h.at_z (i := i) (by simpa [dL] using hi)
  have h3 : Rep W Z cs (.row (dI xs[i])) := by simpa [dL] using h3
  obtain ⟨u, rfl, hu⟩ := row_iff.1 h3
  have h2 : 1 = size := h2
  subst h2
  obtain ⟨A, n, ci, rfl, hn, _⟩ := hu.form
  refine ⟨b, o, c, A, n, ci, by simpa [dL] using h1, ?_, by simpa [dI] using hn, hu⟩
  have := h4 0 (by omega)
  simpa using this
theorem rowD_at {W : World} {Z : Nat → Prop} {v : Value} {xs : List Nat} (h : RowV W Z v (dN xs)) {i : Nat} (hi : i < xs.length) :
    ∃ b o c, v = .slice (some ⟨b, o, none⟩) xs.length c ∧ W.cell? ⟨b, o + i, none⟩ = some (.int .i64 (xs[i] : Nat)) := by
  have h' : RowV W Z v ((xs.map fun n : Nat => (n : Int)).map (D.int .i64)) := by simpa [dN, List.map_map, Function.comp_def] using h
  obtain ⟨b, o, c, h1, h2, _⟩ := rowN_at h' (i := i) (by simpa using hi)
  exact ⟨b, o, c, by simpa using h1, by simpa using h2⟩
/-- What is left of a row behind its first k. -/
theorem row_drop {W : World} {Z : Nat → Prop} {b o o' c k : Nat} {xs : List Int} (h : RowV W Z (.slice (some ⟨b, o, none⟩) xs.length c) (dI xs)) (hk : k ≤ xs.length) (ho : 0 < xs.length - k → o' = o + k) : RowV W Z (.slice (some ⟨b, o', none⟩) (xs.length - k) (c - k)) (dI (xs.drop k)) := by
  obtain ⟨A, n, c', hv, hn, hc1, hc2⟩ := h.form
  injection hv with _ hn2 hc
  subst hc
  have hlen : (xs.drop k).length = xs.length - k := List.length_drop
  refine Rep.row ⟨b, o', none⟩ _ _ 1 _ (fun i => [.int .i64 ((xs.drop k).getD i 0)]) (by rw [List.length_map, hlen]) (fun _ => rfl) (by omega) (by unfold maxLen at hc2 ⊢; omega) (fun h0 => ?_) (by omega) (fun _ _ => rfl) (fun i hi j hj => ?_) (fun i hi => ?_)
  · obtain ⟨b2, o2, c2, hv2, _, hz⟩ := rowN_at h (i := 0) (by omega)
    injection hv2 with hA _ _
    injection hA with hA
    injection hA with hb _
    rw [hb]
    exact hz
  · obtain rfl : j = 0 := by omega
    have e := ho (by omega)
    have hx : k + i < xs.length := by omega
    obtain ⟨b2, o2, c2, hv2, hcell, _⟩ := rowN_at h hx
    injection hv2 with hA _ _
    injection hA with hA
    injection hA with hb2 ho2
    subst hb2 ho2
    show W.cell? ⟨b, o' + (i * 1 + 0), none⟩ = _
    rw [e, Nat.mul_one, Nat.add_zero, Nat.add_assoc, hcell, List.getD_eq_getElem?_getD, List.getElem?_drop, List.getElem?_eq_getElem hx]
    rfl
  · have hi' : i < (xs.drop k).length := by simpa [dI] using hi
    rw [List.getElem_map, List.getD_eq_getElem?_getD, List.getElem?_eq_getElem hi']
    exact .int _ _
set_option maxRecDepth 100000 in
set_option maxHeartbeats 1000000 in
theorem zvalues_any {W : World} {vs : List Value} {R : RS} (h : RV W noX vs R) (i : Nat) (hi : i < R.st.length) (hi2 : i < R.tk.length) (hle : R.tk[i] ≤ R.st[i].length) (hbig : R.st.length ≤ 1000000000 ∧ R.st[i].length ≤ 1000000000) :
    Calls Try.prog 57 #[.agg vs.toArray, .int .i64 i] W fun e W' => (∃ A c, e = .returned (.slice A ((R.st[i].drop R.tk[i]).length) c) ∧ RowV W' noX (.slice A ((R.st[i].drop R.tk[i]).length) c) (dI (R.st[i].drop R.tk[i]))) ∧ Kept noX W W' := by
  obtain ⟨v0, v1, v2, v3, v4, rfl, h0, h1, h2, h3, h4⟩ := h
  obtain ⟨b, o, c, A, n, ci, rfl, hc, rfl, hrow⟩ := rowL_at h3 hi
  obtain ⟨b2, o2, c2, rfl, hc2⟩ := rowD_at h4 hi2
  obtain ⟨A0, n0, c0, rfl, -⟩ := h0.form
  obtain ⟨A1, n1, c1, rfl, -⟩ := h1.form
  obtain ⟨A2, n2, c3, rfl, -⟩ := h2.form
  have hX := Cells.fresh W 33 [.slice A0 n0 c0, .slice A1 n1 c1, .slice A2 n2 c3, .slice (some ⟨b, o, none⟩) R.st.length c, .slice (some ⟨b2, o2, none⟩) R.tk.length c2]
  have hka : Kept noX W (W.alloc (.cells #[.slice A0 n0 c0, .slice A1 n1 c1, .slice A2 n2 c3, .slice (some ⟨b, o, none⟩) R.st.length c, .slice (some ⟨b2, o2, none⟩) R.tk.length c2] 33)) := (Kept.refl _ _).alloc _
  have p3 := hX.cell 3
  have p4 := hX.cell 4
  simp only [List.getElem?_cons_zero, List.getElem?_cons_succ] at p3 p4
  have q1 := hka.cell hc
  have q2 := hka.cell hc2
  have HROW := Lib.hid (Rep.keep (show Rep W noX [_] _ from hrow) hka)
  obtain ⟨_, _, _, hfv, hfn, hfc, hfm⟩ := hrow.form
  injection hfv with hf0 hf1 hf2
  have hdl : decide ((i : Int) < (R.st.length : Int)) = true := by simpa using hi
  have hdl2 : decide ((i : Int) < (R.tk.length : Int)) = true := by simpa using hi2
  generalize R.tk[i] = k at *
  generalize R.st[i] = xs at *
  have hkn : (k : Int) ≤ (xs.length : Int) := by omega
  have hnc : (xs.length : Int) ≤ (ci : Int) := by omega
  have HCM := Lib.hid (show ci ≤ maxLen by omega)
  clear hf0 hf1 hf2 hfn hfc hfm
  clear hX h0 h1 h2 h3 h4 hc hc2 hrow
  rcases A with _ | ⟨g, off, spot⟩
  · have hx : xs = [] ∧ ci = 0 := by
      have h := HROW.out
      generalize hv : [Value.slice none xs.length ci] = vs at h
      generalize hd : D.row (dI xs) = d at h
      cases h with
      | nilrow =>
        injection hv with hv
        injection hv with _ h1 h2
        exact ⟨List.eq_nil_of_length_eq_zero h1, h2⟩
      | row a n c size ds cs =>
        injection hv with hv
        injection hv with hv
        cases hv
      | _ => cases hd
    obtain ⟨rfl, rfl⟩ := hx
    obtain rfl : k = 0 := by simpa using hle
    go_enter Try.func57, Try.ntmps57
    go_wp2_with fail
    refine wp_region_held_drew (S := (fun w' => w'.cell? ⟨W.heap.size, 3, none⟩ = some (.slice (some ⟨b, o, none⟩) R.st.length c) ∧ w'.cell? ⟨W.heap.size, 4, none⟩ = some (.slice (some ⟨b2, o2, none⟩) R.tk.length c2) ∧ w'.cell? ⟨b, o + i, none⟩ = some (.slice none 0 0) ∧ w'.cell? ⟨b2, o2 + i, none⟩ = some (.int .i64 0))) (by kernel_rfl) ⟨p3, p4, q1, q2⟩ (fun hHeld => ?_)
    refine wpAnyH_take (i := 0) (v := ?_) rfl (by kernel_rfl) (by kernel_rfl) (by kernel_rfl) (fun _ _ _ h => h) (Or.inl ⟨by rfl, ?_⟩) (by assumption) ?_
    rotate_left
    · intro wS hSw
      (try dsimp only at hSw)
      go_simp
      (try with_reducible rfl)
    refine wpAnyH_take (i := 1) (v := ?_) rfl (by kernel_rfl) (by kernel_rfl) (by kernel_rfl) (fun _ _ _ h => h) (Or.inl ⟨by rfl, ?_⟩) (by assumption) ?_
    rotate_left
    · intro wS hSw
      (try dsimp only at hSw)
      go_simp
      (try with_reducible rfl)
    refine wpAnyH_take (i := 2) (v := ?_) rfl (by kernel_rfl) (by kernel_rfl) (by kernel_rfl) (fun _ _ _ h => h) (Or.inl ⟨by rfl, ?_⟩) (by assumption) ?_
    rotate_left
    · intro wS hSw
      (try dsimp only at hSw)
      go_simp
      (try with_reducible rfl)
    refine wpAnyH_take (i := 3) (v := ?_) rfl (by kernel_rfl) (by kernel_rfl) (by kernel_rfl) (fun _ _ _ h => h) (Or.inl ⟨by rfl, ?_⟩) (by assumption) ?_
    rotate_left
    · intro wS hSw
      (try dsimp only at hSw)
      go_simp
      (try with_reducible rfl)
    refine wpAnyH_take (i := 4) (v := ?_) rfl (by kernel_rfl) (by kernel_rfl) (by kernel_rfl) (fun _ _ _ h => h) (Or.inl ⟨by rfl, ?_⟩) (by assumption) ?_
    rotate_left
    · intro wS hSw
      (try dsimp only at hSw)
      go_simp
      (try with_reducible rfl)
    (try simp only [Act.put, List.getElem_toArray, List.getElem_cons_succ, List.getElem_cons_zero, List.setIfInBounds_toArray, List.set_cons_zero, List.set_cons_succ])
    refine wpAnyH_take (i := 5) (v := ?_) rfl (by kernel_rfl) (by kernel_rfl) (by kernel_rfl) (fun _ _ _ h => h) (Or.inl ⟨by rfl, ?_⟩) (by assumption) ?_
    rotate_left
    · intro wS hSw
      (try dsimp only at hSw)
      go_simp
      (try with_reducible rfl)
    refine wpAnyH_take (i := 6) (v := ?_) rfl (by kernel_rfl) (by kernel_rfl) (by kernel_rfl) (fun _ _ _ h => h) (Or.inl ⟨by rfl, ?_⟩) (by assumption) ?_
    rotate_left
    · intro wS hSw
      (try dsimp only at hSw)
      go_simp
      (try with_reducible rfl)
    refine wpAnyH_take (i := 7) (v := ?_) rfl (by kernel_rfl) (by kernel_rfl) (by kernel_rfl) (fun _ _ _ h => h) (Or.inl ⟨by rfl, ?_⟩) (by assumption) ?_
    rotate_left
    · intro wS hSw
      (try dsimp only at hSw)
      go_simp
      (try with_reducible rfl)
    refine wpAnyH_take (i := 8) (v := ?_) rfl (by kernel_rfl) (by kernel_rfl) (by kernel_rfl) (fun _ _ _ h => h) (Or.inl ⟨by rfl, ?_⟩) (by assumption) ?_
    rotate_left
    · intro wS hSw
      (try dsimp only at hSw)
      go_simp
      (try with_reducible rfl)
    refine wpAnyH_take (i := 9) (v := ?_) rfl (by kernel_rfl) (by kernel_rfl) (by kernel_rfl) (fun _ _ _ h => h) (Or.inl ⟨by rfl, ?_⟩) (by assumption) ?_
    rotate_left
    · intro wS hSw
      (try dsimp only at hSw)
      go_simp
      (try with_reducible rfl)
    (try simp only [Act.put, List.getElem_toArray, List.getElem_cons_succ, List.getElem_cons_zero, List.setIfInBounds_toArray, List.set_cons_zero, List.set_cons_succ])
    refine wpAnyH_take (i := 10) (v := ?_) rfl (by kernel_rfl) (by kernel_rfl) (by kernel_rfl) (fun _ _ _ h => h) (Or.inl ⟨by rfl, ?_⟩) (by assumption) ?_
    rotate_left
    · intro wS hSw
      (try dsimp only at hSw)
      go_simp
      (try with_reducible rfl)
    refine wpAnyH_take (i := 11) (v := ?_) rfl (by kernel_rfl) (by kernel_rfl) (by kernel_rfl) (fun _ _ _ h => h) (Or.inl ⟨by rfl, ?_⟩) (by assumption) ?_
    rotate_left
    · intro wS hSw
      (try dsimp only at hSw)
      go_simp
      (try with_reducible rfl)
    (try simp only [Act.put, List.getElem_toArray, List.getElem_cons_succ, List.getElem_cons_zero, List.setIfInBounds_toArray, List.set_cons_zero, List.set_cons_succ])
    refine wpAnyH_done (by kernel_rfl) ?_ _
    (try simp only [Act.put, List.getElem_toArray, List.getElem_cons_succ, List.getElem_cons_zero, List.setIfInBounds_toArray, List.set_cons_zero, List.set_cons_succ])
    go_wp2
    go_ret
    exact ⟨⟨none, 0, rfl, show Rep _ _ [.slice none 0 0] (.row []) from .nilrow⟩, hka.drew⟩
  · have hsp : spot = none ∨ xs.length = 0 := by
      rcases Nat.eq_zero_or_pos xs.length with h0 | h0
      · exact .inr h0
      · obtain ⟨b3, o3, c4, hv3, _, _⟩ := rowN_at HROW.out h0
        injection hv3 with hA _ _
        injection hA with hA
        injection hA with _ _ hs
        exact .inl hs
    obtain ⟨N, hN⟩ : ∃ N, N = xs.length := ⟨_, rfl⟩
    have HN := Lib.hid hN
    have HSP := Lib.hid hsp
    rw [← hN] at q1 hkn hnc
    have hdl3 : (xs.drop k).length = N - k := by rw [List.length_drop, hN]
    rw [hdl3]
    clear hsp hN hdl3
    cases spot with
    | some s =>
      have h0 : xs.length = 0 := HSP.out.resolve_left (by simp)
      obtain rfl : xs = [] := List.eq_nil_of_length_eq_zero h0
      obtain rfl : k = 0 := by simpa using hle
      obtain rfl : N = 0 := HN.out
      by_cases hci : ci = 0
      · subst hci
        go_enter Try.func57, Try.ntmps57
        go_wp2_with fail
        refine wp_region_held_drew (S := (fun w' => w'.cell? ⟨W.heap.size, 3, none⟩ = some (.slice (some ⟨b, o, none⟩) R.st.length c) ∧ w'.cell? ⟨W.heap.size, 4, none⟩ = some (.slice (some ⟨b2, o2, none⟩) R.tk.length c2) ∧ w'.cell? ⟨b, o + i, none⟩ = some (.slice (some ⟨g, off, some s⟩) 0 0) ∧ w'.cell? ⟨b2, o2 + i, none⟩ = some (.int .i64 0))) (by kernel_rfl) ⟨p3, p4, q1, q2⟩ (fun hHeld => ?_)
        refine wpAnyH_take (i := 0) (v := ?_) rfl (by kernel_rfl) (by kernel_rfl) (by kernel_rfl) (fun _ _ _ h => h) (Or.inl ⟨by rfl, ?_⟩) (by assumption) ?_
        rotate_left
        · intro wS hSw
          (try dsimp only at hSw)
          go_simp
          (try with_reducible rfl)
        refine wpAnyH_take (i := 1) (v := ?_) rfl (by kernel_rfl) (by kernel_rfl) (by kernel_rfl) (fun _ _ _ h => h) (Or.inl ⟨by rfl, ?_⟩) (by assumption) ?_
        rotate_left
        · intro wS hSw
          (try dsimp only at hSw)
          go_simp
          (try with_reducible rfl)
        refine wpAnyH_take (i := 2) (v := ?_) rfl (by kernel_rfl) (by kernel_rfl) (by kernel_rfl) (fun _ _ _ h => h) (Or.inl ⟨by rfl, ?_⟩) (by assumption) ?_
        rotate_left
        · intro wS hSw
          (try dsimp only at hSw)
          go_simp
          (try with_reducible rfl)
        refine wpAnyH_take (i := 3) (v := ?_) rfl (by kernel_rfl) (by kernel_rfl) (by kernel_rfl) (fun _ _ _ h => h) (Or.inl ⟨by rfl, ?_⟩) (by assumption) ?_
        rotate_left
        · intro wS hSw
          (try dsimp only at hSw)
          go_simp
          (try with_reducible rfl)
        refine wpAnyH_take (i := 4) (v := ?_) rfl (by kernel_rfl) (by kernel_rfl) (by kernel_rfl) (fun _ _ _ h => h) (Or.inl ⟨by rfl, ?_⟩) (by assumption) ?_
        rotate_left
        · intro wS hSw
          (try dsimp only at hSw)
          go_simp
          (try with_reducible rfl)
        (try simp only [Act.put, List.getElem_toArray, List.getElem_cons_succ, List.getElem_cons_zero, List.setIfInBounds_toArray, List.set_cons_zero, List.set_cons_succ])
        refine wpAnyH_take (i := 5) (v := ?_) rfl (by kernel_rfl) (by kernel_rfl) (by kernel_rfl) (fun _ _ _ h => h) (Or.inl ⟨by rfl, ?_⟩) (by assumption) ?_
        rotate_left
        · intro wS hSw
          (try dsimp only at hSw)
          go_simp
          (try with_reducible rfl)
        refine wpAnyH_take (i := 6) (v := ?_) rfl (by kernel_rfl) (by kernel_rfl) (by kernel_rfl) (fun _ _ _ h => h) (Or.inl ⟨by rfl, ?_⟩) (by assumption) ?_
        rotate_left
        · intro wS hSw
          (try dsimp only at hSw)
          go_simp
          (try with_reducible rfl)
        refine wpAnyH_take (i := 7) (v := ?_) rfl (by kernel_rfl) (by kernel_rfl) (by kernel_rfl) (fun _ _ _ h => h) (Or.inl ⟨by rfl, ?_⟩) (by assumption) ?_
        rotate_left
        · intro wS hSw
          (try dsimp only at hSw)
          go_simp
          (try with_reducible rfl)
        refine wpAnyH_take (i := 8) (v := ?_) rfl (by kernel_rfl) (by kernel_rfl) (by kernel_rfl) (fun _ _ _ h => h) (Or.inl ⟨by rfl, ?_⟩) (by assumption) ?_
        rotate_left
        · intro wS hSw
          (try dsimp only at hSw)
          go_simp
          (try with_reducible rfl)
        refine wpAnyH_take (i := 9) (v := ?_) rfl (by kernel_rfl) (by kernel_rfl) (by kernel_rfl) (fun _ _ _ h => h) (Or.inl ⟨by rfl, ?_⟩) (by assumption) ?_
        rotate_left
        · intro wS hSw
          (try dsimp only at hSw)
          go_simp
          (try with_reducible rfl)
        (try simp only [Act.put, List.getElem_toArray, List.getElem_cons_succ, List.getElem_cons_zero, List.setIfInBounds_toArray, List.set_cons_zero, List.set_cons_succ])
        refine wpAnyH_take (i := 10) (v := ?_) rfl (by kernel_rfl) (by kernel_rfl) (by kernel_rfl) (fun _ _ _ h => h) (Or.inl ⟨by rfl, ?_⟩) (by assumption) ?_
        rotate_left
        · intro wS hSw
          (try dsimp only at hSw)
          go_simp
          (try with_reducible rfl)
        refine wpAnyH_take (i := 11) (v := ?_) rfl (by kernel_rfl) (by kernel_rfl) (by kernel_rfl) (fun _ _ _ h => h) (Or.inl ⟨by rfl, ?_⟩) (by assumption) ?_
        rotate_left
        · intro wS hSw
          (try dsimp only at hSw)
          go_simp
          (try with_reducible rfl)
        (try simp only [Act.put, List.getElem_toArray, List.getElem_cons_succ, List.getElem_cons_zero, List.setIfInBounds_toArray, List.set_cons_zero, List.set_cons_succ])
        refine wpAnyH_done (by kernel_rfl) ?_ _
        (try simp only [Act.put, List.getElem_toArray, List.getElem_cons_succ, List.getElem_cons_zero, List.setIfInBounds_toArray, List.set_cons_zero, List.set_cons_succ])
        go_wp2
        go_ret
        exact ⟨⟨_, _, rfl, Rep.row _ 0 _ 1 [] (fun _ => []) rfl (fun h => by omega) (Nat.zero_le _) (Nat.zero_le _) (fun h => by omega) (by omega) (fun i hi => by omega) (fun i hi => by omega) (fun i hi => by cases hi)⟩, hka.drew⟩
      · have hci2 : ¬ ci - 0 = 0 := by omega
        go_enter Try.func57, Try.ntmps57
        go_wp2_with fail
        refine wp_region_held_drew (S := (fun w' => w'.cell? ⟨W.heap.size, 3, none⟩ = some (.slice (some ⟨b, o, none⟩) R.st.length c) ∧ w'.cell? ⟨W.heap.size, 4, none⟩ = some (.slice (some ⟨b2, o2, none⟩) R.tk.length c2) ∧ w'.cell? ⟨b, o + i, none⟩ = some (.slice (some ⟨g, off, some s⟩) 0 ci) ∧ w'.cell? ⟨b2, o2 + i, none⟩ = some (.int .i64 0))) (by kernel_rfl) ⟨p3, p4, q1, q2⟩ (fun hHeld => ?_)
        refine wpAnyH_take (i := 0) (v := ?_) rfl (by kernel_rfl) (by kernel_rfl) (by kernel_rfl) (fun _ _ _ h => h) (Or.inl ⟨by rfl, ?_⟩) (by assumption) ?_
        rotate_left
        · intro wS hSw
          (try dsimp only at hSw)
          go_simp
          (try with_reducible rfl)
        refine wpAnyH_take (i := 1) (v := ?_) rfl (by kernel_rfl) (by kernel_rfl) (by kernel_rfl) (fun _ _ _ h => h) (Or.inl ⟨by rfl, ?_⟩) (by assumption) ?_
        rotate_left
        · intro wS hSw
          (try dsimp only at hSw)
          go_simp
          (try with_reducible rfl)
        refine wpAnyH_take (i := 2) (v := ?_) rfl (by kernel_rfl) (by kernel_rfl) (by kernel_rfl) (fun _ _ _ h => h) (Or.inl ⟨by rfl, ?_⟩) (by assumption) ?_
        rotate_left
        · intro wS hSw
          (try dsimp only at hSw)
          go_simp
          (try with_reducible rfl)
        refine wpAnyH_take (i := 3) (v := ?_) rfl (by kernel_rfl) (by kernel_rfl) (by kernel_rfl) (fun _ _ _ h => h) (Or.inl ⟨by rfl, ?_⟩) (by assumption) ?_
        rotate_left
        · intro wS hSw
          (try dsimp only at hSw)
          go_simp
          (try with_reducible rfl)
        refine wpAnyH_take (i := 4) (v := ?_) rfl (by kernel_rfl) (by kernel_rfl) (by kernel_rfl) (fun _ _ _ h => h) (Or.inl ⟨by rfl, ?_⟩) (by assumption) ?_
        rotate_left
        · intro wS hSw
          (try dsimp only at hSw)
          go_simp
          (try with_reducible rfl)
        (try simp only [Act.put, List.getElem_toArray, List.getElem_cons_succ, List.getElem_cons_zero, List.setIfInBounds_toArray, List.set_cons_zero, List.set_cons_succ])
        refine wpAnyH_take (i := 5) (v := ?_) rfl (by kernel_rfl) (by kernel_rfl) (by kernel_rfl) (fun _ _ _ h => h) (Or.inl ⟨by rfl, ?_⟩) (by assumption) ?_
        rotate_left
        · intro wS hSw
          (try dsimp only at hSw)
          go_simp
          (try with_reducible rfl)
        refine wpAnyH_take (i := 6) (v := ?_) rfl (by kernel_rfl) (by kernel_rfl) (by kernel_rfl) (fun _ _ _ h => h) (Or.inl ⟨by rfl, ?_⟩) (by assumption) ?_
        rotate_left
        · intro wS hSw
          (try dsimp only at hSw)
          go_simp
          (try with_reducible rfl)
        refine wpAnyH_take (i := 7) (v := ?_) rfl (by kernel_rfl) (by kernel_rfl) (by kernel_rfl) (fun _ _ _ h => h) (Or.inl ⟨by rfl, ?_⟩) (by assumption) ?_
        rotate_left
        · intro wS hSw
          (try dsimp only at hSw)
          go_simp
          (try with_reducible rfl)
        refine wpAnyH_take (i := 8) (v := ?_) rfl (by kernel_rfl) (by kernel_rfl) (by kernel_rfl) (fun _ _ _ h => h) (Or.inl ⟨by rfl, ?_⟩) (by assumption) ?_
        rotate_left
        · intro wS hSw
          (try dsimp only at hSw)
          go_simp
          (try with_reducible rfl)
        refine wpAnyH_take (i := 9) (v := ?_) rfl (by kernel_rfl) (by kernel_rfl) (by kernel_rfl) (fun _ _ _ h => h) (Or.inl ⟨by rfl, ?_⟩) (by assumption) ?_
        rotate_left
        · intro wS hSw
          (try dsimp only at hSw)
          go_simp
          (try with_reducible rfl)
        (try simp only [Act.put, List.getElem_toArray, List.getElem_cons_succ, List.getElem_cons_zero, List.setIfInBounds_toArray, List.set_cons_zero, List.set_cons_succ])
        refine wpAnyH_take (i := 10) (v := ?_) rfl (by kernel_rfl) (by kernel_rfl) (by kernel_rfl) (fun _ _ _ h => h) (Or.inl ⟨by rfl, ?_⟩) (by assumption) ?_
        rotate_left
        · intro wS hSw
          (try dsimp only at hSw)
          go_simp
          (try with_reducible rfl)
        refine wpAnyH_take (i := 11) (v := ?_) rfl (by kernel_rfl) (by kernel_rfl) (by kernel_rfl) (fun _ _ _ h => h) (Or.inl ⟨by rfl, ?_⟩) (by assumption) ?_
        rotate_left
        · intro wS hSw
          (try dsimp only at hSw)
          go_simp
          (try with_reducible rfl)
        (try simp only [Act.put, List.getElem_toArray, List.getElem_cons_succ, List.getElem_cons_zero, List.setIfInBounds_toArray, List.set_cons_zero, List.set_cons_succ])
        refine wpAnyH_done (by kernel_rfl) ?_ _
        (try simp only [Act.put, List.getElem_toArray, List.getElem_cons_succ, List.getElem_cons_zero, List.setIfInBounds_toArray, List.set_cons_zero, List.set_cons_succ])
        go_wp2
        go_ret
        exact ⟨⟨_, _, rfl, Rep.row _ 0 _ 1 [] (fun _ => []) rfl (fun h => by omega) (Nat.zero_le _) (by have := HCM.out; omega) (fun h => by omega) (by omega) (fun i hi => by omega) (fun i hi => by omega) (fun i hi => by cases hi)⟩, hka.drew⟩
    | none =>
      have HR3 := Lib.hid (fun o' ho' => row_drop (k := k) (o' := o') (Z := noX) (Rep.keep (show Rep _ noX [_] _ from HROW.out) ((Kept.refl _ _).drew)) hle ho')
      rw [← HN.out] at HR3
      by_cases hck : ci = k
      · obtain rfl : k = ci := hck.symm
        clear hck
        have hkk : ¬ 0 < N - k := by omega
        go_enter Try.func57, Try.ntmps57
        go_wp2_with fail
        refine wp_region_held_drew (S := (fun w' => w'.cell? ⟨W.heap.size, 3, none⟩ = some (.slice (some ⟨b, o, none⟩) R.st.length c) ∧ w'.cell? ⟨W.heap.size, 4, none⟩ = some (.slice (some ⟨b2, o2, none⟩) R.tk.length c2) ∧ w'.cell? ⟨b, o + i, none⟩ = some (.slice (some ⟨g, off, none⟩) N k) ∧ w'.cell? ⟨b2, o2 + i, none⟩ = some (.int .i64 (k : Nat)))) (by kernel_rfl) ⟨p3, p4, q1, q2⟩ (fun hHeld => ?_)
        refine wpAnyH_take (i := 0) (v := ?_) rfl (by kernel_rfl) (by kernel_rfl) (by kernel_rfl) (fun _ _ _ h => h) (Or.inl ⟨by rfl, ?_⟩) (by assumption) ?_
        rotate_left
        · intro wS hSw
          (try dsimp only at hSw)
          go_simp
          (try with_reducible rfl)
        refine wpAnyH_take (i := 1) (v := ?_) rfl (by kernel_rfl) (by kernel_rfl) (by kernel_rfl) (fun _ _ _ h => h) (Or.inl ⟨by rfl, ?_⟩) (by assumption) ?_
        rotate_left
        · intro wS hSw
          (try dsimp only at hSw)
          go_simp
          (try with_reducible rfl)
        refine wpAnyH_take (i := 2) (v := ?_) rfl (by kernel_rfl) (by kernel_rfl) (by kernel_rfl) (fun _ _ _ h => h) (Or.inl ⟨by rfl, ?_⟩) (by assumption) ?_
        rotate_left
        · intro wS hSw
          (try dsimp only at hSw)
          go_simp
          (try with_reducible rfl)
        refine wpAnyH_take (i := 3) (v := ?_) rfl (by kernel_rfl) (by kernel_rfl) (by kernel_rfl) (fun _ _ _ h => h) (Or.inl ⟨by rfl, ?_⟩) (by assumption) ?_
        rotate_left
        · intro wS hSw
          (try dsimp only at hSw)
          go_simp
          (try with_reducible rfl)
        refine wpAnyH_take (i := 4) (v := ?_) rfl (by kernel_rfl) (by kernel_rfl) (by kernel_rfl) (fun _ _ _ h => h) (Or.inl ⟨by rfl, ?_⟩) (by assumption) ?_
        rotate_left
        · intro wS hSw
          (try dsimp only at hSw)
          go_simp
          (try with_reducible rfl)
        (try simp only [Act.put, List.getElem_toArray, List.getElem_cons_succ, List.getElem_cons_zero, List.setIfInBounds_toArray, List.set_cons_zero, List.set_cons_succ])
        refine wpAnyH_take (i := 5) (v := ?_) rfl (by kernel_rfl) (by kernel_rfl) (by kernel_rfl) (fun _ _ _ h => h) (Or.inl ⟨by rfl, ?_⟩) (by assumption) ?_
        rotate_left
        · intro wS hSw
          (try dsimp only at hSw)
          go_simp
          (try with_reducible rfl)
        refine wpAnyH_take (i := 6) (v := ?_) rfl (by kernel_rfl) (by kernel_rfl) (by kernel_rfl) (fun _ _ _ h => h) (Or.inl ⟨by rfl, ?_⟩) (by assumption) ?_
        rotate_left
        · intro wS hSw
          (try dsimp only at hSw)
          go_simp
          (try with_reducible rfl)
        refine wpAnyH_take (i := 7) (v := ?_) rfl (by kernel_rfl) (by kernel_rfl) (by kernel_rfl) (fun _ _ _ h => h) (Or.inl ⟨by rfl, ?_⟩) (by assumption) ?_
        rotate_left
        · intro wS hSw
          (try dsimp only at hSw)
          go_simp
          (try with_reducible rfl)
        refine wpAnyH_take (i := 8) (v := ?_) rfl (by kernel_rfl) (by kernel_rfl) (by kernel_rfl) (fun _ _ _ h => h) (Or.inl ⟨by rfl, ?_⟩) (by assumption) ?_
        rotate_left
        · intro wS hSw
          (try dsimp only at hSw)
          go_simp
          (try with_reducible rfl)
        refine wpAnyH_take (i := 9) (v := ?_) rfl (by kernel_rfl) (by kernel_rfl) (by kernel_rfl) (fun _ _ _ h => h) (Or.inl ⟨by rfl, ?_⟩) (by assumption) ?_
        rotate_left
        · intro wS hSw
          (try dsimp only at hSw)
          go_simp
          (try with_reducible rfl)
        (try simp only [Act.put, List.getElem_toArray, List.getElem_cons_succ, List.getElem_cons_zero, List.setIfInBounds_toArray, List.set_cons_zero, List.set_cons_succ])
        refine wpAnyH_take (i := 10) (v := ?_) rfl (by kernel_rfl) (by kernel_rfl) (by kernel_rfl) (fun _ _ _ h => h) (Or.inl ⟨by rfl, ?_⟩) (by assumption) ?_
        rotate_left
        · intro wS hSw
          (try dsimp only at hSw)
          go_simp
          (try with_reducible rfl)
        refine wpAnyH_take (i := 11) (v := ?_) rfl (by kernel_rfl) (by kernel_rfl) (by kernel_rfl) (fun _ _ _ h => h) (Or.inl ⟨by rfl, ?_⟩) (by assumption) ?_
        rotate_left
        · intro wS hSw
          (try dsimp only at hSw)
          go_simp
          (try with_reducible rfl)
        (try simp only [Act.put, List.getElem_toArray, List.getElem_cons_succ, List.getElem_cons_zero, List.setIfInBounds_toArray, List.set_cons_zero, List.set_cons_succ])
        refine wpAnyH_done (by kernel_rfl) ?_ _
        (try simp only [Act.put, List.getElem_toArray, List.getElem_cons_succ, List.getElem_cons_zero, List.setIfInBounds_toArray, List.set_cons_zero, List.set_cons_succ])
        go_wp2
        go_ret
        have hfin := HR3.out off (fun h => absurd h hkk)
        rw [Nat.sub_self] at hfin
        exact ⟨⟨_, _, rfl, hfin⟩, hka.drew⟩
      · have hck2 : ¬ ci - k = 0 := by omega
        go_enter Try.func57, Try.ntmps57
        go_wp2_with fail
        refine wp_region_held_drew (S := (fun w' => w'.cell? ⟨W.heap.size, 3, none⟩ = some (.slice (some ⟨b, o, none⟩) R.st.length c) ∧ w'.cell? ⟨W.heap.size, 4, none⟩ = some (.slice (some ⟨b2, o2, none⟩) R.tk.length c2) ∧ w'.cell? ⟨b, o + i, none⟩ = some (.slice (some ⟨g, off, none⟩) N ci) ∧ w'.cell? ⟨b2, o2 + i, none⟩ = some (.int .i64 (k : Nat)))) (by kernel_rfl) ⟨p3, p4, q1, q2⟩ (fun hHeld => ?_)
        refine wpAnyH_take (i := 0) (v := ?_) rfl (by kernel_rfl) (by kernel_rfl) (by kernel_rfl) (fun _ _ _ h => h) (Or.inl ⟨by rfl, ?_⟩) (by assumption) ?_
        rotate_left
        · intro wS hSw
          (try dsimp only at hSw)
          go_simp
          (try with_reducible rfl)
        refine wpAnyH_take (i := 1) (v := ?_) rfl (by kernel_rfl) (by kernel_rfl) (by kernel_rfl) (fun _ _ _ h => h) (Or.inl ⟨by rfl, ?_⟩) (by assumption) ?_
        rotate_left
        · intro wS hSw
          (try dsimp only at hSw)
          go_simp
          (try with_reducible rfl)
        refine wpAnyH_take (i := 2) (v := ?_) rfl (by kernel_rfl) (by kernel_rfl) (by kernel_rfl) (fun _ _ _ h => h) (Or.inl ⟨by rfl, ?_⟩) (by assumption) ?_
        rotate_left
        · intro wS hSw
          (try dsimp only at hSw)
          go_simp
          (try with_reducible rfl)
        refine wpAnyH_take (i := 3) (v := ?_) rfl (by kernel_rfl) (by kernel_rfl) (by kernel_rfl) (fun _ _ _ h => h) (Or.inl ⟨by rfl, ?_⟩) (by assumption) ?_
        rotate_left
        · intro wS hSw
          (try dsimp only at hSw)
          go_simp
          (try with_reducible rfl)
        refine wpAnyH_take (i := 4) (v := ?_) rfl (by kernel_rfl) (by kernel_rfl) (by kernel_rfl) (fun _ _ _ h => h) (Or.inl ⟨by rfl, ?_⟩) (by assumption) ?_
        rotate_left
        · intro wS hSw
          (try dsimp only at hSw)
          go_simp
          (try with_reducible rfl)
        (try simp only [Act.put, List.getElem_toArray, List.getElem_cons_succ, List.getElem_cons_zero, List.setIfInBounds_toArray, List.set_cons_zero, List.set_cons_succ])
        refine wpAnyH_take (i := 5) (v := ?_) rfl (by kernel_rfl) (by kernel_rfl) (by kernel_rfl) (fun _ _ _ h => h) (Or.inl ⟨by rfl, ?_⟩) (by assumption) ?_
        rotate_left
        · intro wS hSw
          (try dsimp only at hSw)
          go_simp
          (try with_reducible rfl)
        refine wpAnyH_take (i := 6) (v := ?_) rfl (by kernel_rfl) (by kernel_rfl) (by kernel_rfl) (fun _ _ _ h => h) (Or.inl ⟨by rfl, ?_⟩) (by assumption) ?_
        rotate_left
        · intro wS hSw
          (try dsimp only at hSw)
          go_simp
          (try with_reducible rfl)
        refine wpAnyH_take (i := 7) (v := ?_) rfl (by kernel_rfl) (by kernel_rfl) (by kernel_rfl) (fun _ _ _ h => h) (Or.inl ⟨by rfl, ?_⟩) (by assumption) ?_
        rotate_left
        · intro wS hSw
          (try dsimp only at hSw)
          go_simp
          (try with_reducible rfl)
        refine wpAnyH_take (i := 8) (v := ?_) rfl (by kernel_rfl) (by kernel_rfl) (by kernel_rfl) (fun _ _ _ h => h) (Or.inl ⟨by rfl, ?_⟩) (by assumption) ?_
        rotate_left
        · intro wS hSw
          (try dsimp only at hSw)
          go_simp
          (try with_reducible rfl)
        refine wpAnyH_take (i := 9) (v := ?_) rfl (by kernel_rfl) (by kernel_rfl) (by kernel_rfl) (fun _ _ _ h => h) (Or.inl ⟨by rfl, ?_⟩) (by assumption) ?_
        rotate_left
        · intro wS hSw
          (try dsimp only at hSw)
          go_simp
          (try with_reducible rfl)
        (try simp only [Act.put, List.getElem_toArray, List.getElem_cons_succ, List.getElem_cons_zero, List.setIfInBounds_toArray, List.set_cons_zero, List.set_cons_succ])
        refine wpAnyH_take (i := 10) (v := ?_) rfl (by kernel_rfl) (by kernel_rfl) (by kernel_rfl) (fun _ _ _ h => h) (Or.inl ⟨by rfl, ?_⟩) (by assumption) ?_
        rotate_left
        · intro wS hSw
          (try dsimp only at hSw)
          go_simp
          (try with_reducible rfl)
        refine wpAnyH_take (i := 11) (v := ?_) rfl (by kernel_rfl) (by kernel_rfl) (by kernel_rfl) (fun _ _ _ h => h) (Or.inl ⟨by rfl, ?_⟩) (by assumption) ?_
        rotate_left
        · intro wS hSw
          (try dsimp only at hSw)
          go_simp
          (try with_reducible rfl)
        (try simp only [Act.put, List.getElem_toArray, List.getElem_cons_succ, List.getElem_cons_zero, List.setIfInBounds_toArray, List.set_cons_zero, List.set_cons_succ])
        refine wpAnyH_done (by kernel_rfl) ?_ _
        (try simp only [Act.put, List.getElem_toArray, List.getElem_cons_succ, List.getElem_cons_zero, List.setIfInBounds_toArray, List.set_cons_zero, List.set_cons_succ])
        go_wp2
        go_ret
        exact ⟨⟨_, _, rfl, HR3.out (off + k) (fun _ => rfl)⟩, hka.drew⟩
end Go.Proofs.Ytehcfahfbdphpaa
