/- Layer 4: the document's Signal, of a list that is not empty (conditions: its lists are of at most 10^9). -/
import Derived.Test.YtehcfahfbdphpaaSy44
namespace Go.Proofs.Ytehcfahfbdphpaa
open Go.RowKit Go.Shelf
section
variable {w : World} {vs : List Value} {R : RS} (h : RV w noX vs R)
include h
set_option maxRecDepth 100000 in
set_option maxHeartbeats 4000000 in
theorem zsignal_some (hb : RB R) (i : Nat) (hi : i < R.cs.length) (x : Int) (r : List Int) (hx : R.cs[i] = x :: r) : Calls Try.prog 61 #[.agg vs.toArray, .int .i64 i] w fun e W' => (∃ vs', e = .returned (.tuple #[.agg vs'.toArray, .int .i64 x, .int .i64 0]) ∧ RV W' (· < w.heap.size) vs' { R with cs := R.cs.set i r }) ∧ Kept noX w W' := by
  obtain ⟨v0, v1, v2, v3, v4, rfl, h0, h1, h2, h3, h4⟩ := h
  obtain ⟨A0, n0, c0, rfl, hn0, -⟩ := h0.form
  obtain ⟨A1, n1, c1, rfl, hn1, -⟩ := h1.form
  obtain ⟨A2, n2, c2, rfl, hn2, -⟩ := h2.form
  obtain ⟨A3, n3, c3, rfl, hn3, -⟩ := h3.form
  obtain ⟨A4, n4, c4, rfl, hn4, -⟩ := h4.form
  rw [List.length_map] at hn0 hn1 hn2 hn3 hn4
  subst hn0 hn1 hn2 hn3 hn4
  have HR := Lib.hid (show RV w noX [.slice A0 R.ow.length c0, .slice A1 R.cs.length c1, .slice A2 R.rm.length c2, .slice A3 R.st.length c3, .slice A4 R.tk.length c4] R from ⟨_, _, _, _, _, rfl, h0, h1, h2, h3, h4⟩)
  have H0 := Lib.hid h0
  have H1 := Lib.hid h1
  have H2 := Lib.hid h2
  have H3 := Lib.hid h3
  have H4 := Lib.hid h4
  clear h0 h1 h2 h3 h4
  have d0 : decide ((i : Int) < 0) = false := by simp
  have d1 : decide ((R.cs.length : Int) ≤ (i : Int)) = false := by simpa using hi
  have hi' : ¬ R.cs.length ≤ i := by omega
  have mixed : Try.prog.follows .mixedOrders = true := by kernel_rfl
  obtain ⟨b, o, c, A, n, ci, hveq, hcell, hn, hrow⟩ := rowL_at H1.out hi
  injection hveq with hA _ hc
  subst hA hc hn
  rw [hx] at hcell hrow
  obtain ⟨b2, o2, c2, hveq, hcell2, _⟩ := rowN_at hrow (i := 0) (by simp)
  injection hveq with hA _ hc
  subst hA hc
  have hcell2 : w.cell? ⟨b2, o2, none⟩ = some (.int .i64 x) := hcell2
  have q0 : ∀ x y, ((w.alloc x).alloc y).cell? ⟨b, o + i, none⟩ = _ := fun x y => (((Kept.refl noX w).alloc x).alloc y).cell hcell
  have dn : (((x :: r).length : Int) == 0) = false := by simp; omega
  have hnn : 0 < (x :: r).length := by simp
  generalize hN : (x :: r).length = N at *
  clear hrow
  have hbl : b < w.heap.size := block_lt_of_cell hcell
  have hbl2 : b2 < w.heap.size := block_lt_of_cell hcell2
  go_enter Try.func61, Try.ntmps61
  go_wp2_with fail
  refine zcopy_at2 HR.out hb ?_
  intro W2 T u0 u1 u2 u3 u4 l1 l3 hZ hTB hk2 hX2 hk2'
  have hS2 := ((Cells.fresh w 33 _).alloc _).keep hk2'
  obtain ⟨U0, e0, hf0⟩ := hZ.1.1.form
  obtain ⟨U2, e2, hf2⟩ := hZ.1.2.1.form
  obtain ⟨U4, e4, hf4⟩ := hZ.1.2.2.form
  rw [List.length_map] at hf4
  obtain ⟨U1, e1, hf1, _, _⟩ := own_formN hZ.2.1.1
  obtain ⟨U3, e3, hf3, _, _⟩ := own_formN hZ.2.2.1.1
  subst hf0 hf1 hf2 hf3 hf4
  have hB2 := Cells.fresh W2 33 [.slice U0 R.ow.length e0, .slice U1 R.cs.length e1, .slice U2 R.rm.length e2, .slice U3 R.st.length e3, .slice U4 R.tk.length e4]
  obtain ⟨g, A', c', cur, rfl, -, hC, hcur, hq, hg1⟩ := hZ.openC rfl hi
  rw [hx] at hcur hq
  obtain ⟨gu, capu, curu, hv, _, hgu, _⟩ := hq.1.2.resolve_left (fun h => by have := h.2; simp at this)
  injection hv with hAu _ hcu
  subst hAu hcu
  have hrl : r.length = N - 1 := by simp at hN; omega
  have hc1 : N ≤ c' := by have h := own_formN hq.1; obtain ⟨_, _, hv, h1, _⟩ := h; injection hv with _ _ h2; omega
  have hgg : T gu = 6 + 2 * i := hq.2.1 gu rfl
  have hOW : ∀ u, (W2.setCell ⟨g, i, none⟩ u).ownsRow 0 3 1 (.slice (some ⟨gu, 0, none⟩) (x :: r).length c') (x :: r).length ((x :: r).map (.int .i64)) := fun u => own_kept hq.1 ((Kept.refl (· = g) _).setCell (p := ⟨g, i, none⟩) (fun _ => rfl) _) (fun k hk e => by have h1 := hq.2.1 k hk; rw [e, hg1] at h1; omega)
  have hgB : w.heap.size + 2 ≤ gu := (hTB gu (by rw [hgg]; omega)).1
  have hdr : ∀ u o', (0 < N - 1 → o' = 0 + 1) → RowV (W2.setCell ⟨g, i, none⟩ u) (· < w.heap.size + 2) (.slice (some ⟨gu, o', none⟩) (N - 1) (c' - 1)) (dI r) := fun u o' h => by
    have h1 := row_drop (k := 1) (o' := o') (own_row (Z := (· < w.heap.size + 2)) (hOW u) (fun k hk e => by have h2 := Option.some.inj hk; have e : k < w.heap.size + 2 := e; have h3 : gu = k := h2; omega)) (by simp) (by rw [hN]; exact h)
    rw [hN] at h1
    simpa using h1
  rw [hN] at hcur
  clear hOW hgu
  by_cases hc2 : c' = 1
  · have hN1 : N = 1 := by omega
    have hu' := hdr (.slice (some ⟨gu, 0, none⟩) 0 0) 0 (fun h => by omega)
    subst hc2 hN1
    simp only [Nat.sub_self] at hu'
    have x0 := hC.cell i
    rw [hcur] at x0
    have y0 : ∀ x, (W2.alloc x).cell? ⟨g, i, none⟩ = _ := fun x => ((Kept.refl noX W2).alloc x).cell x0
    have z0 : ∀ x, (W2.alloc x).frozen? ⟨g, i, none⟩ = false := fun x => (hC.alloc x).free i
    have hgl := hC.lt
    have hga : w.heap.size + 2 ≤ g := (hTB g (by rw [hg1]; decide)).1
    have hkc : Kept (· = g) W2 (W2.setCell ⟨g, i, none⟩ (Value.slice (some ⟨gu, 0, none⟩) 0 0)) := (Kept.refl (· = g) _).setCell (p := ⟨g, i, none⟩) (fun _ => rfl) _
    have hsz : (W2.setCell ⟨g, i, none⟩ (Value.slice (some ⟨gu, 0, none⟩) 0 0)).heap.size = W2.heap.size := by simp [World.setCell]
    have HB6 := Cells.fresh (W2.setCell ⟨g, i, none⟩ (Value.slice (some ⟨gu, 0, none⟩) 0 0)) 33 [.slice U0 R.ow.length e0, .slice (some ⟨g, 0, none⟩) R.cs.length e1, .slice U2 R.rm.length e2, .slice U3 R.st.length e3, .slice U4 R.tk.length e4]
    rw [hsz] at HB6
    have HA6 := (hX2.kept hkc (by omega)).alloc (.cells #[.slice U0 R.ow.length e0, .slice (some ⟨g, 0, none⟩) R.cs.length e1, .slice U2 R.rm.length e2, .slice U3 R.st.length e3, .slice U4 R.tk.length e4] 33)
    have HS6 := (hS2.kept hkc (by omega)).alloc (.cells #[.slice U0 R.ow.length e0, .slice (some ⟨g, 0, none⟩) R.cs.length e1, .slice U2 R.rm.length e2, .slice U3 R.st.length e3, .slice U4 R.tk.length e4] 33)
    have hRV := hZ.rvC (Z := (· < w.heap.size + 2)) (W5 := W2) (X := noX) (u' := (Value.slice (some ⟨gu, 0, none⟩) 0 0)) (xs := r) hi (Kept.refl _ _) (fun _ _ h => h.elim) (fun k hk => Classical.byContradiction fun h2 => by have := (hTB k h2).1; have hk' : k < w.heap.size + 2 := hk; omega) (by first | exact Rep.nilrow | assumption)
    have HR6 := hRV.keep ((Kept.refl _ _).alloc (.cells #[.slice U0 R.ow.length e0, .slice (some ⟨g, 0, none⟩) R.cs.length e1, .slice U2 R.rm.length e2, .slice U3 R.st.length e3, .slice U4 R.tk.length e4] 33))
    have HK6 := (hk2.own hkc (by omega)).alloc (.cells #[.slice U0 R.ow.length e0, .slice (some ⟨g, 0, none⟩) R.cs.length e1, .slice U2 R.rm.length e2, .slice U3 R.st.length e3, .slice U4 R.tk.length e4] 33)
    have hw2 : w.heap.size + 1 < W2.heap.size := hX2.lt
    clear hZ hRV hTB hk2 hX2 hC hcur hB2 hkc hsz x0 hk2' hS2
    clear hdr hu' hq
    go_wp2_with fail
    go_region
    replace HB6 := HB6.drew
    replace HA6 := HA6.drew
    replace HS6 := HS6.drew
    replace HR6 := HR6.keep ((Kept.refl _ _).drew)
    replace HK6 := HK6.drew
    generalize hW6 : ((W2.setCell ⟨g, i, none⟩ (Value.slice (some ⟨gu, 0, none⟩) 0 0)).alloc (.cells #[.slice U0 R.ow.length e0, .slice (some ⟨g, 0, none⟩) R.cs.length e1, .slice U2 R.rm.length e2, .slice U3 R.st.length e3, .slice U4 R.tk.length e4] 33)).drew = W6 at HB6 HA6 HS6 HR6 HK6 ⊢
    clear hW6
    have k0 := HB6.cell 0
    have a0 := HA6.cell 0
    have f0 := HA6.free 0
    have k1 := HB6.cell 1
    have a1 := HA6.cell 1
    have f1 := HA6.free 1
    have k2 := HB6.cell 2
    have a2 := HA6.cell 2
    have f2 := HA6.free 2
    have k3 := HB6.cell 3
    have a3 := HA6.cell 3
    have f3 := HA6.free 3
    have k4 := HB6.cell 4
    have a4 := HA6.cell 4
    have f4 := HA6.free 4
    simp only [z5, List.getElem?_cons_zero, List.getElem?_cons_succ] at k0 k1 k2 k3 k4 a0 a1 a2 a3 a4
    have HA7 := Lib.hid HA6.drew
    have HR7 := Lib.hid HR6
    have HK7 := Lib.hid HK6
    have hEx : _ ∧ _ ∧ _ := ⟨HS6.cell 1, HK6.cell hcell, HK6.cell hcell2⟩
    have HEX : Hid (∀ W', Kept (· = w.heap.size + 1) W6 W' → W'.cell? ⟨w.heap.size, 1, none⟩ = some (.slice (some ⟨b, o, none⟩) R.cs.length c1) ∧ W'.cell? ⟨b, o + i, none⟩ = some (.slice (some ⟨b2, o2, none⟩) 1 ci) ∧ W'.cell? ⟨b2, o2, none⟩ = some (.int .i64 x)) := Lib.hid (fun W' hk' => ⟨hk'.cell_far (HS6.cell 1) (by omega), hk'.cell_far (HK6.cell hcell) (by omega), hk'.cell_far (HK6.cell hcell2) (by omega)⟩)
    go_wp2_with fail
    have hHeld0 := (⟨⟨k0, k1, k2, k3, k4⟩, hEx⟩ : (_ ∧ _ ∧ _ ∧ _ ∧ _) ∧ _)
    refine wp_region_held_drew (S := (fun w' => (w'.cell? ⟨W2.heap.size, 0, none⟩ = some (.slice U0 R.ow.length e0) ∧ w'.cell? ⟨W2.heap.size, 1, none⟩ = some (.slice (some ⟨g, 0, none⟩) R.cs.length e1) ∧ w'.cell? ⟨W2.heap.size, 2, none⟩ = some (.slice U2 R.rm.length e2) ∧ w'.cell? ⟨W2.heap.size, 3, none⟩ = some (.slice U3 R.st.length e3) ∧ w'.cell? ⟨W2.heap.size, 4, none⟩ = some (.slice U4 R.tk.length e4)) ∧ (w'.cell? ⟨w.heap.size, 1, none⟩ = some (.slice (some ⟨b, o, none⟩) R.cs.length c1) ∧ w'.cell? ⟨b, o + i, none⟩ = some (.slice (some ⟨b2, o2, none⟩) 1 ci) ∧ w'.cell? ⟨b2, o2, none⟩ = some (.int .i64 x)))) (by kernel_rfl) hHeld0 (fun hHeld => ?_)
    refine wpAnyH_take (i := 0) (v := ?_) rfl (by kernel_rfl) (by kernel_rfl) (by kernel_rfl) (fun _ _ _ h => h) (Or.inl ⟨by rfl, ?_⟩) (by assumption) ?_
    rotate_left
    · intro wS hSw
      (try dsimp only at hSw)
      go_simp
      (try with_reducible rfl)
    refine wpAnyH_take (i := 1) (v := ?_) rfl (by kernel_rfl) (by kernel_rfl) (by kernel_rfl) (fun _ _ _ h => h) (Or.inl ⟨by rfl, ?_⟩) (by assumption) ?_
    rotate_left
    · intro wS hSw
      (try dsimp only at hSw)
      go_simp
      (try with_reducible rfl)
    refine wpAnyH_take (i := 2) (v := ?_) rfl (by kernel_rfl) (by kernel_rfl) (by kernel_rfl) (fun _ _ _ h => h) (Or.inl ⟨by rfl, ?_⟩) (by assumption) ?_
    rotate_left
    · intro wS hSw
      (try dsimp only at hSw)
      go_simp
      (try with_reducible rfl)
    refine wpAnyH_take (i := 3) (v := ?_) rfl (by kernel_rfl) (by kernel_rfl) (by kernel_rfl) (fun _ _ _ h => h) (Or.inl ⟨by rfl, ?_⟩) (by assumption) ?_
    rotate_left
    · intro wS hSw
      (try dsimp only at hSw)
      go_simp
      (try with_reducible rfl)
    (try simp only [Act.put, List.getElem_toArray, List.getElem_cons_succ, List.getElem_cons_zero, List.setIfInBounds_toArray, List.set_cons_zero, List.set_cons_succ])
    refine wpAnyH_take (i := 4) (v := ?_) rfl (by kernel_rfl) (by kernel_rfl) (by kernel_rfl) (fun _ _ _ h => h) (Or.inl ⟨by rfl, ?_⟩) (by assumption) ?_
    rotate_left
    · intro wS hSw
      (try dsimp only at hSw)
      go_simp
      (try with_reducible rfl)
    refine wpAnyH_take (i := 5) (v := ?_) rfl (by kernel_rfl) (by kernel_rfl) (by kernel_rfl) (fun _ _ _ h => h) (Or.inl ⟨by rfl, ?_⟩) (by assumption) ?_
    rotate_left
    · intro wS hSw
      (try dsimp only at hSw)
      go_simp
      (try with_reducible rfl)
    (try simp only [Act.put, List.getElem_toArray, List.getElem_cons_succ, List.getElem_cons_zero, List.setIfInBounds_toArray, List.set_cons_zero, List.set_cons_succ])
    refine wpAnyH_take (i := 6) (v := ?_) rfl (by kernel_rfl) (by kernel_rfl) (by kernel_rfl) (fun _ _ _ h => h) (Or.inl ⟨by rfl, ?_⟩) (by assumption) ?_
    rotate_left
    · intro wS hSw
      (try dsimp only at hSw)
      go_simp
      (try with_reducible rfl)
    refine wpAnyH_take (i := 7) (v := ?_) rfl (by kernel_rfl) (by kernel_rfl) (by kernel_rfl) (fun _ _ _ h => h) (Or.inl ⟨by rfl, ?_⟩) (by assumption) ?_
    rotate_left
    · intro wS hSw
      (try dsimp only at hSw)
      go_simp
      (try with_reducible rfl)
    (try simp only [Act.put, List.getElem_toArray, List.getElem_cons_succ, List.getElem_cons_zero, List.setIfInBounds_toArray, List.set_cons_zero, List.set_cons_succ])
    refine wpAnyH_ready (rs := [8]) (by kernel_rfl) (by simp) ?_
    refine (AllReadyH.cons rfl (fun K hK => ?_) AllReadyH.nil)
    go_simp
    have hkp : Kept (· = w.heap.size + 1) W6 (((((W6.setCell ⟨w.heap.size + 1, 0, none⟩ (.slice U0 R.ow.length e0)).setCell ⟨w.heap.size + 1, 1, none⟩ (.slice (some ⟨g, 0, none⟩) R.cs.length e1)).setCell ⟨w.heap.size + 1, 2, none⟩ (.slice U2 R.rm.length e2)).setCell ⟨w.heap.size + 1, 3, none⟩ (.slice U3 R.st.length e3)).setCell ⟨w.heap.size + 1, 4, none⟩ (.slice U4 R.tk.length e4)).drew := (Kept.put5 _ _ _ _ _ _ _).drew
    have hfar : ¬ W2.heap.size = w.heap.size + 1 := by omega
    have hHeld5 := (⟨⟨hkp.cell_far k0 hfar, hkp.cell_far k1 hfar, hkp.cell_far k2 hfar, hkp.cell_far k3 hfar, hkp.cell_far k4 hfar⟩, HEX.out _ hkp⟩ : (_ ∧ _ ∧ _ ∧ _ ∧ _) ∧ _)
    refine hK.out _ _ hHeld5 (fun hHeld => ?_)
    clear hK K
    (try simp only [Act.put, List.getElem_toArray, List.getElem_cons_succ, List.getElem_cons_zero, List.setIfInBounds_toArray, List.set_cons_zero, List.set_cons_succ])
    refine wpAnyH_ready (rs := [9]) (by kernel_rfl) (by simp) ?_
    refine (AllReadyH.cons rfl (fun K hK => ?_) AllReadyH.nil)
    go_simp
    refine hK.out _ _ hHeld (fun hHeld => ?_)
    clear hK K
    (try simp only [Act.put, List.getElem_toArray, List.getElem_cons_succ, List.getElem_cons_zero, List.setIfInBounds_toArray, List.set_cons_zero, List.set_cons_succ])
    refine wpAnyH_ready (rs := [10]) (by kernel_rfl) (by simp) ?_
    refine (AllReadyH.cons rfl (fun K hK => ?_) AllReadyH.nil)
    go_simp
    refine hK.out _ _ hHeld (fun hHeld => ?_)
    clear hK K
    (try simp only [Act.put, List.getElem_toArray, List.getElem_cons_succ, List.getElem_cons_zero, List.setIfInBounds_toArray, List.set_cons_zero, List.set_cons_succ])
    refine wpAnyH_done (by kernel_rfl) ?_ _
    go_wp2_with fail
    refine ret_3 Try.results61 rfl (resVal.box rfl (((((HA7.out.put 0 _).put 1 _).put 2 _).put 3 _).put 4 _) Try.underlying33 rfl (by kernel_rfl)) (resVal.tmp rfl) (resVal.tmp rfl) ?_
    exact ⟨⟨_, rfl, ((HR7.out.kept hkp (fun k _ h => (show k < w.heap.size + 2 by omega))).mono (fun k _ h => Nat.lt_of_lt_of_le (show k < w.heap.size from h) (by omega)))⟩, HK7.out.own hkp (by omega)⟩
  · have hu' := hdr (.slice (some ⟨gu, 1, none⟩) (N - 1) (c' - 1)) 1 (fun h => rfl)
    have x0 := hC.cell i
    rw [hcur] at x0
    have y0 : ∀ x, (W2.alloc x).cell? ⟨g, i, none⟩ = _ := fun x => ((Kept.refl noX W2).alloc x).cell x0
    have z0 : ∀ x, (W2.alloc x).frozen? ⟨g, i, none⟩ = false := fun x => (hC.alloc x).free i
    have hgl := hC.lt
    have hga : w.heap.size + 2 ≤ g := (hTB g (by rw [hg1]; decide)).1
    have hkc : Kept (· = g) W2 (W2.setCell ⟨g, i, none⟩ (Value.slice (some ⟨gu, 1, none⟩) (N - 1) (c' - 1))) := (Kept.refl (· = g) _).setCell (p := ⟨g, i, none⟩) (fun _ => rfl) _
    have hsz : (W2.setCell ⟨g, i, none⟩ (Value.slice (some ⟨gu, 1, none⟩) (N - 1) (c' - 1))).heap.size = W2.heap.size := by simp [World.setCell]
    have HB6 := Cells.fresh (W2.setCell ⟨g, i, none⟩ (Value.slice (some ⟨gu, 1, none⟩) (N - 1) (c' - 1))) 33 [.slice U0 R.ow.length e0, .slice (some ⟨g, 0, none⟩) R.cs.length e1, .slice U2 R.rm.length e2, .slice U3 R.st.length e3, .slice U4 R.tk.length e4]
    rw [hsz] at HB6
    have HA6 := (hX2.kept hkc (by omega)).alloc (.cells #[.slice U0 R.ow.length e0, .slice (some ⟨g, 0, none⟩) R.cs.length e1, .slice U2 R.rm.length e2, .slice U3 R.st.length e3, .slice U4 R.tk.length e4] 33)
    have HS6 := (hS2.kept hkc (by omega)).alloc (.cells #[.slice U0 R.ow.length e0, .slice (some ⟨g, 0, none⟩) R.cs.length e1, .slice U2 R.rm.length e2, .slice U3 R.st.length e3, .slice U4 R.tk.length e4] 33)
    have hRV := hZ.rvC (Z := (· < w.heap.size + 2)) (W5 := W2) (X := noX) (u' := (Value.slice (some ⟨gu, 1, none⟩) (N - 1) (c' - 1))) (xs := r) hi (Kept.refl _ _) (fun _ _ h => h.elim) (fun k hk => Classical.byContradiction fun h2 => by have := (hTB k h2).1; have hk' : k < w.heap.size + 2 := hk; omega) (by first | exact Rep.nilrow | assumption)
    have HR6 := hRV.keep ((Kept.refl _ _).alloc (.cells #[.slice U0 R.ow.length e0, .slice (some ⟨g, 0, none⟩) R.cs.length e1, .slice U2 R.rm.length e2, .slice U3 R.st.length e3, .slice U4 R.tk.length e4] 33))
    have HK6 := (hk2.own hkc (by omega)).alloc (.cells #[.slice U0 R.ow.length e0, .slice (some ⟨g, 0, none⟩) R.cs.length e1, .slice U2 R.rm.length e2, .slice U3 R.st.length e3, .slice U4 R.tk.length e4] 33)
    have hw2 : w.heap.size + 1 < W2.heap.size := hX2.lt
    clear hZ hRV hTB hk2 hX2 hC hcur hB2 hkc hsz x0 hk2' hS2
    clear hdr hu' hq
    have hc3 : ¬ c' - 1 = 0 := by omega
    go_wp2_with fail
    go_region
    replace HB6 := HB6.drew
    replace HA6 := HA6.drew
    replace HS6 := HS6.drew
    replace HR6 := HR6.keep ((Kept.refl _ _).drew)
    replace HK6 := HK6.drew
    generalize hW6 : ((W2.setCell ⟨g, i, none⟩ (Value.slice (some ⟨gu, 1, none⟩) (N - 1) (c' - 1))).alloc (.cells #[.slice U0 R.ow.length e0, .slice (some ⟨g, 0, none⟩) R.cs.length e1, .slice U2 R.rm.length e2, .slice U3 R.st.length e3, .slice U4 R.tk.length e4] 33)).drew = W6 at HB6 HA6 HS6 HR6 HK6 ⊢
    clear hW6
    have k0 := HB6.cell 0
    have a0 := HA6.cell 0
    have f0 := HA6.free 0
    have k1 := HB6.cell 1
    have a1 := HA6.cell 1
    have f1 := HA6.free 1
    have k2 := HB6.cell 2
    have a2 := HA6.cell 2
    have f2 := HA6.free 2
    have k3 := HB6.cell 3
    have a3 := HA6.cell 3
    have f3 := HA6.free 3
    have k4 := HB6.cell 4
    have a4 := HA6.cell 4
    have f4 := HA6.free 4
    simp only [z5, List.getElem?_cons_zero, List.getElem?_cons_succ] at k0 k1 k2 k3 k4 a0 a1 a2 a3 a4
    have HA7 := Lib.hid HA6.drew
    have HR7 := Lib.hid HR6
    have HK7 := Lib.hid HK6
    have hEx : _ ∧ _ ∧ _ := ⟨HS6.cell 1, HK6.cell hcell, HK6.cell hcell2⟩
    have HEX : Hid (∀ W', Kept (· = w.heap.size + 1) W6 W' → W'.cell? ⟨w.heap.size, 1, none⟩ = some (.slice (some ⟨b, o, none⟩) R.cs.length c1) ∧ W'.cell? ⟨b, o + i, none⟩ = some (.slice (some ⟨b2, o2, none⟩) N ci) ∧ W'.cell? ⟨b2, o2, none⟩ = some (.int .i64 x)) := Lib.hid (fun W' hk' => ⟨hk'.cell_far (HS6.cell 1) (by omega), hk'.cell_far (HK6.cell hcell) (by omega), hk'.cell_far (HK6.cell hcell2) (by omega)⟩)
    go_wp2_with fail
    have hHeld0 := (⟨⟨k0, k1, k2, k3, k4⟩, hEx⟩ : (_ ∧ _ ∧ _ ∧ _ ∧ _) ∧ _)
    refine wp_region_held_drew (S := (fun w' => (w'.cell? ⟨W2.heap.size, 0, none⟩ = some (.slice U0 R.ow.length e0) ∧ w'.cell? ⟨W2.heap.size, 1, none⟩ = some (.slice (some ⟨g, 0, none⟩) R.cs.length e1) ∧ w'.cell? ⟨W2.heap.size, 2, none⟩ = some (.slice U2 R.rm.length e2) ∧ w'.cell? ⟨W2.heap.size, 3, none⟩ = some (.slice U3 R.st.length e3) ∧ w'.cell? ⟨W2.heap.size, 4, none⟩ = some (.slice U4 R.tk.length e4)) ∧ (w'.cell? ⟨w.heap.size, 1, none⟩ = some (.slice (some ⟨b, o, none⟩) R.cs.length c1) ∧ w'.cell? ⟨b, o + i, none⟩ = some (.slice (some ⟨b2, o2, none⟩) N ci) ∧ w'.cell? ⟨b2, o2, none⟩ = some (.int .i64 x)))) (by kernel_rfl) hHeld0 (fun hHeld => ?_)
    refine wpAnyH_take (i := 0) (v := ?_) rfl (by kernel_rfl) (by kernel_rfl) (by kernel_rfl) (fun _ _ _ h => h) (Or.inl ⟨by rfl, ?_⟩) (by assumption) ?_
    rotate_left
    · intro wS hSw
      (try dsimp only at hSw)
      go_simp
      (try with_reducible rfl)
    refine wpAnyH_take (i := 1) (v := ?_) rfl (by kernel_rfl) (by kernel_rfl) (by kernel_rfl) (fun _ _ _ h => h) (Or.inl ⟨by rfl, ?_⟩) (by assumption) ?_
    rotate_left
    · intro wS hSw
      (try dsimp only at hSw)
      go_simp
      (try with_reducible rfl)
    refine wpAnyH_take (i := 2) (v := ?_) rfl (by kernel_rfl) (by kernel_rfl) (by kernel_rfl) (fun _ _ _ h => h) (Or.inl ⟨by rfl, ?_⟩) (by assumption) ?_
    rotate_left
    · intro wS hSw
      (try dsimp only at hSw)
      go_simp
      (try with_reducible rfl)
    refine wpAnyH_take (i := 3) (v := ?_) rfl (by kernel_rfl) (by kernel_rfl) (by kernel_rfl) (fun _ _ _ h => h) (Or.inl ⟨by rfl, ?_⟩) (by assumption) ?_
    rotate_left
    · intro wS hSw
      (try dsimp only at hSw)
      go_simp
      (try with_reducible rfl)
    (try simp only [Act.put, List.getElem_toArray, List.getElem_cons_succ, List.getElem_cons_zero, List.setIfInBounds_toArray, List.set_cons_zero, List.set_cons_succ])
    refine wpAnyH_take (i := 4) (v := ?_) rfl (by kernel_rfl) (by kernel_rfl) (by kernel_rfl) (fun _ _ _ h => h) (Or.inl ⟨by rfl, ?_⟩) (by assumption) ?_
    rotate_left
    · intro wS hSw
      (try dsimp only at hSw)
      go_simp
      (try with_reducible rfl)
    refine wpAnyH_take (i := 5) (v := ?_) rfl (by kernel_rfl) (by kernel_rfl) (by kernel_rfl) (fun _ _ _ h => h) (Or.inl ⟨by rfl, ?_⟩) (by assumption) ?_
    rotate_left
    · intro wS hSw
      (try dsimp only at hSw)
      go_simp
      (try with_reducible rfl)
    (try simp only [Act.put, List.getElem_toArray, List.getElem_cons_succ, List.getElem_cons_zero, List.setIfInBounds_toArray, List.set_cons_zero, List.set_cons_succ])
    refine wpAnyH_take (i := 6) (v := ?_) rfl (by kernel_rfl) (by kernel_rfl) (by kernel_rfl) (fun _ _ _ h => h) (Or.inl ⟨by rfl, ?_⟩) (by assumption) ?_
    rotate_left
    · intro wS hSw
      (try dsimp only at hSw)
      go_simp
      (try with_reducible rfl)
    refine wpAnyH_take (i := 7) (v := ?_) rfl (by kernel_rfl) (by kernel_rfl) (by kernel_rfl) (fun _ _ _ h => h) (Or.inl ⟨by rfl, ?_⟩) (by assumption) ?_
    rotate_left
    · intro wS hSw
      (try dsimp only at hSw)
      go_simp
      (try with_reducible rfl)
    (try simp only [Act.put, List.getElem_toArray, List.getElem_cons_succ, List.getElem_cons_zero, List.setIfInBounds_toArray, List.set_cons_zero, List.set_cons_succ])
    refine wpAnyH_ready (rs := [8]) (by kernel_rfl) (by simp) ?_
    refine (AllReadyH.cons rfl (fun K hK => ?_) AllReadyH.nil)
    go_simp
    have hkp : Kept (· = w.heap.size + 1) W6 (((((W6.setCell ⟨w.heap.size + 1, 0, none⟩ (.slice U0 R.ow.length e0)).setCell ⟨w.heap.size + 1, 1, none⟩ (.slice (some ⟨g, 0, none⟩) R.cs.length e1)).setCell ⟨w.heap.size + 1, 2, none⟩ (.slice U2 R.rm.length e2)).setCell ⟨w.heap.size + 1, 3, none⟩ (.slice U3 R.st.length e3)).setCell ⟨w.heap.size + 1, 4, none⟩ (.slice U4 R.tk.length e4)).drew := (Kept.put5 _ _ _ _ _ _ _).drew
    have hfar : ¬ W2.heap.size = w.heap.size + 1 := by omega
    have hHeld5 := (⟨⟨hkp.cell_far k0 hfar, hkp.cell_far k1 hfar, hkp.cell_far k2 hfar, hkp.cell_far k3 hfar, hkp.cell_far k4 hfar⟩, HEX.out _ hkp⟩ : (_ ∧ _ ∧ _ ∧ _ ∧ _) ∧ _)
    refine hK.out _ _ hHeld5 (fun hHeld => ?_)
    clear hK K
    (try simp only [Act.put, List.getElem_toArray, List.getElem_cons_succ, List.getElem_cons_zero, List.setIfInBounds_toArray, List.set_cons_zero, List.set_cons_succ])
    refine wpAnyH_ready (rs := [9]) (by kernel_rfl) (by simp) ?_
    refine (AllReadyH.cons rfl (fun K hK => ?_) AllReadyH.nil)
    go_simp
    refine hK.out _ _ hHeld (fun hHeld => ?_)
    clear hK K
    (try simp only [Act.put, List.getElem_toArray, List.getElem_cons_succ, List.getElem_cons_zero, List.setIfInBounds_toArray, List.set_cons_zero, List.set_cons_succ])
    refine wpAnyH_ready (rs := [10]) (by kernel_rfl) (by simp) ?_
    refine (AllReadyH.cons rfl (fun K hK => ?_) AllReadyH.nil)
    go_simp
    refine hK.out _ _ hHeld (fun hHeld => ?_)
    clear hK K
    (try simp only [Act.put, List.getElem_toArray, List.getElem_cons_succ, List.getElem_cons_zero, List.setIfInBounds_toArray, List.set_cons_zero, List.set_cons_succ])
    refine wpAnyH_done (by kernel_rfl) ?_ _
    go_wp2_with fail
    refine ret_3 Try.results61 rfl (resVal.box rfl (((((HA7.out.put 0 _).put 1 _).put 2 _).put 3 _).put 4 _) Try.underlying33 rfl (by kernel_rfl)) (resVal.tmp rfl) (resVal.tmp rfl) ?_
    exact ⟨⟨_, rfl, ((HR7.out.kept hkp (fun k _ h => (show k < w.heap.size + 2 by omega))).mono (fun k _ h => Nat.lt_of_lt_of_le (show k < w.heap.size from h) (by omega)))⟩, HK7.out.own hkp (by omega)⟩
end
end Go.Proofs.Ytehcfahfbdphpaa
