/- Layer 4: the document's Send (conditions: its lists are of at most 10^9, that of the channel is shorter). -/
import Derived.Test.YtehcfahfbdphpaaSy44
namespace Go.Proofs.Ytehcfahfbdphpaa
open Go.RowKit Go.Shelf

/-- The copy's lists of what was sent lie in the block g, the i-th of them is u. -/
theorem ZP.openS {W : World} {T : Nat → Nat} {v0 v1 v2 v3 v4 : Value} {l1 l3 : List Value} {R : RS} {i n e : Nat} {U : Option Addr} (h : ZP W T v0 v1 v2 v3 v4 l1 l3 R) (hv : v3 = .slice U n e) (hi : i < R.st.length) :
    ∃ g A c cur, U = some ⟨g, 0, none⟩ ∧ n = R.st.length ∧ Cells W g 47 cur ∧ cur[i]? = some (.slice A R.st[i].length c) ∧ QAt W T (7 + 2 * i) 2 (.slice A R.st[i].length c) R.st[i] ∧ T g = 5 := by
  obtain ⟨-, -, ⟨d, f⟩, -, s⟩ := h
  subst hv
  obtain ⟨A0, c0, hv0, _, _⟩ := own_formN d
  injection hv0 with _ hn _
  obtain ⟨g, cap, cur, hv, _, hg, _⟩ := d.2.resolve_left (fun h => by omega)
  injection hv with hU _ _
  subst hU hn
  obtain ⟨cur, rest, hC, hcur, hcl, hcn⟩ := own_cells d
  obtain ⟨u, hu, hq⟩ := s i hi
  obtain ⟨A, c, rfl⟩ := hq.form
  have hl1 : l3.length = R.st.length := by have := d.1; omega
  exact ⟨g, A, c, cur, rfl, rfl, hC, by rw [hcur, List.getElem?_append_left (by omega)]; exact hu, hq, f g rfl⟩
theorem zcopy_at3 {w W1 : World} {vs : List Value} {R : RS} {K : Ending → World → Prop} (h : RV w noX vs R) (hb : RB R) (hk : Kept noX w W1) (hA : Cells W1 (w.heap.size + 1) 33 z5)
    (hK : ∀ W2 T u0 u1 u2 u3 u4 l1 l3, ZP W2 T u0 u1 u2 u3 u4 l1 l3 R → TBd W2 T (w.heap.size + 2) → Kept noX w W2 → Cells W2 (w.heap.size + 1) 33 z5 → Kept noX W1 W2 → K (.returned (.agg #[u0, u1, u2, u3, u4])) W2) :
    Calls Try.prog 87 #[.agg vs.toArray] W1 K := by
  refine (zcopy_any (h.keep hk) hb).mono ?_
  rintro e W2 ⟨T, u0, u1, u2, u3, u4, l1, l3, rfl, hZ, hT, hk2⟩
  have hl := hA.lt
  exact hK W2 T u0 u1 u2 u3 u4 l1 l3 hZ (fun g hg => by have := hT g hg; omega) (hk.trans hk2) (hA.keep hk2) hk2
section
variable {w : World} {vs : List Value} {R : RS} (h : RV w noX vs R) {t : Int}
include h
set_option maxRecDepth 100000 in
set_option maxHeartbeats 1000000 in
theorem zsend_out (m : Int) (hm : m < 0 ∨ (R.rm.length : Int) ≤ m) : Calls Try.prog 63 #[.agg vs.toArray, .int .i64 m, .int .i64 t] w fun e W' => e = .returned (.tuple #[.agg vs.toArray, .int .i64 (-1), .int .i64 4]) ∧ Kept noX w W' := by
  obtain ⟨v0, v1, v2, v3, v4, rfl, h0, h1, h2, h3, h4⟩ := h
  obtain ⟨A0, n0, c0, rfl, hn0, -⟩ := h0.form
  obtain ⟨A1, n1, c1, rfl, hn1, -⟩ := h1.form
  obtain ⟨A2, n2, c2, rfl, hn2, -⟩ := h2.form
  obtain ⟨A3, n3, c3, rfl, hn3, -⟩ := h3.form
  obtain ⟨A4, n4, c4, rfl, hn4, -⟩ := h4.form
  rw [List.length_map] at hn0 hn1 hn2 hn3 hn4
  subst hn0 hn1 hn2 hn3 hn4
  have HR := Lib.hid (show RV w noX [.slice A0 R.ow.length c0, .slice A1 R.cs.length c1, .slice A2 R.rm.length c2, .slice A3 R.st.length c3, .slice A4 R.tk.length c4] R from ⟨_, _, _, _, _, rfl, h0, h1, h2, h3, h4⟩)
  have H0 := Lib.hid h0
  have H1 := Lib.hid h1
  have H2 := Lib.hid h2
  have H3 := Lib.hid h3
  have H4 := Lib.hid h4
  clear h0 h1 h2 h3 h4
  rcases hm with hm | hm
  · have d0 : decide (m < 0) = true := by simpa using hm
    go_enter Try.func63, Try.ntmps63
    go_wp2_with fail
    refine ret_3 Try.results63 rfl (resVal.box rfl (cells_second _ _ _ _) Try.underlying33 rfl (by kernel_rfl)) (resVal.tmp rfl) (resVal.tmp rfl) ?_
    exact ⟨rfl, ((Kept.refl _ _).alloc _).alloc _⟩
  · have d0 : decide (m < 0) = false := by simp; omega
    have d1 : decide ((R.rm.length : Int) ≤ m) = true := by simpa using hm
    have hm' : ¬ m < 0 := by omega
    go_enter Try.func63, Try.ntmps63
    go_wp2_with fail
    refine ret_3 Try.results63 rfl (resVal.box rfl (cells_second _ _ _ _) Try.underlying33 rfl (by kernel_rfl)) (resVal.tmp rfl) (resVal.tmp rfl) ?_
    exact ⟨rfl, ((Kept.refl _ _).alloc _).alloc _⟩
set_option maxRecDepth 100000 in
set_option maxHeartbeats 1000000 in
theorem zsend_bad (i : Nat) (hi : i < R.rm.length) (ht : inI (-2147483648) 2147483647 t = false) : Calls Try.prog 63 #[.agg vs.toArray, .int .i64 i, .int .i64 t] w fun e W' => e = .returned (.tuple #[.agg vs.toArray, .int .i64 (-1), .int .i64 2]) ∧ Kept noX w W' := by
  obtain ⟨v0, v1, v2, v3, v4, rfl, h0, h1, h2, h3, h4⟩ := h
  obtain ⟨A0, n0, c0, rfl, hn0, -⟩ := h0.form
  obtain ⟨A1, n1, c1, rfl, hn1, -⟩ := h1.form
  obtain ⟨A2, n2, c2, rfl, hn2, -⟩ := h2.form
  obtain ⟨A3, n3, c3, rfl, hn3, -⟩ := h3.form
  obtain ⟨A4, n4, c4, rfl, hn4, -⟩ := h4.form
  rw [List.length_map] at hn0 hn1 hn2 hn3 hn4
  subst hn0 hn1 hn2 hn3 hn4
  have HR := Lib.hid (show RV w noX [.slice A0 R.ow.length c0, .slice A1 R.cs.length c1, .slice A2 R.rm.length c2, .slice A3 R.st.length c3, .slice A4 R.tk.length c4] R from ⟨_, _, _, _, _, rfl, h0, h1, h2, h3, h4⟩)
  have H0 := Lib.hid h0
  have H1 := Lib.hid h1
  have H2 := Lib.hid h2
  have H3 := Lib.hid h3
  have H4 := Lib.hid h4
  clear h0 h1 h2 h3 h4
  have d0 : decide ((i : Int) < 0) = false := by simp
  have d1 : decide ((R.rm.length : Int) ≤ (i : Int)) = false := by simpa using hi
  have hi' : ¬ R.rm.length ≤ i := by omega
  by_cases ht1 : t < -2147483648
  · have d2 : decide (t < -2147483648) = true := by simpa using ht1
    go_enter Try.func63, Try.ntmps63
    go_wp2_with fail
    refine ret_3 Try.results63 rfl (resVal.box rfl (cells_second _ _ _ _) Try.underlying33 rfl (by kernel_rfl)) (resVal.tmp rfl) (resVal.tmp rfl) ?_
    exact ⟨rfl, ((Kept.refl _ _).alloc _).alloc _⟩
  · have d2 : decide (t < -2147483648) = false := by simpa using ht1
    have ht2 : 2147483647 < t := by simp [inI] at ht; omega
    have d3 : decide ((2147483647 : Int) < t) = true := by simpa using ht2
    go_enter Try.func63, Try.ntmps63
    go_wp2_with fail
    refine ret_3 Try.results63 rfl (resVal.box rfl (cells_second _ _ _ _) Try.underlying33 rfl (by kernel_rfl)) (resVal.tmp rfl) (resVal.tmp rfl) ?_
    exact ⟨rfl, ((Kept.refl _ _).alloc _).alloc _⟩
set_option maxRecDepth 100000 in
set_option maxHeartbeats 4000000 in
theorem zsend_full (i : Nat) (hi : i < R.rm.length) (hst : R.st.length = R.rm.length) (htk : R.tk.length = R.rm.length) (hle : R.tk[i] ≤ R.st[i].length) (hbig : R.st.length ≤ 1000000000 ∧ R.st[i].length ≤ 1000000000) (ht : inI (-2147483648) 2147483647 t = true) (hf : R.rm[i] ≤ ((R.st[i].drop R.tk[i]).length : Int)) : Calls Try.prog 63 #[.agg vs.toArray, .int .i64 i, .int .i64 t] w fun e W' => e = .returned (.tuple #[.agg vs.toArray, .int .i64 (-1), .int .i64 0]) ∧ Kept noX w W' := by
  obtain ⟨v0, v1, v2, v3, v4, rfl, h0, h1, h2, h3, h4⟩ := h
  obtain ⟨A0, n0, c0, rfl, hn0, -⟩ := h0.form
  obtain ⟨A1, n1, c1, rfl, hn1, -⟩ := h1.form
  obtain ⟨A2, n2, c2, rfl, hn2, -⟩ := h2.form
  obtain ⟨A3, n3, c3, rfl, hn3, -⟩ := h3.form
  obtain ⟨A4, n4, c4, rfl, hn4, -⟩ := h4.form
  rw [List.length_map] at hn0 hn1 hn2 hn3 hn4
  subst hn0 hn1 hn2 hn3 hn4
  have HR := Lib.hid (show RV w noX [.slice A0 R.ow.length c0, .slice A1 R.cs.length c1, .slice A2 R.rm.length c2, .slice A3 R.st.length c3, .slice A4 R.tk.length c4] R from ⟨_, _, _, _, _, rfl, h0, h1, h2, h3, h4⟩)
  have H0 := Lib.hid h0
  have H1 := Lib.hid h1
  have H2 := Lib.hid h2
  have H3 := Lib.hid h3
  have H4 := Lib.hid h4
  clear h0 h1 h2 h3 h4
  have d0 : decide ((i : Int) < 0) = false := by simp
  have d1 : decide ((R.rm.length : Int) ≤ (i : Int)) = false := by simpa using hi
  have hi' : ¬ R.rm.length ≤ i := by omega
  have ht1 : ¬ t < -2147483648 ∧ ¬ 2147483647 < t := by simp [inI] at ht; omega
  have d2 : decide (t < -2147483648) = false := by simpa using ht1.1
  have d3 : decide ((2147483647 : Int) < t) = false := by simpa using ht1.2
  obtain ⟨b, o, c, hveq, hcell, _⟩ := rowN_at H2.out hi
  injection hveq with hA _ hc
  subst hA hc
  have HZV := Lib.hid (fun W' (hk : Kept noX w W') => zvalues_any (HR.out.keep hk) i (by omega) (by omega) hle hbig)
  have d4 : decide (R.rm[i] ≤ ((R.st[i].drop R.tk[i]).length : Int)) = true := by simpa using hf
  generalize R.rm[i] = rm at *
  generalize R.st[i].drop R.tk[i] = xs at *
  clear hle hbig ht1 hst htk hf
  go_enter Try.func63, Try.ntmps63
  go_wp2_with fail
  obtain ⟨W0, hW0⟩ : ∃ W0, W0 = ((w.alloc (.cells #[.slice A0 R.ow.length c0, .slice A1 R.cs.length c1, .slice (some ⟨b, o, none⟩) R.rm.length c2, .slice A3 R.st.length c3, .slice A4 R.tk.length c4] 33)).alloc (.cells #[.slice none 0 0, .slice none 0 0, .slice none 0 0, .slice none 0 0, .slice none 0 0] 33)) := ⟨_, rfl⟩
  have hX : Cells W0 w.heap.size 33 [.slice A0 R.ow.length c0, .slice A1 R.cs.length c1, .slice (some ⟨b, o, none⟩) R.rm.length c2, .slice A3 R.st.length c3, .slice A4 R.tk.length c4] := by rw [hW0]; exact (Cells.fresh w 33 _).alloc _
  have hX2 : Cells W0 (w.heap.size + 1) 33 z5 := by rw [hW0]; exact cells_second _ _ _ _
  have hk0 : Kept noX w W0 := by rw [hW0]; exact ((Kept.refl _ _).alloc _).alloc _
  rw [← hW0]
  clear hW0
  have q0 := hk0.cell hcell
  have p0 := hX.cell 0
  have p1 := hX.cell 1
  have p2 := hX.cell 2
  have p3 := hX.cell 3
  have p4 := hX.cell 4
  simp only [List.getElem?_cons_zero, List.getElem?_cons_succ] at p0 p1 p2 p3 p4
  have HX := Lib.hid hX
  have HX2 := Lib.hid hX2
  have HK0 := Lib.hid hk0
  clear hX hX2 hk0
  have hHeld0 := (⟨⟨p0, p1, p2, p3, p4⟩, q0⟩ : (_ ∧ _ ∧ _ ∧ _ ∧ _) ∧ _)
  have mixed : Try.prog.follows .mixedOrders = true := by kernel_rfl
  refine wp_region_held_drew (S := (fun w' => (w'.cell? ⟨w.heap.size, 0, none⟩ = some (.slice A0 R.ow.length c0) ∧ w'.cell? ⟨w.heap.size, 1, none⟩ = some (.slice A1 R.cs.length c1) ∧ w'.cell? ⟨w.heap.size, 2, none⟩ = some (.slice (some ⟨b, o, none⟩) R.rm.length c2) ∧ w'.cell? ⟨w.heap.size, 3, none⟩ = some (.slice A3 R.st.length c3) ∧ w'.cell? ⟨w.heap.size, 4, none⟩ = some (.slice A4 R.tk.length c4)) ∧ w'.cell? ⟨b, o + i, none⟩ = some (.int .i64 rm))) (by kernel_rfl) hHeld0 (fun hHeld => ?_)
  refine wpAnyH_take (i := 0) (v := ?_) rfl (by kernel_rfl) (by kernel_rfl) (by kernel_rfl) (fun _ _ _ h => h) (Or.inl ⟨by rfl, ?_⟩) (by assumption) ?_
  rotate_left
  · intro wS hSw
    (try dsimp only at hSw)
    go_simp
    (try with_reducible rfl)
  refine wpAnyH_take (i := 1) (v := ?_) rfl (by kernel_rfl) (by kernel_rfl) (by kernel_rfl) (fun _ _ _ h => h) (Or.inl ⟨by rfl, ?_⟩) (by assumption) ?_
  rotate_left
  · intro wS hSw
    (try dsimp only at hSw)
    go_simp
    (try with_reducible rfl)
  refine wpAnyH_take (i := 4) (v := ?_) rfl (by kernel_rfl) (by kernel_rfl) (by kernel_rfl) (fun _ _ _ h => h) (Or.inl ⟨by rfl, ?_⟩) (by assumption) ?_
  rotate_left
  · intro wS hSw
    (try dsimp only at hSw)
    go_simp
    (try with_reducible rfl)
  refine wpAnyH_take (i := 5) (v := ?_) rfl (by kernel_rfl) (by kernel_rfl) (by kernel_rfl) (fun _ _ _ h => h) (Or.inl ⟨by rfl, ?_⟩) (by assumption) ?_
  rotate_left
  · intro wS hSw
    (try dsimp only at hSw)
    go_simp
    (try with_reducible rfl)
  refine wpAnyH_take (i := 6) (v := ?_) rfl (by kernel_rfl) (by kernel_rfl) (by kernel_rfl) (fun _ _ _ h => h) (Or.inl ⟨by rfl, ?_⟩) (by assumption) ?_
  rotate_left
  · intro wS hSw
    (try dsimp only at hSw)
    go_simp
    (try with_reducible rfl)
  (try simp only [Act.put, List.getElem_toArray, List.getElem_cons_succ, List.getElem_cons_zero, List.setIfInBounds_toArray, List.set_cons_zero, List.set_cons_succ])
  refine wpAnyH_take (i := 7) (v := ?_) rfl (by kernel_rfl) (by kernel_rfl) (by kernel_rfl) (fun _ _ _ h => h) (Or.inl ⟨by rfl, ?_⟩) (by assumption) ?_
  rotate_left
  · intro wS hSw
    (try dsimp only at hSw)
    go_simp
    (try with_reducible rfl)
  refine wpAnyH_take (i := 8) (v := ?_) rfl (by kernel_rfl) (by kernel_rfl) (by kernel_rfl) (fun _ _ _ h => h) (Or.inl ⟨by rfl, ?_⟩) (by assumption) ?_
  rotate_left
  · intro wS hSw
    (try dsimp only at hSw)
    go_simp
    (try with_reducible rfl)
  (try simp only [Act.put, List.getElem_toArray, List.getElem_cons_succ, List.getElem_cons_zero, List.setIfInBounds_toArray, List.set_cons_zero, List.set_cons_succ])
  refine wpAnyH_ready (rs := [2]) (by kernel_rfl) (by simp) ?_
  refine (AllReadyH.cons rfl (fun K hK => ?_) AllReadyH.nil)
  go_simp
  refine (HZV.out _ (HK0.out.drew)).mono ?_
  rintro e W1 ⟨⟨Av, cv, rfl, -⟩, hk1⟩
  replace hk1 := ((Kept.refl noX W0).drew).trans hk1
  have hHeld1 := (⟨⟨hk1.cell p0, hk1.cell p1, hk1.cell p2, hk1.cell p3, hk1.cell p4⟩, hk1.cell q0⟩ : (_ ∧ _ ∧ _ ∧ _ ∧ _) ∧ _)
  refine hK.out _ _ hHeld1 (fun hHeld => ?_)
  clear hK K
  (try simp only [Act.put, List.getElem_toArray, List.getElem_cons_succ, List.getElem_cons_zero, List.setIfInBounds_toArray, List.set_cons_zero, List.set_cons_succ])
  refine wpAnyH_take (i := 3) (v := ?_) rfl (by kernel_rfl) (by kernel_rfl) (by kernel_rfl) (fun _ _ _ h => h) (Or.inl ⟨by rfl, ?_⟩) (by assumption) ?_
  rotate_left
  · intro wS hSw
    (try dsimp only at hSw)
    go_simp
    (try with_reducible rfl)
  (try simp only [Act.put, List.getElem_toArray, List.getElem_cons_succ, List.getElem_cons_zero, List.setIfInBounds_toArray, List.set_cons_zero, List.set_cons_succ])
  refine wpAnyH_take (i := 9) (v := ?_) rfl (by kernel_rfl) (by kernel_rfl) (by kernel_rfl) (fun _ _ _ h => h) (Or.inl ⟨by rfl, ?_⟩) (by assumption) ?_
  rotate_left
  · intro wS hSw
    (try dsimp only at hSw)
    go_simp
    (try with_reducible rfl)
  (try simp only [Act.put, List.getElem_toArray, List.getElem_cons_succ, List.getElem_cons_zero, List.setIfInBounds_toArray, List.set_cons_zero, List.set_cons_succ])
  refine wpAnyH_done (by kernel_rfl) ?_ _
  have hX1 := HX.out.keep hk1
  have hA1 := HX2.out.keep hk1
  replace p0 := hk1.cell p0
  have a0 := hA1.cell 0
  have f0 := hA1.free 0
  replace p1 := hk1.cell p1
  have a1 := hA1.cell 1
  have f1 := hA1.free 1
  replace p2 := hk1.cell p2
  have a2 := hA1.cell 2
  have f2 := hA1.free 2
  replace p3 := hk1.cell p3
  have a3 := hA1.cell 3
  have f3 := hA1.free 3
  replace p4 := hk1.cell p4
  have a4 := hA1.cell 4
  have f4 := hA1.free 4
  simp only [z5, List.getElem?_cons_zero, List.getElem?_cons_succ] at a0 a1 a2 a3 a4
  have HX1 := Lib.hid hX1
  have HA2 := Lib.hid hA1
  have HK2 := Lib.hid (HK0.out.trans hk1)
  clear hX1 hA1 hk1 hHeld0 hHeld1 q0
  go_wp2_with fail
  refine ret_3 Try.results63 rfl (resVal.box rfl (((((HA2.out.put 0 _).put 1 _).put 2 _).put 3 _).put 4 _) Try.underlying33 rfl (by kernel_rfl)) (resVal.tmp rfl) (resVal.tmp rfl) ?_
  exact ⟨rfl, HK2.out.own (Kept.put5 _ _ _ _ _ _ _) (by omega)⟩
end
end Go.Proofs.Ytehcfahfbdphpaa
