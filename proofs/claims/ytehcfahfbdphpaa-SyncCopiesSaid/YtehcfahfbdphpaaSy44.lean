/- Layer 4: the document's Signal and All (conditions: its lists are of at most 10^9). -/
import Derived.Test.YtehcfahfbdphpaaSy43
import Derived.Test.YtehcfahfbdphpaaSy40
namespace Go.Proofs.Ytehcfahfbdphpaa
open Go.RowKit Go.Shelf

/-- The copy's lists of who waits lie in the block g, the i-th of them is u. -/
theorem ZP.openC {W : World} {T : Nat → Nat} {v0 v1 v2 v3 v4 : Value} {l1 l3 : List Value} {R : RS} {i n e : Nat} {U : Option Addr} (h : ZP W T v0 v1 v2 v3 v4 l1 l3 R) (hv : v1 = .slice U n e) (hi : i < R.cs.length) :
    ∃ g A c cur, U = some ⟨g, 0, none⟩ ∧ n = R.cs.length ∧ Cells W g 22 cur ∧ cur[i]? = some (.slice A R.cs[i].length c) ∧ QAt W T (6 + 2 * i) 3 (.slice A R.cs[i].length c) R.cs[i] ∧ T g = 4 := by
  obtain ⟨-, ⟨d, f⟩, -, s, -⟩ := h
  subst hv
  obtain ⟨A0, c0, hv0, _, _⟩ := own_formN d
  injection hv0 with _ hn _
  obtain ⟨g, cap, cur, hv, _, hg, _⟩ := d.2.resolve_left (fun h => by omega)
  injection hv with hU _ _
  subst hU hn
  obtain ⟨cur, rest, hC, hcur, hcl, hcn⟩ := own_cells d
  obtain ⟨u, hu, hq⟩ := s i hi
  obtain ⟨A, c, rfl⟩ := hq.form
  have hl1 : l1.length = R.cs.length := by have := d.1; omega
  exact ⟨g, A, c, cur, rfl, rfl, hC, by rw [hcur, List.getElem?_append_left (by omega)]; exact hu, hq, f g rfl⟩
theorem rv_cs {w : World} {Z : Nat → Prop} {v0 v1 v2 v3 v4 : Value} {R : RS} (h : RV w Z [v0, v1, v2, v3, v4] R) : RowV w Z v1 (dL R.cs) := by
  obtain ⟨_, _, _, _, _, hv, _, h1, _⟩ := h
  injection hv with _ hv
  injection hv with hv _
  rw [hv]
  exact h1
theorem zcopy_at2 {w : World} {o : Obj} {vs : List Value} {R : RS} {K : Ending → World → Prop} (h : RV w noX vs R) (hb : RB R)
    (hK : ∀ W2 T u0 u1 u2 u3 u4 l1 l3, ZP W2 T u0 u1 u2 u3 u4 l1 l3 R → TBd W2 T (w.heap.size + 2) → Kept noX w W2 → Cells W2 (w.heap.size + 1) 33 z5 → Kept noX ((w.alloc o).alloc (.cells #[.slice none 0 0, .slice none 0 0, .slice none 0 0, .slice none 0 0, .slice none 0 0] 33)) W2 → K (.returned (.agg #[u0, u1, u2, u3, u4])) W2) :
    Calls Try.prog 87 #[.agg vs.toArray] ((w.alloc o).alloc (.cells #[.slice none 0 0, .slice none 0 0, .slice none 0 0, .slice none 0 0, .slice none 0 0] 33)) K := by
  have hk : Kept noX w ((w.alloc o).alloc (.cells #[.slice none 0 0, .slice none 0 0, .slice none 0 0, .slice none 0 0, .slice none 0 0] 33)) := ((Kept.refl _ _).alloc _).alloc _
  refine (zcopy_any (h.keep hk) hb).mono ?_
  rintro e W2 ⟨T, u0, u1, u2, u3, u4, l1, l3, rfl, hZ, hT, hk2⟩
  refine hK W2 T u0 u1 u2 u3 u4 l1 l3 hZ ?_ (hk.trans hk2) ((cells_second w 33 o z5).keep hk2) hk2
  rw [World.size_alloc, World.size_alloc] at hT
  exact hT
section
variable {w : World} {vs : List Value} {R : RS} (h : RV w noX vs R)
include h
set_option maxRecDepth 100000 in
set_option maxHeartbeats 1000000 in
theorem zsignal_out (m : Int) (hm : m < 0 ∨ (R.cs.length : Int) ≤ m) : Calls Try.prog 61 #[.agg vs.toArray, .int .i64 m] w fun e W' => e = .returned (.tuple #[.agg vs.toArray, .int .i64 (-1), .int .i64 4]) ∧ Kept noX w W' := by
  obtain ⟨v0, v1, v2, v3, v4, rfl, h0, h1, h2, h3, h4⟩ := h
  obtain ⟨A0, n0, c0, rfl, hn0, -⟩ := h0.form
  obtain ⟨A1, n1, c1, rfl, hn1, -⟩ := h1.form
  obtain ⟨A2, n2, c2, rfl, hn2, -⟩ := h2.form
  obtain ⟨A3, n3, c3, rfl, hn3, -⟩ := h3.form
  obtain ⟨A4, n4, c4, rfl, hn4, -⟩ := h4.form
  rw [List.length_map] at hn0 hn1 hn2 hn3 hn4
  subst hn0 hn1 hn2 hn3 hn4
  have HR := Lib.hid (show RV w noX [.slice A0 R.ow.length c0, .slice A1 R.cs.length c1, .slice A2 R.rm.length c2, .slice A3 R.st.length c3, .slice A4 R.tk.length c4] R from ⟨_, _, _, _, _, rfl, h0, h1, h2, h3, h4⟩)
  have H0 := Lib.hid h0
  have H1 := Lib.hid h1
  have H2 := Lib.hid h2
  have H3 := Lib.hid h3
  have H4 := Lib.hid h4
  clear h0 h1 h2 h3 h4
  rcases hm with hm | hm
  · have d0 : decide (m < 0) = true := by simpa using hm
    go_enter Try.func61, Try.ntmps61
    go_wp2_with fail
    refine ret_3 Try.results61 rfl (resVal.box rfl (cells_second _ _ _ _) Try.underlying33 rfl (by kernel_rfl)) (resVal.tmp rfl) (resVal.tmp rfl) ?_
    exact ⟨rfl, ((Kept.refl _ _).alloc _).alloc _⟩
  · have d0 : decide (m < 0) = false := by simp; omega
    have d1 : decide ((R.cs.length : Int) ≤ m) = true := by simpa using hm
    have hm' : ¬ m < 0 := by omega
    go_enter Try.func61, Try.ntmps61
    go_wp2_with fail
    refine ret_3 Try.results61 rfl (resVal.box rfl (cells_second _ _ _ _) Try.underlying33 rfl (by kernel_rfl)) (resVal.tmp rfl) (resVal.tmp rfl) ?_
    exact ⟨rfl, ((Kept.refl _ _).alloc _).alloc _⟩
set_option maxRecDepth 100000 in
set_option maxHeartbeats 1000000 in
theorem zsignal_nil (i : Nat) (hi : i < R.cs.length) (hx : R.cs[i] = []) : Calls Try.prog 61 #[.agg vs.toArray, .int .i64 i] w fun e W' => e = .returned (.tuple #[.agg vs.toArray, .int .i64 (-1), .int .i64 0]) ∧ Kept noX w W' := by
  obtain ⟨v0, v1, v2, v3, v4, rfl, h0, h1, h2, h3, h4⟩ := h
  obtain ⟨A0, n0, c0, rfl, hn0, -⟩ := h0.form
  obtain ⟨A1, n1, c1, rfl, hn1, -⟩ := h1.form
  obtain ⟨A2, n2, c2, rfl, hn2, -⟩ := h2.form
  obtain ⟨A3, n3, c3, rfl, hn3, -⟩ := h3.form
  obtain ⟨A4, n4, c4, rfl, hn4, -⟩ := h4.form
  rw [List.length_map] at hn0 hn1 hn2 hn3 hn4
  subst hn0 hn1 hn2 hn3 hn4
  have HR := Lib.hid (show RV w noX [.slice A0 R.ow.length c0, .slice A1 R.cs.length c1, .slice A2 R.rm.length c2, .slice A3 R.st.length c3, .slice A4 R.tk.length c4] R from ⟨_, _, _, _, _, rfl, h0, h1, h2, h3, h4⟩)
  have H0 := Lib.hid h0
  have H1 := Lib.hid h1
  have H2 := Lib.hid h2
  have H3 := Lib.hid h3
  have H4 := Lib.hid h4
  clear h0 h1 h2 h3 h4
  have d0 : decide ((i : Int) < 0) = false := by simp
  have d1 : decide ((R.cs.length : Int) ≤ (i : Int)) = false := by simpa using hi
  have hi' : ¬ R.cs.length ≤ i := by omega
  obtain ⟨b, o, c, A, n, ci, hveq, hcell, hn, _⟩ := rowL_at H1.out hi
  injection hveq with hA _ hc
  subst hA hc
  rw [hx] at hn
  subst hn
  have q0 : ∀ x y, ((w.alloc x).alloc y).cell? ⟨b, o + i, none⟩ = _ := fun x y => (((Kept.refl noX w).alloc x).alloc y).cell hcell
  simp only [List.length_nil] at q0
  clear hcell hx
  go_enter Try.func61, Try.ntmps61
  go_wp2_with fail
  refine ret_3 Try.results61 rfl (resVal.box rfl (cells_second _ _ _ _) Try.underlying33 rfl (by kernel_rfl)) (resVal.tmp rfl) (resVal.tmp rfl) ?_
  exact ⟨rfl, ((Kept.refl _ _).alloc _).alloc _⟩
set_option maxRecDepth 100000 in
set_option maxHeartbeats 1000000 in
theorem zall_out (m : Int) (hm : m < 0 ∨ (R.cs.length : Int) ≤ m) : Calls Try.prog 62 #[.agg vs.toArray, .int .i64 m] w fun e W' => e = .returned (.tuple #[.agg vs.toArray, .slice none 0 0, .int .i64 4]) ∧ Kept noX w W' := by
  obtain ⟨v0, v1, v2, v3, v4, rfl, h0, h1, h2, h3, h4⟩ := h
  obtain ⟨A0, n0, c0, rfl, hn0, -⟩ := h0.form
  obtain ⟨A1, n1, c1, rfl, hn1, -⟩ := h1.form
  obtain ⟨A2, n2, c2, rfl, hn2, -⟩ := h2.form
  obtain ⟨A3, n3, c3, rfl, hn3, -⟩ := h3.form
  obtain ⟨A4, n4, c4, rfl, hn4, -⟩ := h4.form
  rw [List.length_map] at hn0 hn1 hn2 hn3 hn4
  subst hn0 hn1 hn2 hn3 hn4
  have HR := Lib.hid (show RV w noX [.slice A0 R.ow.length c0, .slice A1 R.cs.length c1, .slice A2 R.rm.length c2, .slice A3 R.st.length c3, .slice A4 R.tk.length c4] R from ⟨_, _, _, _, _, rfl, h0, h1, h2, h3, h4⟩)
  have H0 := Lib.hid h0
  have H1 := Lib.hid h1
  have H2 := Lib.hid h2
  have H3 := Lib.hid h3
  have H4 := Lib.hid h4
  clear h0 h1 h2 h3 h4
  rcases hm with hm | hm
  · have d0 : decide (m < 0) = true := by simpa using hm
    go_enter Try.func62, Try.ntmps62
    go_wp2_with fail
    refine ret_3 Try.results62 rfl (resVal.box rfl (cells_second _ _ _ _) Try.underlying33 rfl (by kernel_rfl)) (resVal.tmp rfl) (resVal.tmp rfl) ?_
    exact ⟨rfl, ((Kept.refl _ _).alloc _).alloc _⟩
  · have d0 : decide (m < 0) = false := by simp; omega
    have d1 : decide ((R.cs.length : Int) ≤ m) = true := by simpa using hm
    have hm' : ¬ m < 0 := by omega
    go_enter Try.func62, Try.ntmps62
    go_wp2_with fail
    refine ret_3 Try.results62 rfl (resVal.box rfl (cells_second _ _ _ _) Try.underlying33 rfl (by kernel_rfl)) (resVal.tmp rfl) (resVal.tmp rfl) ?_
    exact ⟨rfl, ((Kept.refl _ _).alloc _).alloc _⟩
set_option maxRecDepth 100000 in
set_option maxHeartbeats 4000000 in
theorem zall_in {Z : Nat → Prop} (h2 : RV w Z vs R) (hb : RB R) (i : Nat) (hi : i < R.cs.length) : Calls Try.prog 62 #[.agg vs.toArray, .int .i64 i] w fun e W' => (∃ vs' A c, e = .returned (.tuple #[.agg vs'.toArray, .slice A R.cs[i].length c, .int .i64 0]) ∧ RV W' (· < w.heap.size) vs' { R with cs := R.cs.set i [] } ∧ RowV W' Z (.slice A R.cs[i].length c) (dI R.cs[i])) ∧ Kept noX w W' := by
  have HV2 := Lib.hid h2
  clear h2
  obtain ⟨v0, v1, v2, v3, v4, rfl, h0, h1, h2, h3, h4⟩ := h
  obtain ⟨A0, n0, c0, rfl, hn0, -⟩ := h0.form
  obtain ⟨A1, n1, c1, rfl, hn1, -⟩ := h1.form
  obtain ⟨A2, n2, c2, rfl, hn2, -⟩ := h2.form
  obtain ⟨A3, n3, c3, rfl, hn3, -⟩ := h3.form
  obtain ⟨A4, n4, c4, rfl, hn4, -⟩ := h4.form
  rw [List.length_map] at hn0 hn1 hn2 hn3 hn4
  subst hn0 hn1 hn2 hn3 hn4
  have HR := Lib.hid (show RV w noX [.slice A0 R.ow.length c0, .slice A1 R.cs.length c1, .slice A2 R.rm.length c2, .slice A3 R.st.length c3, .slice A4 R.tk.length c4] R from ⟨_, _, _, _, _, rfl, h0, h1, h2, h3, h4⟩)
  have H0 := Lib.hid h0
  have H1 := Lib.hid h1
  have H2 := Lib.hid h2
  have H3 := Lib.hid h3
  have H4 := Lib.hid h4
  clear h0 h1 h2 h3 h4
  have d0 : decide ((i : Int) < 0) = false := by simp
  have d1 : decide ((R.cs.length : Int) ≤ (i : Int)) = false := by simpa using hi
  have hi' : ¬ R.cs.length ≤ i := by omega
  have mixed : Try.prog.follows .mixedOrders = true := by kernel_rfl
  have hr2 := rv_cs HV2.out
  obtain ⟨b, o, c, A, n, ci, hveq, hcell, hn, hrow⟩ := rowL_at hr2 hi
  clear hr2 HV2
  injection hveq with hA _ hc
  subst hA hc hn
  generalize R.cs[i] = row at *
  go_enter Try.func62, Try.ntmps62
  go_wp2_with fail
  refine zcopy_at2 HR.out hb ?_
  intro W2 T u0 u1 u2 u3 u4 l1 l3 hZ hTB hk2 hX2 hk2'
  have hS2 := ((Cells.fresh w 33 _).alloc _).keep hk2'
  obtain ⟨U0, e0, hf0⟩ := hZ.1.1.form
  obtain ⟨U2, e2, hf2⟩ := hZ.1.2.1.form
  obtain ⟨U4, e4, hf4⟩ := hZ.1.2.2.form
  rw [List.length_map] at hf4
  obtain ⟨U1, e1, hf1, _, _⟩ := own_formN hZ.2.1.1
  obtain ⟨U3, e3, hf3, _, _⟩ := own_formN hZ.2.2.1.1
  subst hf0 hf1 hf2 hf3 hf4
  have hB2 := Cells.fresh W2 33 [.slice U0 R.ow.length e0, .slice U1 R.cs.length e1, .slice U2 R.rm.length e2, .slice U3 R.st.length e3, .slice U4 R.tk.length e4]
  obtain ⟨g, A', c', cur, rfl, -, hC, hcur, hq, hg1⟩ := hZ.openC rfl hi
  have x0 := hC.cell i
  rw [hcur] at x0
  have y0 : ∀ x, (W2.alloc x).cell? ⟨g, i, none⟩ = _ := fun x => ((Kept.refl noX W2).alloc x).cell x0
  have z0 : ∀ x, (W2.alloc x).frozen? ⟨g, i, none⟩ = false := fun x => (hC.alloc x).free i
  have hgl := hC.lt
  have hga : w.heap.size + 2 ≤ g := (hTB g (by rw [hg1]; decide)).1
  have hkc : Kept (· = g) W2 (W2.setCell ⟨g, i, none⟩ (Value.slice none 0 0)) := (Kept.refl (· = g) _).setCell (p := ⟨g, i, none⟩) (fun _ => rfl) _
  have hsz : (W2.setCell ⟨g, i, none⟩ (Value.slice none 0 0)).heap.size = W2.heap.size := by simp [World.setCell]
  have HB6 := Cells.fresh (W2.setCell ⟨g, i, none⟩ (Value.slice none 0 0)) 33 [.slice U0 R.ow.length e0, .slice (some ⟨g, 0, none⟩) R.cs.length e1, .slice U2 R.rm.length e2, .slice U3 R.st.length e3, .slice U4 R.tk.length e4]
  rw [hsz] at HB6
  have HA6 := (hX2.kept hkc (by omega)).alloc (.cells #[.slice U0 R.ow.length e0, .slice (some ⟨g, 0, none⟩) R.cs.length e1, .slice U2 R.rm.length e2, .slice U3 R.st.length e3, .slice U4 R.tk.length e4] 33)
  have HS6 := (hS2.kept hkc (by omega)).alloc (.cells #[.slice U0 R.ow.length e0, .slice (some ⟨g, 0, none⟩) R.cs.length e1, .slice U2 R.rm.length e2, .slice U3 R.st.length e3, .slice U4 R.tk.length e4] 33)
  have hRV := hZ.rvC (Z := (· < w.heap.size + 2)) (W5 := W2) (X := noX) (u' := (Value.slice none 0 0)) (xs := []) hi (Kept.refl _ _) (fun _ _ h => h.elim) (fun k hk => Classical.byContradiction fun h2 => by have := (hTB k h2).1; have hk' : k < w.heap.size + 2 := hk; omega) (by first | exact Rep.nilrow | assumption)
  have HR6 := hRV.keep ((Kept.refl _ _).alloc (.cells #[.slice U0 R.ow.length e0, .slice (some ⟨g, 0, none⟩) R.cs.length e1, .slice U2 R.rm.length e2, .slice U3 R.st.length e3, .slice U4 R.tk.length e4] 33))
  have HK6 := (hk2.own hkc (by omega)).alloc (.cells #[.slice U0 R.ow.length e0, .slice (some ⟨g, 0, none⟩) R.cs.length e1, .slice U2 R.rm.length e2, .slice U3 R.st.length e3, .slice U4 R.tk.length e4] 33)
  have hw2 : w.heap.size + 1 < W2.heap.size := hX2.lt
  clear hZ hRV hTB hk2 hX2 hC hcur hB2 hkc hsz x0 hk2' hS2
  go_wp2_with fail
  have HROW := Lib.hid (Rep.mono (show Rep w Z [.slice A row.length ci] (.row (dI row)) from hrow) (Z' := fun g => Z g ∨ w.heap.size ≤ g) (fun g hg h => h.elim id (fun h => by omega)))
  have hbl : b < w.heap.size := block_lt_of_cell hcell
  generalize hW6 : ((W2.setCell ⟨g, i, none⟩ (Value.slice none 0 0)).alloc (.cells #[.slice U0 R.ow.length e0, .slice (some ⟨g, 0, none⟩) R.cs.length e1, .slice U2 R.rm.length e2, .slice U3 R.st.length e3, .slice U4 R.tk.length e4] 33)) = W6 at HB6 HA6 HS6 HR6 HK6 ⊢
  clear hW6
  have k0 := HB6.cell 0
  have a0 := HA6.cell 0
  have f0 := HA6.free 0
  have k1 := HB6.cell 1
  have a1 := HA6.cell 1
  have f1 := HA6.free 1
  have k2 := HB6.cell 2
  have a2 := HA6.cell 2
  have f2 := HA6.free 2
  have k3 := HB6.cell 3
  have a3 := HA6.cell 3
  have f3 := HA6.free 3
  have k4 := HB6.cell 4
  have a4 := HA6.cell 4
  have f4 := HA6.free 4
  simp only [z5, List.getElem?_cons_zero, List.getElem?_cons_succ] at k0 k1 k2 k3 k4 a0 a1 a2 a3 a4
  have HA7 := Lib.hid HA6.drew
  have HR7 := Lib.hid HR6
  have HK7 := Lib.hid HK6
  have hEx : _ ∧ _ := ⟨HS6.cell 1, HK6.cell hcell⟩
  have HEX : Hid (∀ W', Kept (· = w.heap.size + 1) W6 W' → W'.cell? ⟨w.heap.size, 1, none⟩ = some (.slice (some ⟨b, o, none⟩) R.cs.length c1) ∧ W'.cell? ⟨b, o + i, none⟩ = some (.slice A row.length ci)) := Lib.hid (fun W' hk' => ⟨hk'.cell_far (HS6.cell 1) (by omega), hk'.cell_far (HK6.cell hcell) (by omega)⟩)
  have hHeld0 := (⟨⟨k0, k1, k2, k3, k4⟩, hEx⟩ : (_ ∧ _ ∧ _ ∧ _ ∧ _) ∧ _)
  refine wp_region_held_drew (S := (fun w' => (w'.cell? ⟨W2.heap.size, 0, none⟩ = some (.slice U0 R.ow.length e0) ∧ w'.cell? ⟨W2.heap.size, 1, none⟩ = some (.slice (some ⟨g, 0, none⟩) R.cs.length e1) ∧ w'.cell? ⟨W2.heap.size, 2, none⟩ = some (.slice U2 R.rm.length e2) ∧ w'.cell? ⟨W2.heap.size, 3, none⟩ = some (.slice U3 R.st.length e3) ∧ w'.cell? ⟨W2.heap.size, 4, none⟩ = some (.slice U4 R.tk.length e4)) ∧ (w'.cell? ⟨w.heap.size, 1, none⟩ = some (.slice (some ⟨b, o, none⟩) R.cs.length c1) ∧ w'.cell? ⟨b, o + i, none⟩ = some (.slice A row.length ci)))) (by kernel_rfl) hHeld0 (fun hHeld => ?_)
  refine wpAnyH_take (i := 0) (v := ?_) rfl (by kernel_rfl) (by kernel_rfl) (by kernel_rfl) (fun _ _ _ h => h) (Or.inl ⟨by rfl, ?_⟩) (by assumption) ?_
  rotate_left
  · intro wS hSw
    (try dsimp only at hSw)
    go_simp
    (try with_reducible rfl)
  refine wpAnyH_take (i := 1) (v := ?_) rfl (by kernel_rfl) (by kernel_rfl) (by kernel_rfl) (fun _ _ _ h => h) (Or.inl ⟨by rfl, ?_⟩) (by assumption) ?_
  rotate_left
  · intro wS hSw
    (try dsimp only at hSw)
    go_simp
    (try with_reducible rfl)
  refine wpAnyH_take (i := 2) (v := ?_) rfl (by kernel_rfl) (by kernel_rfl) (by kernel_rfl) (fun _ _ _ h => h) (Or.inl ⟨by rfl, ?_⟩) (by assumption) ?_
  rotate_left
  · intro wS hSw
    (try dsimp only at hSw)
    go_simp
    (try with_reducible rfl)
  refine wpAnyH_take (i := 3) (v := ?_) rfl (by kernel_rfl) (by kernel_rfl) (by kernel_rfl) (fun _ _ _ h => h) (Or.inl ⟨by rfl, ?_⟩) (by assumption) ?_
  rotate_left
  · intro wS hSw
    (try dsimp only at hSw)
    go_simp
    (try with_reducible rfl)
  (try simp only [Act.put, List.getElem_toArray, List.getElem_cons_succ, List.getElem_cons_zero, List.setIfInBounds_toArray, List.set_cons_zero, List.set_cons_succ])
  refine wpAnyH_take (i := 4) (v := ?_) rfl (by kernel_rfl) (by kernel_rfl) (by kernel_rfl) (fun _ _ _ h => h) (Or.inl ⟨by rfl, ?_⟩) (by assumption) ?_
  rotate_left
  · intro wS hSw
    (try dsimp only at hSw)
    go_simp
    (try with_reducible rfl)
  refine wpAnyH_take (i := 5) (v := ?_) rfl (by kernel_rfl) (by kernel_rfl) (by kernel_rfl) (fun _ _ _ h => h) (Or.inl ⟨by rfl, ?_⟩) (by assumption) ?_
  rotate_left
  · intro wS hSw
    (try dsimp only at hSw)
    go_simp
    (try with_reducible rfl)
  (try simp only [Act.put, List.getElem_toArray, List.getElem_cons_succ, List.getElem_cons_zero, List.setIfInBounds_toArray, List.set_cons_zero, List.set_cons_succ])
  refine wpAnyH_ready (rs := [6]) (by kernel_rfl) (by simp) ?_
  refine (AllReadyH.cons rfl (fun K hK => ?_) AllReadyH.nil)
  go_simp
  have hkp : Kept (· = w.heap.size + 1) W6 (((((W6.setCell ⟨w.heap.size + 1, 0, none⟩ (.slice U0 R.ow.length e0)).setCell ⟨w.heap.size + 1, 1, none⟩ (.slice (some ⟨g, 0, none⟩) R.cs.length e1)).setCell ⟨w.heap.size + 1, 2, none⟩ (.slice U2 R.rm.length e2)).setCell ⟨w.heap.size + 1, 3, none⟩ (.slice U3 R.st.length e3)).setCell ⟨w.heap.size + 1, 4, none⟩ (.slice U4 R.tk.length e4)).drew := (Kept.put5 _ _ _ _ _ _ _).drew
  have hfar : ¬ W2.heap.size = w.heap.size + 1 := by omega
  have hHeld5 := (⟨⟨hkp.cell_far k0 hfar, hkp.cell_far k1 hfar, hkp.cell_far k2 hfar, hkp.cell_far k3 hfar, hkp.cell_far k4 hfar⟩, HEX.out _ hkp⟩ : (_ ∧ _ ∧ _ ∧ _ ∧ _) ∧ _)
  refine hK.out _ _ hHeld5 (fun hHeld => ?_)
  clear hK K
  (try simp only [Act.put, List.getElem_toArray, List.getElem_cons_succ, List.getElem_cons_zero, List.setIfInBounds_toArray, List.set_cons_zero, List.set_cons_succ])
  refine wpAnyH_ready (rs := [7]) (by kernel_rfl) (by simp) ?_
  refine (AllReadyH.cons rfl (fun K hK => ?_) AllReadyH.nil)
  go_simp
  refine hK.out _ _ hHeld (fun hHeld => ?_)
  clear hK K
  (try simp only [Act.put, List.getElem_toArray, List.getElem_cons_succ, List.getElem_cons_zero, List.setIfInBounds_toArray, List.set_cons_zero, List.set_cons_succ])
  refine wpAnyH_ready (rs := [8]) (by kernel_rfl) (by simp) ?_
  refine (AllReadyH.cons rfl (fun K hK => ?_) AllReadyH.nil)
  go_simp
  refine hK.out _ _ hHeld (fun hHeld => ?_)
  clear hK K
  (try simp only [Act.put, List.getElem_toArray, List.getElem_cons_succ, List.getElem_cons_zero, List.setIfInBounds_toArray, List.set_cons_zero, List.set_cons_succ])
  refine wpAnyH_done (by kernel_rfl) ?_ _
  go_wp2_with fail
  refine ret_3 Try.results62 rfl (resVal.box rfl (((((HA7.out.put 0 _).put 1 _).put 2 _).put 3 _).put 4 _) Try.underlying33 rfl (by kernel_rfl)) (resVal.tmp rfl) (resVal.tmp rfl) ?_
  exact ⟨⟨_, A, ci, rfl, ((HR7.out.kept hkp (fun k _ h => (show k < w.heap.size + 2 by omega))).mono (fun k _ h => Nat.lt_of_lt_of_le (show k < w.heap.size from h) (by omega))), ((Rep.keep HROW.out HK7.out).kept hkp (fun k _ h => .inr (by omega))).mono (fun k _ h => .inl h)⟩, HK7.out.own hkp (by omega)⟩
end
end Go.Proofs.Ytehcfahfbdphpaa
