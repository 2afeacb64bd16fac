/- Layer 4: the document's Recv (conditions: none). -/
import Derived.Test.YtehcfahfbdphpaaSy51
namespace Go.Proofs.Ytehcfahfbdphpaa
open Go.RowKit Go.Shelf

theorem ret_4c {P : Program} {fn : Func} {a : Act} {W : World} {Q : Ending → World → Prop} {r0 r1 r2 r3 : ResultVar} (h : fn.results = #[r0, r1, r2, r3]) {v0 v1 v2 v3 : Value} (hf : a.defers = [])
    (h0 : resVal P W a.tmps r0 v0) (h1 : resVal P W a.tmps r1 v1) (h2 : resVal P W a.tmps r2 v2) (h3 : resVal P W a.tmps r3 v3) (hR : Q (.returned (.tuple #[v0, v1, v2, v3])) W) : bodyPost P fn Q .ret a W :=
  ret_multi [r0, r1, r2, r3] [v0, v1, v2, v3] h (by simp) rfl hf (fun i hi => by
    match i, hi with
    | 0, _ => exact h0
    | 1, _ => exact h1
    | 2, _ => exact h2
    | 3, _ => exact h3) hR
theorem zvalues_at {w : World} {cs vs : List Value} {R : RS} {K : Ending → World → Prop} {i : Nat} {xs : List Int} (h : RV w noX vs R) (hv : ∀ W', RV W' noX vs R → Calls Try.prog 57 #[.agg vs.toArray, .int .i64 i] W' fun e W'' => (∃ A c, e = .returned (.slice A xs.length c) ∧ RowV W'' noX (.slice A xs.length c) (dI xs)) ∧ Kept noX W' W'')
    (hK : ∀ W1 A c, Kept noX w W1 → Cells W1 w.heap.size 33 cs → Cells W1 (w.heap.size + 1) 33 z5 → K (.returned (.slice A xs.length c)) W1) :
    Calls Try.prog 57 #[.agg vs.toArray, .int .i64 i] ((w.alloc (.cells cs.toArray 33)).alloc (.cells #[.slice none 0 0, .slice none 0 0, .slice none 0 0, .slice none 0 0, .slice none 0 0] 33)) K := by
  have hk : Kept noX w ((w.alloc (.cells cs.toArray 33)).alloc (.cells #[.slice none 0 0, .slice none 0 0, .slice none 0 0, .slice none 0 0, .slice none 0 0] 33)) := ((Kept.refl _ _).alloc _).alloc _
  refine (hv _ (h.keep hk)).mono ?_
  rintro e W1 ⟨⟨A, c, rfl, -⟩, hk1⟩
  exact hK W1 A c (hk.trans hk1) (((Cells.fresh w 33 cs).alloc _).keep hk1) ((cells_second w 33 _ z5).keep hk1)
section
variable {w : World} {vs : List Value} {R : RS} (h : RV w noX vs R)
include h
set_option maxRecDepth 100000 in
set_option maxHeartbeats 1000000 in
theorem zrecv_out (m : Int) (hm : m < 0 ∨ (R.rm.length : Int) ≤ m) : Calls Try.prog 64 #[.agg vs.toArray, .int .i64 m] w fun e W' => e = .returned (.tuple #[.agg vs.toArray, .int .i64 0, .int .i64 (-1), .int .i64 4]) ∧ Kept noX w W' := by
  obtain ⟨v0, v1, v2, v3, v4, rfl, h0, h1, h2, h3, h4⟩ := h
  obtain ⟨A0, n0, c0, rfl, hn0, -⟩ := h0.form
  obtain ⟨A1, n1, c1, rfl, hn1, -⟩ := h1.form
  obtain ⟨A2, n2, c2, rfl, hn2, -⟩ := h2.form
  obtain ⟨A3, n3, c3, rfl, hn3, -⟩ := h3.form
  obtain ⟨A4, n4, c4, rfl, hn4, -⟩ := h4.form
  rw [List.length_map] at hn0 hn1 hn2 hn3 hn4
  subst hn0 hn1 hn2 hn3 hn4
  have HR := Lib.hid (show RV w noX [.slice A0 R.ow.length c0, .slice A1 R.cs.length c1, .slice A2 R.rm.length c2, .slice A3 R.st.length c3, .slice A4 R.tk.length c4] R from ⟨_, _, _, _, _, rfl, h0, h1, h2, h3, h4⟩)
  have H0 := Lib.hid h0
  have H1 := Lib.hid h1
  have H2 := Lib.hid h2
  have H3 := Lib.hid h3
  have H4 := Lib.hid h4
  clear h0 h1 h2 h3 h4
  rcases hm with hm | hm
  · have d0 : decide (m < 0) = true := by simpa using hm
    go_enter Try.func64, Try.ntmps64
    go_wp2_with fail
    refine ret_4c Try.results64 rfl (resVal.box rfl (cells_second _ _ _ _) Try.underlying33 rfl (by kernel_rfl)) (resVal.tmp rfl) (resVal.tmp rfl) (resVal.tmp rfl) ?_
    exact ⟨rfl, ((Kept.refl _ _).alloc _).alloc _⟩
  · have d0 : decide (m < 0) = false := by simp; omega
    have d1 : decide ((R.rm.length : Int) ≤ m) = true := by simpa using hm
    have hm' : ¬ m < 0 := by omega
    go_enter Try.func64, Try.ntmps64
    go_wp2_with fail
    refine ret_4c Try.results64 rfl (resVal.box rfl (cells_second _ _ _ _) Try.underlying33 rfl (by kernel_rfl)) (resVal.tmp rfl) (resVal.tmp rfl) (resVal.tmp rfl) ?_
    exact ⟨rfl, ((Kept.refl _ _).alloc _).alloc _⟩
set_option maxRecDepth 100000 in
set_option maxHeartbeats 1000000 in
theorem zrecv_nil (i : Nat) (hi : i < R.rm.length) (hst : R.st.length = R.rm.length) (htk : R.tk.length = R.rm.length) (hle : R.tk[i] ≤ R.st[i].length) (hbig : R.st.length ≤ 1000000000 ∧ R.st[i].length ≤ 1000000000) (hx : R.st[i].drop R.tk[i] = []) : Calls Try.prog 64 #[.agg vs.toArray, .int .i64 i] w fun e W' => e = .returned (.tuple #[.agg vs.toArray, .int .i64 0, .int .i64 (-1), .int .i64 0]) ∧ Kept noX w W' := by
  have HZV := Lib.hid (fun W' (hR : RV W' noX vs R) => zvalues_any hR i (by omega) (by omega) hle hbig)
  rw [hx] at HZV
  obtain ⟨v0, v1, v2, v3, v4, rfl, h0, h1, h2, h3, h4⟩ := h
  obtain ⟨A0, n0, c0, rfl, hn0, -⟩ := h0.form
  obtain ⟨A1, n1, c1, rfl, hn1, -⟩ := h1.form
  obtain ⟨A2, n2, c2, rfl, hn2, -⟩ := h2.form
  obtain ⟨A3, n3, c3, rfl, hn3, -⟩ := h3.form
  obtain ⟨A4, n4, c4, rfl, hn4, -⟩ := h4.form
  rw [List.length_map] at hn0 hn1 hn2 hn3 hn4
  subst hn0 hn1 hn2 hn3 hn4
  have HR := Lib.hid (show RV w noX [.slice A0 R.ow.length c0, .slice A1 R.cs.length c1, .slice A2 R.rm.length c2, .slice A3 R.st.length c3, .slice A4 R.tk.length c4] R from ⟨_, _, _, _, _, rfl, h0, h1, h2, h3, h4⟩)
  have H0 := Lib.hid h0
  have H1 := Lib.hid h1
  have H2 := Lib.hid h2
  have H3 := Lib.hid h3
  have H4 := Lib.hid h4
  clear h0 h1 h2 h3 h4
  have d0 : decide ((i : Int) < 0) = false := by simp
  have d1 : decide ((R.rm.length : Int) ≤ (i : Int)) = false := by simpa using hi
  have hi' : ¬ R.rm.length ≤ i := by omega
  clear hle hbig hst htk hx
  go_enter Try.func64, Try.ntmps64
  go_wp2_with fail
  refine zvalues_at HR.out HZV.out ?_
  intro W1 Av cv hk1 hX1 hA1
  have p0 := hX1.cell 0
  have a0 := hA1.cell 0
  have f0 := hA1.free 0
  have p1 := hX1.cell 1
  have a1 := hA1.cell 1
  have f1 := hA1.free 1
  have p2 := hX1.cell 2
  have a2 := hA1.cell 2
  have f2 := hA1.free 2
  have p3 := hX1.cell 3
  have a3 := hA1.cell 3
  have f3 := hA1.free 3
  have p4 := hX1.cell 4
  have a4 := hA1.cell 4
  have f4 := hA1.free 4
  simp only [z5, List.getElem?_cons_zero, List.getElem?_cons_succ] at p0 p1 p2 p3 p4 a0 a1 a2 a3 a4
  have HX1 := Lib.hid hX1
  have HA2 := Lib.hid hA1
  have HK2 := Lib.hid hk1
  clear hX1 hA1 hk1
  go_wp2_with fail
  refine ret_4c Try.results64 rfl (resVal.box rfl (((((HA2.out.put 0 _).put 1 _).put 2 _).put 3 _).put 4 _) Try.underlying33 rfl (by kernel_rfl)) (resVal.tmp rfl) (resVal.tmp rfl) (resVal.tmp rfl) ?_
  exact ⟨rfl, HK2.out.own (Kept.put5 _ _ _ _ _ _ _) (by omega)⟩
end
end Go.Proofs.Ytehcfahfbdphpaa
namespace Go.Proofs.Ytehcfahfbdphpaa
open Go.RowKit Go.Shelf

section
variable {w : World} {vs : List Value} {R : RS} (h : RV w noX vs R)
include h
set_option maxRecDepth 100000 in
set_option maxHeartbeats 8000000 in
theorem zrecv_some (hb : RB R) (i : Nat) (hi : i < R.rm.length) (hst : R.st.length = R.rm.length) (htk : R.tk.length = R.rm.length) (hle : R.tk[i] ≤ R.st[i].length) (hbig : R.st.length ≤ 1000000000 ∧ R.st[i].length ≤ 1000000000) (x : Int) (r : List Int) (hx : R.st[i].drop R.tk[i] = x :: r) :
    Calls Try.prog 64 #[.agg vs.toArray, .int .i64 i] w fun e W' => (∃ vs', e = .returned (.tuple #[.agg vs'.toArray, .int .i64 x, .int .i64 R.tk[i], .int .i64 0]) ∧ RV W' (· < w.heap.size) vs' { R with tk := R.tk.set i (R.tk[i] + 1) }) ∧ Kept noX w W' := by
  have his : i < R.st.length := by omega
  have hit : i < R.tk.length := by omega
  have HZV := Lib.hid (fun W' (hR : RV W' noX vs R) => zvalues_any hR i his hit hle hbig)
  rw [hx] at HZV
  have htl : R.tk[i] < R.st[i].length := by
    have h1 : (R.st[i].drop R.tk[i]).length = r.length + 1 := by rw [hx]; rfl
    rw [List.length_drop] at h1
    omega
  have hxv : R.st[i][R.tk[i]] = x := by
    have h1 := List.drop_eq_getElem_cons htl
    rw [hx] at h1
    injection h1 with h1 _
    exact h1.symm
  obtain ⟨v0, v1, v2, v3, v4, rfl, h0, h1, h2, h3, h4⟩ := h
  obtain ⟨A0, n0, c0, rfl, hn0, -⟩ := h0.form
  obtain ⟨A1, n1, c1, rfl, hn1, -⟩ := h1.form
  obtain ⟨A2, n2, c2, rfl, hn2, -⟩ := h2.form
  obtain ⟨A3, n3, c3, rfl, hn3, -⟩ := h3.form
  obtain ⟨A4, n4, c4, rfl, hn4, -⟩ := h4.form
  rw [List.length_map] at hn0 hn1 hn2 hn3 hn4
  subst hn0 hn1 hn2 hn3 hn4
  have HR := Lib.hid (show RV w noX [.slice A0 R.ow.length c0, .slice A1 R.cs.length c1, .slice A2 R.rm.length c2, .slice A3 R.st.length c3, .slice A4 R.tk.length c4] R from ⟨_, _, _, _, _, rfl, h0, h1, h2, h3, h4⟩)
  have H0 := Lib.hid h0
  have H1 := Lib.hid h1
  have H2 := Lib.hid h2
  have H3 := Lib.hid h3
  have H4 := Lib.hid h4
  clear h0 h1 h2 h3 h4
  have d0 : decide ((i : Int) < 0) = false := by simp
  have d1 : decide ((R.rm.length : Int) ≤ (i : Int)) = false := by simpa using hi
  have hi' : ¬ R.rm.length ≤ i := by omega
  obtain ⟨b3, o3, c9, Ar, nr, cr, hveq3, hcell3, hn3, hrow⟩ := rowL_at H3.out his
  injection hveq3 with hA3 _ hc9
  subst hA3 hc9 hn3
  obtain ⟨br, orr, c8, hveqr, hcellr, _⟩ := rowN_at hrow htl
  injection hveqr with hAr _ hc8
  subst hAr hc8
  rw [hxv] at hcellr
  obtain ⟨b4, o4, c7, hveq4, hcell4⟩ := rowD_at H4.out hit
  injection hveq4 with hA4 _ hc7
  subst hA4 hc7
  have hbig2 := hbig.2
  have HTV := Lib.hid (show R.tk[i]? = some R.tk[i] from List.getElem?_eq_getElem hit)
  clear hle hx hxv hrow
  generalize R.tk[i] = tv at *
  generalize R.st[i].length = M at *
  have htv : tv ≤ 1000000000 := by omega
  clear hbig hst htk
  have hbl3 : b3 < w.heap.size := block_lt_of_cell hcell3
  have hblr : br < w.heap.size := block_lt_of_cell hcellr
  have hbl4 : b4 < w.heap.size := block_lt_of_cell hcell4
  have mixed : Try.prog.follows .mixedOrders = true := by kernel_rfl
  go_enter Try.func64, Try.ntmps64
  go_wp2_with fail
  refine zvalues_at HR.out HZV.out ?_
  intro W1 Av cv hk1 hX1 hA1
  have dn : (((x :: r).length : Int) == 0) = false := by simp; omega
  generalize (x :: r).length = N at *
  have p0 := hX1.cell 0
  have a0 := hA1.cell 0
  have f0 := hA1.free 0
  have p1 := hX1.cell 1
  have a1 := hA1.cell 1
  have f1 := hA1.free 1
  have p2 := hX1.cell 2
  have a2 := hA1.cell 2
  have f2 := hA1.free 2
  have p3 := hX1.cell 3
  have a3 := hA1.cell 3
  have f3 := hA1.free 3
  have p4 := hX1.cell 4
  have a4 := hA1.cell 4
  have f4 := hA1.free 4
  simp only [z5, List.getElem?_cons_zero, List.getElem?_cons_succ] at p0 p1 p2 p3 p4 a0 a1 a2 a3 a4
  have HX1 := Lib.hid hX1
  have HA2 := Lib.hid hA1
  have HK2 := Lib.hid hk1
  clear hX1 hA1 hk1
  go_wp2_with fail
  refine zcopy_at3 HR.out hb HK2.out HA2.out ?_
  intro W2 T u0 u1 u2 u3 u4 l1 l3 hZ hTB hk2 hX2 hk2'
  have hS2 := HX1.out.keep hk2'
  obtain ⟨U0, e0, hf0⟩ := hZ.1.1.form
  obtain ⟨U2, e2, hf2⟩ := hZ.1.2.1.form
  obtain ⟨U4, e4, hf4⟩ := hZ.1.2.2.form
  rw [List.length_map] at hf4
  obtain ⟨U1, e1, hf1, _, _⟩ := own_formN hZ.2.1.1
  obtain ⟨U3, e3, hf3, _, _⟩ := own_formN hZ.2.2.1.1
  subst hf0 hf1 hf2 hf3 hf4
  have hB2 := Cells.fresh W2 33 [.slice U0 R.ow.length e0, .slice U1 R.cs.length e1, .slice U2 R.rm.length e2, .slice U3 R.st.length e3, .slice U4 R.tk.length e4]
  have hq4 := hZ.1.2.2
  have hown4 := hq4.1
  rw [List.length_map] at hown4
  obtain ⟨g, cap, cur, hv, _, hg, _⟩ := hown4.2.resolve_left (fun h => by omega)
  injection hv with hU0 _ hcap
  subst hU0 hcap
  obtain ⟨cur, rest, hC, hcur, hcl, hcn⟩ := own_cells hown4
  have hg1 : T g = 3 := hq4.2.1 g rfl
  have x0 := hC.cell i
  rw [hcur, List.getElem?_append_left (by simpa using hit), List.getElem?_map, List.getElem?_map, HTV.out] at x0
  have y0 : ∀ x, (W2.alloc x).cell? ⟨g, i, none⟩ = some (.int .i64 (tv : Int)) := fun x => ((Kept.refl noX W2).alloc x).cell x0
  have z0 : ∀ x, (W2.alloc x).frozen? ⟨g, i, none⟩ = false := fun x => (hC.alloc x).free i
  have hgl := hC.lt
  have hga : w.heap.size + 2 ≤ g := (hTB g (by rw [hg1]; decide)).1
  have hkc : Kept (· = g) W2 (W2.setCell ⟨g, i, none⟩ (.int .i64 ((tv : Int) + 1))) := (Kept.refl (· = g) _).setCell (p := ⟨g, i, none⟩) (fun _ => rfl) _
  have hsz : (W2.setCell ⟨g, i, none⟩ (.int .i64 ((tv : Int) + 1))).heap.size = W2.heap.size := by simp [World.setCell]
  have HB6 := Cells.fresh (W2.setCell ⟨g, i, none⟩ (.int .i64 ((tv : Int) + 1))) 33 [.slice U0 R.ow.length e0, .slice U1 R.cs.length e1, .slice U2 R.rm.length e2, .slice U3 R.st.length e3, .slice (some ⟨g, 0, none⟩) R.tk.length e4]
  rw [hsz] at HB6
  have HA6 := (hX2.kept hkc (by omega)).alloc (.cells #[.slice U0 R.ow.length e0, .slice U1 R.cs.length e1, .slice U2 R.rm.length e2, .slice U3 R.st.length e3, .slice (some ⟨g, 0, none⟩) R.tk.length e4] 33)
  have HS6 := (hS2.kept hkc (by omega)).alloc (.cells #[.slice U0 R.ow.length e0, .slice U1 R.cs.length e1, .slice U2 R.rm.length e2, .slice U3 R.st.length e3, .slice (some ⟨g, 0, none⟩) R.tk.length e4] 33)
  have he1 : ((tv + 1 : Nat) : Int) = (tv : Int) + 1 := by omega
  have hZ2 := hZ.setT (i := i) (t := tv + 1) hit
  rw [he1] at hZ2
  have HR6 := (hZ2.keep ((Kept.refl _ _).alloc (.cells #[.slice U0 R.ow.length e0, .slice U1 R.cs.length e1, .slice U2 R.rm.length e2, .slice U3 R.st.length e3, .slice (some ⟨g, 0, none⟩) R.tk.length e4] 33))).rv (Z := (· < w.heap.size + 2)) (fun k hk => Classical.byContradiction fun h2 => by have := (hTB k h2).1; have hk' : k < w.heap.size + 2 := hk; omega)
  have HK6 := (hk2.own hkc (by omega)).alloc (.cells #[.slice U0 R.ow.length e0, .slice U1 R.cs.length e1, .slice U2 R.rm.length e2, .slice U3 R.st.length e3, .slice (some ⟨g, 0, none⟩) R.tk.length e4] 33)
  have hw2 : w.heap.size + 1 < W2.heap.size := hX2.lt
  clear hZ hZ2 hTB hk2 hX2 hC hcur hB2 hkc hsz x0 hk2' hS2 hq4 hown4 hg hcl hcn he1
  go_wp2_with fail
  generalize hW6 : ((W2.setCell ⟨g, i, none⟩ (.int .i64 ((tv : Int) + 1))).alloc (.cells #[.slice U0 R.ow.length e0, .slice U1 R.cs.length e1, .slice U2 R.rm.length e2, .slice U3 R.st.length e3, .slice (some ⟨g, 0, none⟩) R.tk.length e4] 33)) = W6 at HB6 HA6 HS6 HR6 HK6 ⊢
  clear hW6
  have k0 := HB6.cell 0
  have a0 := HA6.cell 0
  have f0 := HA6.free 0
  have k1 := HB6.cell 1
  have a1 := HA6.cell 1
  have f1 := HA6.free 1
  have k2 := HB6.cell 2
  have a2 := HA6.cell 2
  have f2 := HA6.free 2
  have k3 := HB6.cell 3
  have a3 := HA6.cell 3
  have f3 := HA6.free 3
  have k4 := HB6.cell 4
  have a4 := HA6.cell 4
  have f4 := HA6.free 4
  simp only [z5, List.getElem?_cons_zero, List.getElem?_cons_succ] at k0 k1 k2 k3 k4 a0 a1 a2 a3 a4
  have HA7 := Lib.hid HA6.drew
  have HR7 := Lib.hid HR6
  have HK7 := Lib.hid HK6
  have hEx : _ ∧ _ ∧ _ ∧ _ ∧ _ := ⟨HS6.cell 3, HS6.cell 4, HK6.cell hcell3, HK6.cell hcell4, HK6.cell hcellr⟩
  have HEX : Hid (∀ W', Kept (· = w.heap.size + 1) W6 W' → W'.cell? ⟨w.heap.size, 3, none⟩ = some (.slice (some ⟨b3, o3, none⟩) R.st.length c3) ∧ W'.cell? ⟨w.heap.size, 4, none⟩ = some (.slice (some ⟨b4, o4, none⟩) R.tk.length c4) ∧ W'.cell? ⟨b3, o3 + i, none⟩ = some (.slice (some ⟨br, orr, none⟩) M cr) ∧ W'.cell? ⟨b4, o4 + i, none⟩ = some (.int .i64 (tv : Int)) ∧ W'.cell? ⟨br, orr + tv, none⟩ = some (.int .i64 x)) := Lib.hid (fun W' hk' => ⟨hk'.cell_far (HS6.cell 3) (by omega), hk'.cell_far (HS6.cell 4) (by omega), hk'.cell_far (HK6.cell hcell3) (by omega), hk'.cell_far (HK6.cell hcell4) (by omega), hk'.cell_far (HK6.cell hcellr) (by omega)⟩)
  have hHeld0 := (⟨⟨k0, k1, k2, k3, k4⟩, hEx⟩ : (_ ∧ _ ∧ _ ∧ _ ∧ _) ∧ _)
  refine wp_region_held_drew (S := (fun w' => (w'.cell? ⟨W2.heap.size, 0, none⟩ = some (.slice U0 R.ow.length e0) ∧ w'.cell? ⟨W2.heap.size, 1, none⟩ = some (.slice U1 R.cs.length e1) ∧ w'.cell? ⟨W2.heap.size, 2, none⟩ = some (.slice U2 R.rm.length e2) ∧ w'.cell? ⟨W2.heap.size, 3, none⟩ = some (.slice U3 R.st.length e3) ∧ w'.cell? ⟨W2.heap.size, 4, none⟩ = some (.slice (some ⟨g, 0, none⟩) R.tk.length e4)) ∧ (w'.cell? ⟨w.heap.size, 3, none⟩ = some (.slice (some ⟨b3, o3, none⟩) R.st.length c3) ∧ w'.cell? ⟨w.heap.size, 4, none⟩ = some (.slice (some ⟨b4, o4, none⟩) R.tk.length c4) ∧ w'.cell? ⟨b3, o3 + i, none⟩ = some (.slice (some ⟨br, orr, none⟩) M cr) ∧ w'.cell? ⟨b4, o4 + i, none⟩ = some (.int .i64 (tv : Int)) ∧ w'.cell? ⟨br, orr + tv, none⟩ = some (.int .i64 x)))) (by kernel_rfl) hHeld0 (fun hHeld => ?_)
  refine wpAnyH_take (i := 0) (v := ?_) rfl (by kernel_rfl) (by kernel_rfl) (by kernel_rfl) (fun _ _ _ h => h) (Or.inl ⟨by rfl, ?_⟩) (by assumption) ?_
  rotate_left
  · intro wS hSw
    (try dsimp only at hSw)
    go_simp
    (try with_reducible rfl)
  refine wpAnyH_take (i := 1) (v := ?_) rfl (by kernel_rfl) (by kernel_rfl) (by kernel_rfl) (fun _ _ _ h => h) (Or.inl ⟨by rfl, ?_⟩) (by assumption) ?_
  rotate_left
  · intro wS hSw
    (try dsimp only at hSw)
    go_simp
    (try with_reducible rfl)
  refine wpAnyH_take (i := 2) (v := ?_) rfl (by kernel_rfl) (by kernel_rfl) (by kernel_rfl) (fun _ _ _ h => h) (Or.inl ⟨by rfl, ?_⟩) (by assumption) ?_
  rotate_left
  · intro wS hSw
    (try dsimp only at hSw)
    go_simp
    (try with_reducible rfl)
  refine wpAnyH_take (i := 3) (v := ?_) rfl (by kernel_rfl) (by kernel_rfl) (by kernel_rfl) (fun _ _ _ h => h) (Or.inl ⟨by rfl, ?_⟩) (by assumption) ?_
  rotate_left
  · intro wS hSw
    (try dsimp only at hSw)
    go_simp
    (try with_reducible rfl)
  (try simp only [Act.put, List.getElem_toArray, List.getElem_cons_succ, List.getElem_cons_zero, List.setIfInBounds_toArray, List.set_cons_zero, List.set_cons_succ])
  refine wpAnyH_take (i := 4) (v := ?_) rfl (by kernel_rfl) (by kernel_rfl) (by kernel_rfl) (fun _ _ _ h => h) (Or.inl ⟨by rfl, ?_⟩) (by assumption) ?_
  rotate_left
  · intro wS hSw
    (try dsimp only at hSw)
    go_simp
    (try with_reducible rfl)
  refine wpAnyH_take (i := 5) (v := ?_) rfl (by kernel_rfl) (by kernel_rfl) (by kernel_rfl) (fun _ _ _ h => h) (Or.inl ⟨by rfl, ?_⟩) (by assumption) ?_
  rotate_left
  · intro wS hSw
    (try dsimp only at hSw)
    go_simp
    (try with_reducible rfl)
  refine wpAnyH_take (i := 6) (v := ?_) rfl (by kernel_rfl) (by kernel_rfl) (by kernel_rfl) (fun _ _ _ h => h) (Or.inl ⟨by rfl, ?_⟩) (by assumption) ?_
  rotate_left
  · intro wS hSw
    (try dsimp only at hSw)
    go_simp
    (try with_reducible rfl)
  refine wpAnyH_take (i := 7) (v := ?_) rfl (by kernel_rfl) (by kernel_rfl) (by kernel_rfl) (fun _ _ _ h => h) (Or.inl ⟨by rfl, ?_⟩) (by assumption) ?_
  rotate_left
  · intro wS hSw
    (try dsimp only at hSw)
    go_simp
    (try with_reducible rfl)
  (try simp only [Act.put, List.getElem_toArray, List.getElem_cons_succ, List.getElem_cons_zero, List.setIfInBounds_toArray, List.set_cons_zero, List.set_cons_succ])
  refine wpAnyH_take (i := 8) (v := ?_) rfl (by kernel_rfl) (by kernel_rfl) (by kernel_rfl) (fun _ _ _ h => h) (Or.inl ⟨by rfl, ?_⟩) (by assumption) ?_
  rotate_left
  · intro wS hSw
    (try dsimp only at hSw)
    go_simp
    (try with_reducible rfl)
  refine wpAnyH_take (i := 9) (v := ?_) rfl (by kernel_rfl) (by kernel_rfl) (by kernel_rfl) (fun _ _ _ h => h) (Or.inl ⟨by rfl, ?_⟩) (by assumption) ?_
  rotate_left
  · intro wS hSw
    (try dsimp only at hSw)
    go_simp
    (try with_reducible rfl)
  refine wpAnyH_take (i := 10) (v := ?_) rfl (by kernel_rfl) (by kernel_rfl) (by kernel_rfl) (fun _ _ _ h => h) (Or.inl ⟨by rfl, ?_⟩) (by assumption) ?_
  rotate_left
  · intro wS hSw
    (try dsimp only at hSw)
    go_simp
    (try with_reducible rfl)
  refine wpAnyH_take (i := 13) (v := ?_) rfl (by kernel_rfl) (by kernel_rfl) (by kernel_rfl) (fun _ _ _ h => h) (Or.inl ⟨by rfl, ?_⟩) (by assumption) ?_
  rotate_left
  · intro wS hSw
    (try dsimp only at hSw)
    go_simp
    (try with_reducible rfl)
  (try simp only [Act.put, List.getElem_toArray, List.getElem_cons_succ, List.getElem_cons_zero, List.setIfInBounds_toArray, List.set_cons_zero, List.set_cons_succ])
  refine wpAnyH_take (i := 11) (v := ?_) rfl (by kernel_rfl) (by kernel_rfl) (by kernel_rfl) (fun _ _ _ h => h) (Or.inl ⟨by rfl, ?_⟩) (by assumption) ?_
  rotate_left
  · intro wS hSw
    (try dsimp only at hSw)
    go_simp
    (try with_reducible rfl)
  refine wpAnyH_take (i := 12) (v := ?_) rfl (by kernel_rfl) (by kernel_rfl) (by kernel_rfl) (fun _ _ _ h => h) (Or.inl ⟨by rfl, ?_⟩) (by assumption) ?_
  rotate_left
  · intro wS hSw
    (try dsimp only at hSw)
    go_simp
    (try with_reducible rfl)
  refine wpAnyH_take (i := 14) (v := ?_) rfl (by kernel_rfl) (by kernel_rfl) (by kernel_rfl) (fun _ _ _ h => h) (Or.inl ⟨by rfl, ?_⟩) (by assumption) ?_
  rotate_left
  · intro wS hSw
    (try dsimp only at hSw)
    go_simp
    (try with_reducible rfl)
  (try simp only [Act.put, List.getElem_toArray, List.getElem_cons_succ, List.getElem_cons_zero, List.setIfInBounds_toArray, List.set_cons_zero, List.set_cons_succ])
  refine wpAnyH_take (i := 15) (v := ?_) rfl (by kernel_rfl) (by kernel_rfl) (by kernel_rfl) (fun _ _ _ h => h) (Or.inl ⟨by rfl, ?_⟩) (by assumption) ?_
  rotate_left
  · intro wS hSw
    (try dsimp only at hSw)
    go_simp
    (try with_reducible rfl)
  refine wpAnyH_take (i := 16) (v := ?_) rfl (by kernel_rfl) (by kernel_rfl) (by kernel_rfl) (fun _ _ _ h => h) (Or.inl ⟨by rfl, ?_⟩) (by assumption) ?_
  rotate_left
  · intro wS hSw
    (try dsimp only at hSw)
    go_simp
    (try with_reducible rfl)
  refine wpAnyH_take (i := 17) (v := ?_) rfl (by kernel_rfl) (by kernel_rfl) (by kernel_rfl) (fun _ _ _ h => h) (Or.inl ⟨by rfl, ?_⟩) (by assumption) ?_
  rotate_left
  · intro wS hSw
    (try dsimp only at hSw)
    go_simp
    (try with_reducible rfl)
  (try simp only [Act.put, List.getElem_toArray, List.getElem_cons_succ, List.getElem_cons_zero, List.setIfInBounds_toArray, List.set_cons_zero, List.set_cons_succ])
  refine wpAnyH_ready (rs := [18]) (by kernel_rfl) (by simp) ?_
  refine (AllReadyH.cons rfl (fun K hK => ?_) AllReadyH.nil)
  go_simp
  have hkp : Kept (· = w.heap.size + 1) W6 (((((W6.setCell ⟨w.heap.size + 1, 0, none⟩ (.slice U0 R.ow.length e0)).setCell ⟨w.heap.size + 1, 1, none⟩ (.slice U1 R.cs.length e1)).setCell ⟨w.heap.size + 1, 2, none⟩ (.slice U2 R.rm.length e2)).setCell ⟨w.heap.size + 1, 3, none⟩ (.slice U3 R.st.length e3)).setCell ⟨w.heap.size + 1, 4, none⟩ (.slice (some ⟨g, 0, none⟩) R.tk.length e4)).drew := (Kept.put5 _ _ _ _ _ _ _).drew
  have hfar : ¬ W2.heap.size = w.heap.size + 1 := by omega
  have hHeld5 := (⟨⟨hkp.cell_far k0 hfar, hkp.cell_far k1 hfar, hkp.cell_far k2 hfar, hkp.cell_far k3 hfar, hkp.cell_far k4 hfar⟩, HEX.out _ hkp⟩ : (_ ∧ _ ∧ _ ∧ _ ∧ _) ∧ _)
  refine hK.out _ _ hHeld5 (fun hHeld => ?_)
  clear hK K
  (try simp only [Act.put, List.getElem_toArray, List.getElem_cons_succ, List.getElem_cons_zero, List.setIfInBounds_toArray, List.set_cons_zero, List.set_cons_succ])
  refine wpAnyH_ready (rs := [19]) (by kernel_rfl) (by simp) ?_
  refine (AllReadyH.cons rfl (fun K hK => ?_) AllReadyH.nil)
  go_simp
  refine hK.out _ _ hHeld (fun hHeld => ?_)
  clear hK K
  (try simp only [Act.put, List.getElem_toArray, List.getElem_cons_succ, List.getElem_cons_zero, List.setIfInBounds_toArray, List.set_cons_zero, List.set_cons_succ])
  refine wpAnyH_ready (rs := [20]) (by kernel_rfl) (by simp) ?_
  refine (AllReadyH.cons rfl (fun K hK => ?_) AllReadyH.nil)
  go_simp
  refine hK.out _ _ hHeld (fun hHeld => ?_)
  clear hK K
  (try simp only [Act.put, List.getElem_toArray, List.getElem_cons_succ, List.getElem_cons_zero, List.setIfInBounds_toArray, List.set_cons_zero, List.set_cons_succ])
  refine wpAnyH_ready (rs := [21]) (by kernel_rfl) (by simp) ?_
  refine (AllReadyH.cons rfl (fun K hK => ?_) AllReadyH.nil)
  go_simp
  refine hK.out _ _ hHeld (fun hHeld => ?_)
  clear hK K
  (try simp only [Act.put, List.getElem_toArray, List.getElem_cons_succ, List.getElem_cons_zero, List.setIfInBounds_toArray, List.set_cons_zero, List.set_cons_succ])
  refine wpAnyH_done (by kernel_rfl) ?_ _
  go_wp2_with fail
  refine ret_4c Try.results64 rfl (resVal.box rfl (((((HA7.out.put 0 _).put 1 _).put 2 _).put 3 _).put 4 _) Try.underlying33 rfl (by kernel_rfl)) (resVal.tmp rfl) (resVal.tmp rfl) (resVal.tmp rfl) ?_
  exact ⟨⟨_, rfl, ((HR7.out.kept hkp (fun k _ h => (show k < w.heap.size + 2 by omega))).mono (fun k _ h => Nat.lt_of_lt_of_le (show k < w.heap.size from h) (by omega)))⟩, HK7.out.own hkp (by omega)⟩
end
end Go.Proofs.Ytehcfahfbdphpaa
