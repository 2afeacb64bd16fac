/- Layer 4: the document's Recv (conditions: its lists are of at most 10^9). -/
import Derived.Test.YtehcfahfbdphpaaSy51
namespace Go.Proofs.Ytehcfahfbdphpaa
open Go.RowKit Go.Shelf

theorem ret_4c {P : Program} {fn : Func} {a : Act} {W : World} {Q : Ending → World → Prop} {r0 r1 r2 r3 : ResultVar} (h : fn.results = #[r0, r1, r2, r3]) {v0 v1 v2 v3 : Value} (hf : a.defers = [])
    (h0 : resVal P W a.tmps r0 v0) (h1 : resVal P W a.tmps r1 v1) (h2 : resVal P W a.tmps r2 v2) (h3 : resVal P W a.tmps r3 v3) (hR : Q (.returned (.tuple #[v0, v1, v2, v3])) W) : bodyPost P fn Q .ret a W :=
  ret_multi [r0, r1, r2, r3] [v0, v1, v2, v3] h (by simp) rfl hf (fun i hi => by
    match i, hi with
    | 0, _ => exact h0
    | 1, _ => exact h1
    | 2, _ => exact h2
    | 3, _ => exact h3) hR
theorem zvalues_at {w : World} {cs vs : List Value} {R : RS} {K : Ending → World → Prop} {i : Nat} {xs : List Int} (h : RV w noX vs R) (hv : ∀ W', RV W' noX vs R → Calls Try.prog 57 #[.agg vs.toArray, .int .i64 i] W' fun e W'' => (∃ A c, e = .returned (.slice A xs.length c) ∧ RowV W'' noX (.slice A xs.length c) (dI xs)) ∧ Kept noX W' W'')
    (hK : ∀ W1 A c, Kept noX w W1 → Cells W1 w.heap.size 33 cs → Cells W1 (w.heap.size + 1) 33 z5 → K (.returned (.slice A xs.length c)) W1) :
    Calls Try.prog 57 #[.agg vs.toArray, .int .i64 i] ((w.alloc (.cells cs.toArray 33)).alloc (.cells #[.slice none 0 0, .slice none 0 0, .slice none 0 0, .slice none 0 0, .slice none 0 0] 33)) K := by
  have hk : Kept noX w ((w.alloc (.cells cs.toArray 33)).alloc (.cells #[.slice none 0 0, .slice none 0 0, .slice none 0 0, .slice none 0 0, .slice none 0 0] 33)) := ((Kept.refl _ _).alloc _).alloc _
  refine (hv _ (h.keep hk)).mono ?_
  rintro e W1 ⟨⟨A, c, rfl, -⟩, hk1⟩
  exact hK W1 A c (hk.trans hk1) (((Cells.fresh w 33 cs).alloc _).keep hk1) ((cells_second w 33 _ z5).keep hk1)
section
variable {w : World} {vs : List Value} {R : RS} (h : RV w noX vs R)
include h
set_option maxRecDepth 100000 in
set_option maxHeartbeats 1000000 in
theorem zrecv_out (m : Int) (hm : m < 0 ∨ (R.rm.length : Int) ≤ m) : Calls Try.prog 64 #[.agg vs.toArray, .int .i64 m] w fun e W' => e = .returned (.tuple #[.agg vs.toArray, .int .i64 0, .int .i64 (-1), .int .i64 4]) ∧ Kept noX w W' := by
  obtain ⟨v0, v1, v2, v3, v4, rfl, h0, h1, h2, h3, h4⟩ := h
  obtain ⟨A0, n0, c0, rfl, hn0, -⟩ := h0.form
  obtain ⟨A1, n1, c1, rfl, hn1, -⟩ := h1.form
  obtain ⟨A2, n2, c2, rfl, hn2, -⟩ := h2.form
  obtain ⟨A3, n3, c3, rfl, hn3, -⟩ := h3.form
  obtain ⟨A4, n4, c4, rfl, hn4, -⟩ := h4.form
  rw [List.length_map] at hn0 hn1 hn2 hn3 hn4
  subst hn0 hn1 hn2 hn3 hn4
  have HR := Lib.hid (show RV w noX [.slice A0 R.ow.length c0, .slice A1 R.cs.length c1, .slice A2 R.rm.length c2, .slice A3 R.st.length c3, .slice A4 R.tk.length c4] R from ⟨_, _, _, _, _, rfl, h0, h1, h2, h3, h4⟩)
  have H0 := Lib.hid h0
  have H1 := Lib.hid h1
  have H2 := Lib.hid h2
  have H3 := Lib.hid h3
  have H4 := Lib.hid h4
  clear h0 h1 h2 h3 h4
  rcases hm with hm | hm
  · have d0 : decide (m < 0) = true := by simpa using hm
    go_enter Try.func64, Try.ntmps64
    go_wp2_with fail
    refine ret_4c Try.results64 rfl (resVal.box rfl (cells_second _ _ _ _) Try.underlying33 rfl (by kernel_rfl)) (resVal.tmp rfl) (resVal.tmp rfl) (resVal.tmp rfl) ?_
    exact ⟨rfl, ((Kept.refl _ _).alloc _).alloc _⟩
  · have d0 : decide (m < 0) = false := by simp; omega
    have d1 : decide ((R.rm.length : Int) ≤ m) = true := by simpa using hm
    have hm' : ¬ m < 0 := by omega
    go_enter Try.func64, Try.ntmps64
    go_wp2_with fail
    refine ret_4c Try.results64 rfl (resVal.box rfl (cells_second _ _ _ _) Try.underlying33 rfl (by kernel_rfl)) (resVal.tmp rfl) (resVal.tmp rfl) (resVal.tmp rfl) ?_
    exact ⟨rfl, ((Kept.refl _ _).alloc _).alloc _⟩
set_option maxRecDepth 100000 in
set_option maxHeartbeats 1000000 in
theorem zrecv_nil (i : Nat) (hi : i < R.rm.length) (hst : R.st.length = R.rm.length) (htk : R.tk.length = R.rm.length) (hle : R.tk[i] ≤ R.st[i].length) (hbig : R.st.length ≤ 1000000000 ∧ R.st[i].length ≤ 1000000000) (hx : R.st[i].drop R.tk[i] = []) : Calls Try.prog 64 #[.agg vs.toArray, .int .i64 i] w fun e W' => e = .returned (.tuple #[.agg vs.toArray, .int .i64 0, .int .i64 (-1), .int .i64 0]) ∧ Kept noX w W' := by
  have HZV := Lib.hid (fun W' (hR : RV W' noX vs R) => zvalues_any hR i (by omega) (by omega) hle hbig)
  rw [hx] at HZV
  obtain ⟨v0, v1, v2, v3, v4, rfl, h0, h1, h2, h3, h4⟩ := h
  obtain ⟨A0, n0, c0, rfl, hn0, -⟩ := h0.form
  obtain ⟨A1, n1, c1, rfl, hn1, -⟩ := h1.form
  obtain ⟨A2, n2, c2, rfl, hn2, -⟩ := h2.form
  obtain ⟨A3, n3, c3, rfl, hn3, -⟩ := h3.form
  obtain ⟨A4, n4, c4, rfl, hn4, -⟩ := h4.form
  rw [List.length_map] at hn0 hn1 hn2 hn3 hn4
  subst hn0 hn1 hn2 hn3 hn4
  have HR := Lib.hid (show RV w noX [.slice A0 R.ow.length c0, .slice A1 R.cs.length c1, .slice A2 R.rm.length c2, .slice A3 R.st.length c3, .slice A4 R.tk.length c4] R from ⟨_, _, _, _, _, rfl, h0, h1, h2, h3, h4⟩)
  have H0 := Lib.hid h0
  have H1 := Lib.hid h1
  have H2 := Lib.hid h2
  have H3 := Lib.hid h3
  have H4 := Lib.hid h4
  clear h0 h1 h2 h3 h4
  have d0 : decide ((i : Int) < 0) = false := by simp
  have d1 : decide ((R.rm.length : Int) ≤ (i : Int)) = false := by simpa using hi
  have hi' : ¬ R.rm.length ≤ i := by omega
  clear hle hbig hst htk hx
  go_enter Try.func64, Try.ntmps64
  go_wp2_with fail
  refine zvalues_at HR.out HZV.out ?_
  intro W1 Av cv hk1 hX1 hA1
  have p0 := hX1.cell 0
  have a0 := hA1.cell 0
  have f0 := hA1.free 0
  have p1 := hX1.cell 1
  have a1 := hA1.cell 1
  have f1 := hA1.free 1
  have p2 := hX1.cell 2
  have a2 := hA1.cell 2
  have f2 := hA1.free 2
  have p3 := hX1.cell 3
  have a3 := hA1.cell 3
  have f3 := hA1.free 3
  have p4 := hX1.cell 4
  have a4 := hA1.cell 4
  have f4 := hA1.free 4
  simp only [z5, List.getElem?_cons_zero, List.getElem?_cons_succ] at p0 p1 p2 p3 p4 a0 a1 a2 a3 a4
  have HX1 := Lib.hid hX1
  have HA2 := Lib.hid hA1
  have HK2 := Lib.hid hk1
  clear hX1 hA1 hk1
  go_wp2_with fail
  refine ret_4c Try.results64 rfl (resVal.box rfl (((((HA2.out.put 0 _).put 1 _).put 2 _).put 3 _).put 4 _) Try.underlying33 rfl (by kernel_rfl)) (resVal.tmp rfl) (resVal.tmp rfl) (resVal.tmp rfl) ?_
  exact ⟨rfl, HK2.out.own (Kept.put5 _ _ _ _ _ _ _) (by omega)⟩
end
end Go.Proofs.Ytehcfahfbdphpaa
