/- Layer 4: the document's Lock and Unlock (conditions: its lists are of at most 10^9). -/
import Derived.Test.YtehcfahfbdphpaaSy37
namespace Go.Proofs.Ytehcfahfbdphpaa
open Go.RowKit Go.Shelf

theorem own_set {W : World} {t : TypeId} {g c n i : Nat} {xs : List Value} (h : W.ownsRow 0 t 1 (.slice (some ⟨g, 0, none⟩) n c) n xs) (hi : i < n) (u : Value) : (W.setCell ⟨g, i, none⟩ u).ownsRow 0 t 1 (.slice (some ⟨g, 0, none⟩) n c) n (xs.set i u) := by
  obtain ⟨cur, rest, hC, rfl, hl, hn⟩ := own_cells h
  obtain ⟨A, c', hv, _, hm⟩ := own_formN h
  injection hv with _ _ hc
  subst hc
  have hx : xs.length = n := by have := h.1; omega
  refine cells_own (cur := (xs ++ rest).set i u) (hC.put i u) (by simpa using hl) (by simpa using hx) hn (by unfold maxLen; omega) ?_
  rw [List.set_append_left _ _ (by omega), List.take_append_of_le_length (by simp; omega), List.take_of_length_le (by simp; omega)]
theorem cells_second (w : World) (t : TypeId) (o : Obj) (cs : List Value) : Cells ((w.alloc o).alloc (.cells cs.toArray t)) (w.heap.size + 1) t cs := by
  have h := Cells.fresh (w.alloc o) t cs
  rwa [World.size_alloc] at h
section
variable {W W' : World} {T T' : Nat → Nat} {v0 v1 v2 v3 v4 : Value} {l1 l3 : List Value} {R : RS} {Z : Nat → Prop}
theorem QAt.set {tag : Nat} {t : TypeId} {g c : Nat} {xs : List Int} {i : Nat} {u : Int} (h : QAt W T tag t (.slice (some ⟨g, 0, none⟩) xs.length c) xs) (hi : i < xs.length) : QAt (W.setCell ⟨g, i, none⟩ (.int .i64 u)) T tag t (.slice (some ⟨g, 0, none⟩) xs.length c) (xs.set i u) := by
  refine ⟨?_, h.2.1, by rw [List.length_set]; exact h.2.2⟩
  have := own_set h.1 hi (.int .i64 u)
  rw [List.length_set, List.map_set]
  exact this
/-- A row of rows, each of which stands. -/
theorem own_rows {t : TypeId} {v : Value} {ls : List Value} {xss : List (List Int)} (h : W.ownsRow 0 t 1 v xss.length ls) (hz : ∀ g, v.ownBlock = some g → ¬ Z g) (hd : ∀ i (hi : i < xss.length), ∃ u, ls[i]? = some u ∧ RowV W Z u (dI xss[i])) : RowV W Z v (dL xss) := by
  refine RowV.own (t := t) (size := 1) (xs := ls) (by simpa [dL] using h) (by decide) hz (fun i hi => ?_)
  have hi' : i < xss.length := by simpa [dL] using hi
  obtain ⟨u, h1, h2⟩ := hd i hi'
  have e : (ls.drop (i * 1)).take 1 = [u] := by
    rw [Nat.mul_one]
    obtain ⟨hl, rfl⟩ := List.getElem?_eq_some_iff.1 h1
    rw [List.drop_eq_getElem_cons hl]
    rfl
  rw [e]
  have e3 : (dL xss)[i]'hi = D.row (dI xss[i]) := by simp [dL]
  rw [e3]
  exact h2
theorem ZP.rv (h : ZP W T v0 v1 v2 v3 v4 l1 l3 R) (hz : ∀ g, Z g → T g = 0) : RV W Z [v0, v1, v2, v3, v4] R := by
  obtain ⟨⟨a, b, c⟩, ⟨d, e⟩, ⟨f, g⟩, i, j⟩ := h
  have hn : ∀ tag, tag ≠ 0 → ∀ g, T g = tag → ¬ Z g := fun tag h0 g ht hZ => h0 (ht.symm.trans (hz g hZ))
  refine ⟨_, _, _, _, _, rfl, own_row a.1 (fun q hq => hn 1 (by decide) q (a.2.1 q hq)), own_rows d (fun q hq => hn 4 (by decide) q (e q hq)) (fun k hk => ?_), own_row b.1 (fun q hq => hn 2 (by decide) q (b.2.1 q hq)), own_rows f (fun q hq => hn 5 (by decide) q (g q hq)) (fun k hk => ?_), ?_⟩
  · obtain ⟨u, h1, h2⟩ := i k hk
    exact ⟨u, h1, own_row h2.1 (fun q hq => hn _ (by omega) q (h2.2.1 q hq))⟩
  · obtain ⟨u, h1, h2⟩ := j k hk
    exact ⟨u, h1, own_row h2.1 (fun q hq => hn _ (by omega) q (h2.2.1 q hq))⟩
  · have := own_row c.1 (fun q hq => hn 3 (by decide) q (c.2.1 q hq))
    simpa [dN, List.map_map, Function.comp_def] using this
theorem ZP.setO {g c i : Nat} {t : Int} (h : ZP W T (.slice (some ⟨g, 0, none⟩) R.ow.length c) v1 v2 v3 v4 l1 l3 R) (hi : i < R.ow.length) : ZP (W.setCell ⟨g, i, none⟩ (.int .i64 t)) T (.slice (some ⟨g, 0, none⟩) R.ow.length c) v1 v2 v3 v4 l1 l3 { R with ow := R.ow.set i t } := by
  obtain ⟨⟨a, b, c⟩, ⟨d, e⟩, ⟨f, q⟩, i', j⟩ := h
  have hg : T g = 1 := a.2.1 g rfl
  have hk : Kept (· = g) W (W.setCell ⟨g, i, none⟩ (.int .i64 t)) := (Kept.refl (· = g) _).setCell (p := ⟨g, i, none⟩) (fun _ => rfl) _
  have hn : ∀ tag, tag ≠ 1 → ∀ k, k < W.heap.size → T k = tag → ¬ k = g := fun tag h0 k _ ht e => h0 (by rw [← ht, e, hg])
  refine ⟨⟨a.set hi, b.kept hk (hn 2 (by decide)) (fun _ _ => rfl), c.kept hk (hn 3 (by decide)) (fun _ _ => rfl)⟩, ⟨own_kept d hk (fun k hk' => hn 4 (by decide) k (own_lt d hk') (e k hk')), e⟩, ⟨own_kept f hk (fun k hk' => hn 5 (by decide) k (own_lt f hk') (q k hk')), q⟩, fun k hk' => ?_, fun k hk' => ?_⟩
  · obtain ⟨u, h1, h2⟩ := i' k hk'
    exact ⟨u, h1, h2.kept hk (hn _ (by omega)) (fun _ _ => rfl)⟩
  · obtain ⟨u, h1, h2⟩ := j k hk'
    exact ⟨u, h1, h2.kept hk (hn _ (by omega)) (fun _ _ => rfl)⟩
end
set_option maxRecDepth 100000 in
set_option maxHeartbeats 1000000 in
theorem zthread_any (t : Int) (w : World) : Calls Try.prog 86 #[.int .i64 t] w fun e w' => e = .returned (.bool (inI 0 7 t)) ∧ w = w' := by
  go_enter Try.func86, Try.ntmps86
  by_cases h0 : 0 ≤ t
  · by_cases h1 : t < 8
    · have d0 : decide ((0 : Int) ≤ t) = true := by simpa using h0
      have d1 : decide (t < 8) = true := by simpa using h1
      go_wp2
      go_ret
      exact ⟨by simp [inI]; omega, rfl⟩
    · have d0 : decide ((0 : Int) ≤ t) = true := by simpa using h0
      have d1 : decide (t < 8) = false := by simpa using h1
      go_wp2
      go_ret
      exact ⟨by simp [inI]; omega, rfl⟩
  · have d0 : decide ((0 : Int) ≤ t) = false := by simpa using h0
    go_wp2
    go_ret
    exact ⟨by simp [inI]; omega, rfl⟩
theorem zcopy_at {w : World} {o : Obj} {vs : List Value} {R : RS} {K : Ending → World → Prop} (h : RV w noX vs R) (hb : RB R)
    (hK : ∀ W2 T u0 u1 u2 u3 u4 l1 l3, ZP W2 T u0 u1 u2 u3 u4 l1 l3 R → TBd W2 T (w.heap.size + 2) → Kept noX w W2 → Cells W2 (w.heap.size + 1) 33 z5 → K (.returned (.agg #[u0, u1, u2, u3, u4])) W2) :
    Calls Try.prog 87 #[.agg vs.toArray] ((w.alloc o).alloc (.cells #[.slice none 0 0, .slice none 0 0, .slice none 0 0, .slice none 0 0, .slice none 0 0] 33)) K := by
  have hk : Kept noX w ((w.alloc o).alloc (.cells #[.slice none 0 0, .slice none 0 0, .slice none 0 0, .slice none 0 0, .slice none 0 0] 33)) := ((Kept.refl _ _).alloc _).alloc _
  refine (zcopy_any (h.keep hk) hb).mono ?_
  rintro e W2 ⟨T, u0, u1, u2, u3, u4, l1, l3, rfl, hZ, hT, hk2⟩
  refine hK W2 T u0 u1 u2 u3 u4 l1 l3 hZ ?_ (hk.trans hk2) ((cells_second w 33 o z5).keep hk2)
  rw [World.size_alloc, World.size_alloc] at hT
  exact hT
theorem Kept.put5 (W : World) (g : Nat) (x0 x1 x2 x3 x4 : Value) : Kept (· = g) W (((((W.setCell ⟨g, 0, none⟩ x0).setCell ⟨g, 1, none⟩ x1).setCell ⟨g, 2, none⟩ x2).setCell ⟨g, 3, none⟩ x3).setCell ⟨g, 4, none⟩ x4) :=
  (((((Kept.refl (· = g) W).setCell (p := ⟨g, 0, none⟩) (fun _ => rfl) _).setCell (p := ⟨g, 1, none⟩) (fun _ => rfl) _).setCell (p := ⟨g, 2, none⟩) (fun _ => rfl) _).setCell (p := ⟨g, 3, none⟩) (fun _ => rfl) _).setCell (p := ⟨g, 4, none⟩) (fun _ => rfl) _
theorem ztold {w W2 W3 W4 : World} {T : Nat → Nat} {u0 u1 u2 u3 u4 : Value} {l1 l3 : List Value} {R : RS} (hZ : ZP W3 T u0 u1 u2 u3 u4 l1 l3 R) (hT : TBd W2 T (w.heap.size + 2)) (hK : Kept noX w W3) (hka : Kept (· = w.heap.size + 1) W3 W4) :
    RV W4 (· < w.heap.size) [u0, u1, u2, u3, u4] R ∧ Kept noX w W4 :=
  ⟨(hZ.kept hka (fun k _ h => Classical.byContradiction fun h2 => by have := (hT k h2).1; omega) (fun _ _ => rfl)).rv (fun k hk => Classical.byContradiction fun h2 => by have := (hT k h2).1; omega), hK.own hka (by omega)⟩
section
variable {w : World} {vs : List Value} {R : RS} (h : RV w noX vs R) {t : Int}
include h
set_option maxRecDepth 100000 in
set_option maxHeartbeats 1000000 in
theorem zlock_out (m : Int) (hm : m < 0 ∨ (R.ow.length : Int) ≤ m) : Calls Try.prog 58 #[.agg vs.toArray, .int .i64 m, .int .i64 t] w fun e W' => e = .returned (.tuple #[.agg vs.toArray, .bool false, .int .i64 4]) ∧ Kept noX w W' := by
  obtain ⟨v0, v1, v2, v3, v4, rfl, h0, h1, h2, h3, h4⟩ := h
  obtain ⟨A0, n0, c0, rfl, hn0, -⟩ := h0.form
  obtain ⟨A1, n1, c1, rfl, hn1, -⟩ := h1.form
  obtain ⟨A2, n2, c2, rfl, hn2, -⟩ := h2.form
  obtain ⟨A3, n3, c3, rfl, hn3, -⟩ := h3.form
  obtain ⟨A4, n4, c4, rfl, hn4, -⟩ := h4.form
  rw [List.length_map] at hn0 hn1 hn2 hn3 hn4
  subst hn0 hn1 hn2 hn3 hn4
  have HR := Lib.hid (show RV w noX [.slice A0 R.ow.length c0, .slice A1 R.cs.length c1, .slice A2 R.rm.length c2, .slice A3 R.st.length c3, .slice A4 R.tk.length c4] R from ⟨_, _, _, _, _, rfl, h0, h1, h2, h3, h4⟩)
  have H0 := Lib.hid h0
  have H1 := Lib.hid h1
  have H2 := Lib.hid h2
  have H3 := Lib.hid h3
  have H4 := Lib.hid h4
  clear h0 h1 h2 h3 h4
  rcases hm with hm | hm
  · have d0 : decide (m < 0) = true := by simpa using hm
    go_enter Try.func58, Try.ntmps58
    go_wp2_with fail
    refine ret_3 Try.results58 rfl (resVal.box rfl (cells_second _ _ _ _) Try.underlying33 rfl (by kernel_rfl)) (resVal.tmp rfl) (resVal.tmp rfl) ?_
    exact ⟨rfl, ((Kept.refl _ _).alloc _).alloc _⟩
  · have d0 : decide (m < 0) = false := by simp; omega
    have d1 : decide ((R.ow.length : Int) ≤ m) = true := by simpa using hm
    have hm' : ¬ m < 0 := by omega
    go_enter Try.func58, Try.ntmps58
    go_wp2_with fail
    refine ret_3 Try.results58 rfl (resVal.box rfl (cells_second _ _ _ _) Try.underlying33 rfl (by kernel_rfl)) (resVal.tmp rfl) (resVal.tmp rfl) ?_
    exact ⟨rfl, ((Kept.refl _ _).alloc _).alloc _⟩
set_option maxRecDepth 100000 in
set_option maxHeartbeats 1000000 in
theorem zlock_bad (i : Nat) (hi : i < R.ow.length) (ht : inI 0 7 t = false) : Calls Try.prog 58 #[.agg vs.toArray, .int .i64 i, .int .i64 t] w fun e W' => e = .returned (.tuple #[.agg vs.toArray, .bool false, .int .i64 2]) ∧ Kept noX w W' := by
  obtain ⟨v0, v1, v2, v3, v4, rfl, h0, h1, h2, h3, h4⟩ := h
  obtain ⟨A0, n0, c0, rfl, hn0, -⟩ := h0.form
  obtain ⟨A1, n1, c1, rfl, hn1, -⟩ := h1.form
  obtain ⟨A2, n2, c2, rfl, hn2, -⟩ := h2.form
  obtain ⟨A3, n3, c3, rfl, hn3, -⟩ := h3.form
  obtain ⟨A4, n4, c4, rfl, hn4, -⟩ := h4.form
  rw [List.length_map] at hn0 hn1 hn2 hn3 hn4
  subst hn0 hn1 hn2 hn3 hn4
  have HR := Lib.hid (show RV w noX [.slice A0 R.ow.length c0, .slice A1 R.cs.length c1, .slice A2 R.rm.length c2, .slice A3 R.st.length c3, .slice A4 R.tk.length c4] R from ⟨_, _, _, _, _, rfl, h0, h1, h2, h3, h4⟩)
  have H0 := Lib.hid h0
  have H1 := Lib.hid h1
  have H2 := Lib.hid h2
  have H3 := Lib.hid h3
  have H4 := Lib.hid h4
  clear h0 h1 h2 h3 h4
  have d0 : decide ((i : Int) < 0) = false := by simp
  have d1 : decide ((R.ow.length : Int) ≤ (i : Int)) = false := by simpa using hi
  have hi' : ¬ R.ow.length ≤ i := by omega
  go_enter Try.func58, Try.ntmps58
  go_wp2_with (go_at_call 86; refine (zthread_any t _).mono ?_; rintro e Wt ⟨rfl, rfl⟩; rw [ht])
  refine ret_3 Try.results58 rfl (resVal.box rfl (cells_second _ _ _ _) Try.underlying33 rfl (by kernel_rfl)) (resVal.tmp rfl) (resVal.tmp rfl) ?_
  exact ⟨rfl, ((Kept.refl _ _).alloc _).alloc _⟩
set_option maxRecDepth 100000 in
set_option maxHeartbeats 1000000 in
theorem zlock_own (i : Nat) (hi : i < R.ow.length) (ht : inI 0 7 t = true) (hn : 0 ≤ R.ow[i]) : Calls Try.prog 58 #[.agg vs.toArray, .int .i64 i, .int .i64 t] w fun e W' => e = .returned (.tuple #[.agg vs.toArray, .bool false, .int .i64 0]) ∧ Kept noX w W' := by
  obtain ⟨v0, v1, v2, v3, v4, rfl, h0, h1, h2, h3, h4⟩ := h
  obtain ⟨A0, n0, c0, rfl, hn0, -⟩ := h0.form
  obtain ⟨A1, n1, c1, rfl, hn1, -⟩ := h1.form
  obtain ⟨A2, n2, c2, rfl, hn2, -⟩ := h2.form
  obtain ⟨A3, n3, c3, rfl, hn3, -⟩ := h3.form
  obtain ⟨A4, n4, c4, rfl, hn4, -⟩ := h4.form
  rw [List.length_map] at hn0 hn1 hn2 hn3 hn4
  subst hn0 hn1 hn2 hn3 hn4
  have HR := Lib.hid (show RV w noX [.slice A0 R.ow.length c0, .slice A1 R.cs.length c1, .slice A2 R.rm.length c2, .slice A3 R.st.length c3, .slice A4 R.tk.length c4] R from ⟨_, _, _, _, _, rfl, h0, h1, h2, h3, h4⟩)
  have H0 := Lib.hid h0
  have H1 := Lib.hid h1
  have H2 := Lib.hid h2
  have H3 := Lib.hid h3
  have H4 := Lib.hid h4
  clear h0 h1 h2 h3 h4
  have d0 : decide ((i : Int) < 0) = false := by simp
  have d1 : decide ((R.ow.length : Int) ≤ (i : Int)) = false := by simpa using hi
  have hi' : ¬ R.ow.length ≤ i := by omega
  obtain ⟨b, o, c, hveq, hcell, _⟩ := rowN_at H0.out hi
  injection hveq with hA _ hc
  subst hA hc
  have q0 : ∀ x y, ((w.alloc x).alloc y).cell? ⟨b, o + i, none⟩ = _ := fun x y => (((Kept.refl noX w).alloc x).alloc y).cell hcell
  have d2 : decide (0 ≤ R.ow[i]) = true := by simpa using hn
  generalize R.ow[i] = ow at *
  clear hcell
  go_enter Try.func58, Try.ntmps58
  go_wp2_with (go_at_call 86; refine (zthread_any t _).mono ?_; rintro e Wt ⟨rfl, rfl⟩; rw [ht])
  refine ret_3 Try.results58 rfl (resVal.box rfl (cells_second _ _ _ _) Try.underlying33 rfl (by kernel_rfl)) (resVal.tmp rfl) (resVal.tmp rfl) ?_
  exact ⟨rfl, ((Kept.refl _ _).alloc _).alloc _⟩
set_option maxRecDepth 100000 in
set_option maxHeartbeats 1000000 in
theorem zlock_ok (hb : RB R) (i : Nat) (hi : i < R.ow.length) (ht : inI 0 7 t = true) (hn : R.ow[i] = -1) : Calls Try.prog 58 #[.agg vs.toArray, .int .i64 i, .int .i64 t] w fun e W' => (∃ vs', e = .returned (.tuple #[.agg vs'.toArray, .bool true, .int .i64 0]) ∧ RV W' (· < w.heap.size) vs' { R with ow := R.ow.set i t }) ∧ Kept noX w W' := by
  obtain ⟨v0, v1, v2, v3, v4, rfl, h0, h1, h2, h3, h4⟩ := h
  obtain ⟨A0, n0, c0, rfl, hn0, -⟩ := h0.form
  obtain ⟨A1, n1, c1, rfl, hn1, -⟩ := h1.form
  obtain ⟨A2, n2, c2, rfl, hn2, -⟩ := h2.form
  obtain ⟨A3, n3, c3, rfl, hn3, -⟩ := h3.form
  obtain ⟨A4, n4, c4, rfl, hn4, -⟩ := h4.form
  rw [List.length_map] at hn0 hn1 hn2 hn3 hn4
  subst hn0 hn1 hn2 hn3 hn4
  have HR := Lib.hid (show RV w noX [.slice A0 R.ow.length c0, .slice A1 R.cs.length c1, .slice A2 R.rm.length c2, .slice A3 R.st.length c3, .slice A4 R.tk.length c4] R from ⟨_, _, _, _, _, rfl, h0, h1, h2, h3, h4⟩)
  have H0 := Lib.hid h0
  have H1 := Lib.hid h1
  have H2 := Lib.hid h2
  have H3 := Lib.hid h3
  have H4 := Lib.hid h4
  clear h0 h1 h2 h3 h4
  have d0 : decide ((i : Int) < 0) = false := by simp
  have d1 : decide ((R.ow.length : Int) ≤ (i : Int)) = false := by simpa using hi
  have hi' : ¬ R.ow.length ≤ i := by omega
  obtain ⟨b, o, c, hveq, hcell, _⟩ := rowN_at H0.out hi
  injection hveq with hA _ hc
  subst hA hc
  have q0 : ∀ x y, ((w.alloc x).alloc y).cell? ⟨b, o + i, none⟩ = _ := fun x y => (((Kept.refl noX w).alloc x).alloc y).cell hcell
  rw [hn] at q0
  clear hcell
  go_enter Try.func58, Try.ntmps58
  go_wp2_with (go_at_call 86; refine (zthread_any t _).mono ?_; rintro e Wt ⟨rfl, rfl⟩; rw [ht])
  clear q0
  refine zcopy_at HR.out hb ?_
  intro W2 T u0 u1 u2 u3 u4 l1 l3 hZ hTB hk2 hX2
  obtain ⟨U0, e0, hf0⟩ := hZ.1.1.form
  obtain ⟨U2, e2, hf2⟩ := hZ.1.2.1.form
  obtain ⟨U4, e4, hf4⟩ := hZ.1.2.2.form
  rw [List.length_map] at hf4
  obtain ⟨U1, e1, hf1, _, _⟩ := own_formN hZ.2.1.1
  obtain ⟨U3, e3, hf3, _, _⟩ := own_formN hZ.2.2.1.1
  subst hf0 hf1 hf2 hf3 hf4
  have hB2 := Cells.fresh W2 33 [.slice U0 R.ow.length e0, .slice U1 R.cs.length e1, .slice U2 R.rm.length e2, .slice U3 R.st.length e3, .slice U4 R.tk.length e4]
  obtain ⟨g, cap, cur, hv, _, hg, _⟩ := hZ.1.1.1.2.resolve_left (fun h => by omega)
  injection hv with hU0 _ hcap
  subst hU0 hcap
  obtain ⟨cur, rest, hC, hcur, hcl, hcn⟩ := own_cells hZ.1.1.1
  have hg1 : T g = 1 := hZ.1.1.2.1 g rfl
  have x0 := hC.cell i
  rw [hcur, List.getElem?_append_left (by simpa using hi), List.getElem?_map, List.getElem?_eq_getElem hi] at x0
  have y0 : ∀ x, (W2.alloc x).cell? ⟨g, i, none⟩ = _ := fun x => ((Kept.refl noX W2).alloc x).cell x0
  have z0 : ∀ x, (W2.alloc x).frozen? ⟨g, i, none⟩ = false := fun x => (hC.alloc x).free i
  have hgl := hC.lt
  have hga : w.heap.size + 2 ≤ g := (hTB g (by rw [hg1]; decide)).1
  have hkc : Kept (· = g) W2 (W2.setCell ⟨g, i, none⟩ (.int .i64 t)) := (Kept.refl (· = g) _).setCell (p := ⟨g, i, none⟩) (fun _ => rfl) _
  have hsz : (W2.setCell ⟨g, i, none⟩ (.int .i64 t)).heap.size = W2.heap.size := by simp [World.setCell]
  have hB3 := Cells.fresh (W2.setCell ⟨g, i, none⟩ (.int .i64 t)) 33 [.slice (some ⟨g, 0, none⟩) R.ow.length e0, .slice U1 R.cs.length e1, .slice U2 R.rm.length e2, .slice U3 R.st.length e3, .slice U4 R.tk.length e4]
  rw [hsz] at hB3
  have hA3 := (hX2.kept hkc (by omega)).alloc (.cells #[.slice (some ⟨g, 0, none⟩) R.ow.length e0, .slice U1 R.cs.length e1, .slice U2 R.rm.length e2, .slice U3 R.st.length e3, .slice U4 R.tk.length e4] 33)
  have k0 := hB3.cell 0
  have b0 := hA3.cell 0
  have f0 := hA3.free 0
  have k1 := hB3.cell 1
  have b1 := hA3.cell 1
  have f1 := hA3.free 1
  have k2 := hB3.cell 2
  have b2 := hA3.cell 2
  have f2 := hA3.free 2
  have k3 := hB3.cell 3
  have b3 := hA3.cell 3
  have f3 := hA3.free 3
  have k4 := hB3.cell 4
  have b4 := hA3.cell 4
  have f4 := hA3.free 4
  simp only [z5, List.getElem?_cons_zero, List.getElem?_cons_succ] at k0 k1 k2 k3 k4 b0 b1 b2 b3 b4
  have hZ3 := (hZ.setO (i := i) (t := t) hi).keep ((Kept.refl _ _).alloc (.cells #[.slice (some ⟨g, 0, none⟩) R.ow.length e0, .slice U1 R.cs.length e1, .slice U2 R.rm.length e2, .slice U3 R.st.length e3, .slice U4 R.tk.length e4] 33))
  have HZ3 := Lib.hid hZ3
  have HA3 := Lib.hid hA3
  have HTB := Lib.hid hTB
  have HK3 := Lib.hid (show Kept noX w ((W2.setCell ⟨g, i, none⟩ (.int .i64 t)).alloc (.cells #[.slice (some ⟨g, 0, none⟩) R.ow.length e0, .slice U1 R.cs.length e1, .slice U2 R.rm.length e2, .slice U3 R.st.length e3, .slice U4 R.tk.length e4] 33)) from (hk2.own hkc (by omega)).alloc _)
  have HNW := Lib.hid (show w.heap.size ≤ W2.heap.size from hk2.size)
  clear hZ hZ3 hTB hk2 hX2 hC hcur hcl hcn hg hB3 hA3 hkc hsz x0
  go_wp2_with fail
  refine ret_3 Try.results58 rfl (resVal.box rfl (((((HA3.out.put 0 _).put 1 _).put 2 _).put 3 _).put 4 _) Try.underlying33 rfl (by kernel_rfl)) (resVal.tmp rfl) (resVal.tmp rfl) ?_
  exact ⟨⟨_, rfl, (ztold HZ3.out HTB.out HK3.out (Kept.put5 _ _ _ _ _ _ _)).1⟩, (ztold HZ3.out HTB.out HK3.out (Kept.put5 _ _ _ _ _ _ _)).2⟩
set_option maxRecDepth 100000 in
set_option maxHeartbeats 1000000 in
theorem zunlock_out (m : Int) (hm : m < 0 ∨ (R.ow.length : Int) ≤ m) : Calls Try.prog 59 #[.agg vs.toArray, .int .i64 m, .int .i64 t] w fun e W' => e = .returned (.tuple #[.agg vs.toArray, .int .i64 4]) ∧ Kept noX w W' := by
  obtain ⟨v0, v1, v2, v3, v4, rfl, h0, h1, h2, h3, h4⟩ := h
  obtain ⟨A0, n0, c0, rfl, hn0, -⟩ := h0.form
  obtain ⟨A1, n1, c1, rfl, hn1, -⟩ := h1.form
  obtain ⟨A2, n2, c2, rfl, hn2, -⟩ := h2.form
  obtain ⟨A3, n3, c3, rfl, hn3, -⟩ := h3.form
  obtain ⟨A4, n4, c4, rfl, hn4, -⟩ := h4.form
  rw [List.length_map] at hn0 hn1 hn2 hn3 hn4
  subst hn0 hn1 hn2 hn3 hn4
  have HR := Lib.hid (show RV w noX [.slice A0 R.ow.length c0, .slice A1 R.cs.length c1, .slice A2 R.rm.length c2, .slice A3 R.st.length c3, .slice A4 R.tk.length c4] R from ⟨_, _, _, _, _, rfl, h0, h1, h2, h3, h4⟩)
  have H0 := Lib.hid h0
  have H1 := Lib.hid h1
  have H2 := Lib.hid h2
  have H3 := Lib.hid h3
  have H4 := Lib.hid h4
  clear h0 h1 h2 h3 h4
  rcases hm with hm | hm
  · have d0 : decide (m < 0) = true := by simpa using hm
    go_enter Try.func59, Try.ntmps59
    go_wp2_with fail
    refine ret_2 Try.results59 rfl (resVal.box rfl (cells_second _ _ _ _) Try.underlying33 rfl (by kernel_rfl)) (resVal.tmp rfl) ?_
    exact ⟨rfl, ((Kept.refl _ _).alloc _).alloc _⟩
  · have d0 : decide (m < 0) = false := by simp; omega
    have d1 : decide ((R.ow.length : Int) ≤ m) = true := by simpa using hm
    have hm' : ¬ m < 0 := by omega
    go_enter Try.func59, Try.ntmps59
    go_wp2_with fail
    refine ret_2 Try.results59 rfl (resVal.box rfl (cells_second _ _ _ _) Try.underlying33 rfl (by kernel_rfl)) (resVal.tmp rfl) ?_
    exact ⟨rfl, ((Kept.refl _ _).alloc _).alloc _⟩
set_option maxRecDepth 100000 in
set_option maxHeartbeats 1000000 in
theorem zunlock_bad (i : Nat) (hi : i < R.ow.length) (ht : inI 0 7 t = false) : Calls Try.prog 59 #[.agg vs.toArray, .int .i64 i, .int .i64 t] w fun e W' => e = .returned (.tuple #[.agg vs.toArray, .int .i64 2]) ∧ Kept noX w W' := by
  obtain ⟨v0, v1, v2, v3, v4, rfl, h0, h1, h2, h3, h4⟩ := h
  obtain ⟨A0, n0, c0, rfl, hn0, -⟩ := h0.form
  obtain ⟨A1, n1, c1, rfl, hn1, -⟩ := h1.form
  obtain ⟨A2, n2, c2, rfl, hn2, -⟩ := h2.form
  obtain ⟨A3, n3, c3, rfl, hn3, -⟩ := h3.form
  obtain ⟨A4, n4, c4, rfl, hn4, -⟩ := h4.form
  rw [List.length_map] at hn0 hn1 hn2 hn3 hn4
  subst hn0 hn1 hn2 hn3 hn4
  have HR := Lib.hid (show RV w noX [.slice A0 R.ow.length c0, .slice A1 R.cs.length c1, .slice A2 R.rm.length c2, .slice A3 R.st.length c3, .slice A4 R.tk.length c4] R from ⟨_, _, _, _, _, rfl, h0, h1, h2, h3, h4⟩)
  have H0 := Lib.hid h0
  have H1 := Lib.hid h1
  have H2 := Lib.hid h2
  have H3 := Lib.hid h3
  have H4 := Lib.hid h4
  clear h0 h1 h2 h3 h4
  have d0 : decide ((i : Int) < 0) = false := by simp
  have d1 : decide ((R.ow.length : Int) ≤ (i : Int)) = false := by simpa using hi
  have hi' : ¬ R.ow.length ≤ i := by omega
  go_enter Try.func59, Try.ntmps59
  go_wp2_with (go_at_call 86; refine (zthread_any t _).mono ?_; rintro e Wt ⟨rfl, rfl⟩; rw [ht])
  refine ret_2 Try.results59 rfl (resVal.box rfl (cells_second _ _ _ _) Try.underlying33 rfl (by kernel_rfl)) (resVal.tmp rfl) ?_
  exact ⟨rfl, ((Kept.refl _ _).alloc _).alloc _⟩
set_option maxRecDepth 100000 in
set_option maxHeartbeats 1000000 in
theorem zunlock_no (i : Nat) (hi : i < R.ow.length) (ht : inI 0 7 t = true) (hn : R.ow[i] ≠ t) : Calls Try.prog 59 #[.agg vs.toArray, .int .i64 i, .int .i64 t] w fun e W' => e = .returned (.tuple #[.agg vs.toArray, .int .i64 140]) ∧ Kept noX w W' := by
  obtain ⟨v0, v1, v2, v3, v4, rfl, h0, h1, h2, h3, h4⟩ := h
  obtain ⟨A0, n0, c0, rfl, hn0, -⟩ := h0.form
  obtain ⟨A1, n1, c1, rfl, hn1, -⟩ := h1.form
  obtain ⟨A2, n2, c2, rfl, hn2, -⟩ := h2.form
  obtain ⟨A3, n3, c3, rfl, hn3, -⟩ := h3.form
  obtain ⟨A4, n4, c4, rfl, hn4, -⟩ := h4.form
  rw [List.length_map] at hn0 hn1 hn2 hn3 hn4
  subst hn0 hn1 hn2 hn3 hn4
  have HR := Lib.hid (show RV w noX [.slice A0 R.ow.length c0, .slice A1 R.cs.length c1, .slice A2 R.rm.length c2, .slice A3 R.st.length c3, .slice A4 R.tk.length c4] R from ⟨_, _, _, _, _, rfl, h0, h1, h2, h3, h4⟩)
  have H0 := Lib.hid h0
  have H1 := Lib.hid h1
  have H2 := Lib.hid h2
  have H3 := Lib.hid h3
  have H4 := Lib.hid h4
  clear h0 h1 h2 h3 h4
  have d0 : decide ((i : Int) < 0) = false := by simp
  have d1 : decide ((R.ow.length : Int) ≤ (i : Int)) = false := by simpa using hi
  have hi' : ¬ R.ow.length ≤ i := by omega
  obtain ⟨b, o, c, hveq, hcell, _⟩ := rowN_at H0.out hi
  injection hveq with hA _ hc
  subst hA hc
  have q0 : ∀ x y, ((w.alloc x).alloc y).cell? ⟨b, o + i, none⟩ = _ := fun x y => (((Kept.refl noX w).alloc x).alloc y).cell hcell
  have d2 : (R.ow[i] == t) = false := by simpa using hn
  have d3 : (R.ow[i] != t) = true := by simpa using hn
  generalize R.ow[i] = ow at *
  clear hcell
  go_enter Try.func59, Try.ntmps59
  go_wp2_with (go_at_call 86; refine (zthread_any t _).mono ?_; rintro e Wt ⟨rfl, rfl⟩; rw [ht])
  refine ret_2 Try.results59 rfl (resVal.box rfl (cells_second _ _ _ _) Try.underlying33 rfl (by kernel_rfl)) (resVal.tmp rfl) ?_
  exact ⟨rfl, ((Kept.refl _ _).alloc _).alloc _⟩
set_option maxRecDepth 100000 in
set_option maxHeartbeats 1000000 in
theorem zunlock_ok (hb : RB R) (i : Nat) (hi : i < R.ow.length) (ht : inI 0 7 t = true) (hn : R.ow[i] = t) : Calls Try.prog 59 #[.agg vs.toArray, .int .i64 i, .int .i64 t] w fun e W' => (∃ vs', e = .returned (.tuple #[.agg vs'.toArray, .int .i64 0]) ∧ RV W' (· < w.heap.size) vs' { R with ow := R.ow.set i (-1) }) ∧ Kept noX w W' := by
  obtain ⟨v0, v1, v2, v3, v4, rfl, h0, h1, h2, h3, h4⟩ := h
  obtain ⟨A0, n0, c0, rfl, hn0, -⟩ := h0.form
  obtain ⟨A1, n1, c1, rfl, hn1, -⟩ := h1.form
  obtain ⟨A2, n2, c2, rfl, hn2, -⟩ := h2.form
  obtain ⟨A3, n3, c3, rfl, hn3, -⟩ := h3.form
  obtain ⟨A4, n4, c4, rfl, hn4, -⟩ := h4.form
  rw [List.length_map] at hn0 hn1 hn2 hn3 hn4
  subst hn0 hn1 hn2 hn3 hn4
  have HR := Lib.hid (show RV w noX [.slice A0 R.ow.length c0, .slice A1 R.cs.length c1, .slice A2 R.rm.length c2, .slice A3 R.st.length c3, .slice A4 R.tk.length c4] R from ⟨_, _, _, _, _, rfl, h0, h1, h2, h3, h4⟩)
  have H0 := Lib.hid h0
  have H1 := Lib.hid h1
  have H2 := Lib.hid h2
  have H3 := Lib.hid h3
  have H4 := Lib.hid h4
  clear h0 h1 h2 h3 h4
  have d0 : decide ((i : Int) < 0) = false := by simp
  have d1 : decide ((R.ow.length : Int) ≤ (i : Int)) = false := by simpa using hi
  have hi' : ¬ R.ow.length ≤ i := by omega
  obtain ⟨b, o, c, hveq, hcell, _⟩ := rowN_at H0.out hi
  injection hveq with hA _ hc
  subst hA hc
  have q0 : ∀ x y, ((w.alloc x).alloc y).cell? ⟨b, o + i, none⟩ = _ := fun x y => (((Kept.refl noX w).alloc x).alloc y).cell hcell
  rw [hn] at q0
  have d2 : (t == t) = true := by simp
  have d3 : (t != t) = false := by simp
  clear hcell
  go_enter Try.func59, Try.ntmps59
  go_wp2_with (go_at_call 86; refine (zthread_any t _).mono ?_; rintro e Wt ⟨rfl, rfl⟩; rw [ht])
  clear q0
  refine zcopy_at HR.out hb ?_
  intro W2 T u0 u1 u2 u3 u4 l1 l3 hZ hTB hk2 hX2
  obtain ⟨U0, e0, hf0⟩ := hZ.1.1.form
  obtain ⟨U2, e2, hf2⟩ := hZ.1.2.1.form
  obtain ⟨U4, e4, hf4⟩ := hZ.1.2.2.form
  rw [List.length_map] at hf4
  obtain ⟨U1, e1, hf1, _, _⟩ := own_formN hZ.2.1.1
  obtain ⟨U3, e3, hf3, _, _⟩ := own_formN hZ.2.2.1.1
  subst hf0 hf1 hf2 hf3 hf4
  have hB2 := Cells.fresh W2 33 [.slice U0 R.ow.length e0, .slice U1 R.cs.length e1, .slice U2 R.rm.length e2, .slice U3 R.st.length e3, .slice U4 R.tk.length e4]
  obtain ⟨g, cap, cur, hv, _, hg, _⟩ := hZ.1.1.1.2.resolve_left (fun h => by omega)
  injection hv with hU0 _ hcap
  subst hU0 hcap
  obtain ⟨cur, rest, hC, hcur, hcl, hcn⟩ := own_cells hZ.1.1.1
  have hg1 : T g = 1 := hZ.1.1.2.1 g rfl
  have x0 := hC.cell i
  rw [hcur, List.getElem?_append_left (by simpa using hi), List.getElem?_map, List.getElem?_eq_getElem hi] at x0
  have y0 : ∀ x, (W2.alloc x).cell? ⟨g, i, none⟩ = _ := fun x => ((Kept.refl noX W2).alloc x).cell x0
  have z0 : ∀ x, (W2.alloc x).frozen? ⟨g, i, none⟩ = false := fun x => (hC.alloc x).free i
  have hgl := hC.lt
  have hga : w.heap.size + 2 ≤ g := (hTB g (by rw [hg1]; decide)).1
  have hkc : Kept (· = g) W2 (W2.setCell ⟨g, i, none⟩ (.int .i64 (-1))) := (Kept.refl (· = g) _).setCell (p := ⟨g, i, none⟩) (fun _ => rfl) _
  have hsz : (W2.setCell ⟨g, i, none⟩ (.int .i64 (-1))).heap.size = W2.heap.size := by simp [World.setCell]
  have hB3 := Cells.fresh (W2.setCell ⟨g, i, none⟩ (.int .i64 (-1))) 33 [.slice (some ⟨g, 0, none⟩) R.ow.length e0, .slice U1 R.cs.length e1, .slice U2 R.rm.length e2, .slice U3 R.st.length e3, .slice U4 R.tk.length e4]
  rw [hsz] at hB3
  have hA3 := (hX2.kept hkc (by omega)).alloc (.cells #[.slice (some ⟨g, 0, none⟩) R.ow.length e0, .slice U1 R.cs.length e1, .slice U2 R.rm.length e2, .slice U3 R.st.length e3, .slice U4 R.tk.length e4] 33)
  have k0 := hB3.cell 0
  have b0 := hA3.cell 0
  have f0 := hA3.free 0
  have k1 := hB3.cell 1
  have b1 := hA3.cell 1
  have f1 := hA3.free 1
  have k2 := hB3.cell 2
  have b2 := hA3.cell 2
  have f2 := hA3.free 2
  have k3 := hB3.cell 3
  have b3 := hA3.cell 3
  have f3 := hA3.free 3
  have k4 := hB3.cell 4
  have b4 := hA3.cell 4
  have f4 := hA3.free 4
  simp only [z5, List.getElem?_cons_zero, List.getElem?_cons_succ] at k0 k1 k2 k3 k4 b0 b1 b2 b3 b4
  have hZ3 := (hZ.setO (i := i) (t := (-1)) hi).keep ((Kept.refl _ _).alloc (.cells #[.slice (some ⟨g, 0, none⟩) R.ow.length e0, .slice U1 R.cs.length e1, .slice U2 R.rm.length e2, .slice U3 R.st.length e3, .slice U4 R.tk.length e4] 33))
  have HZ3 := Lib.hid hZ3
  have HA3 := Lib.hid hA3
  have HTB := Lib.hid hTB
  have HK3 := Lib.hid (show Kept noX w ((W2.setCell ⟨g, i, none⟩ (.int .i64 (-1))).alloc (.cells #[.slice (some ⟨g, 0, none⟩) R.ow.length e0, .slice U1 R.cs.length e1, .slice U2 R.rm.length e2, .slice U3 R.st.length e3, .slice U4 R.tk.length e4] 33)) from (hk2.own hkc (by omega)).alloc _)
  have HNW := Lib.hid (show w.heap.size ≤ W2.heap.size from hk2.size)
  clear hZ hZ3 hTB hk2 hX2 hC hcur hcl hcn hg hB3 hA3 hkc hsz x0
  go_wp2_with fail
  refine ret_2 Try.results59 rfl (resVal.box rfl (((((HA3.out.put 0 _).put 1 _).put 2 _).put 3 _).put 4 _) Try.underlying33 rfl (by kernel_rfl)) (resVal.tmp rfl) ?_
  exact ⟨⟨_, rfl, (ztold HZ3.out HTB.out HK3.out (Kept.put5 _ _ _ _ _ _ _)).1⟩, (ztold HZ3.out HTB.out HK3.out (Kept.put5 _ _ _ _ _ _ _)).2⟩
end
end Go.Proofs.Ytehcfahfbdphpaa
