/- Layer 4: a call by both, its branches (conditions: both calls answer alike). -/
import Derived.Test.YtehcfahfbdphpaaSy39
import Derived.Test.YtehcfahfbdphpaaSy28
namespace Go.Proofs.Ytehcfahfbdphpaa
open Go.RowKit Go.Shelf

/-- A state of the document's that calls (so many) have led to. -/
structure OkR (R : RS) (n : Nat) : Prop where
  ow : ∀ i (h : i < R.ow.length), R.ow[i] = -1 ∨ 0 ≤ R.ow[i]
  cs : ∀ i (h : i < R.cs.length), R.cs[i].length ≤ n
  st : ∀ i (h : i < R.st.length), R.st[i].length ≤ n
  th : ∀ l ∈ R.cs, ∀ y ∈ l, (0 : Int) ≤ y
  full : ∀ i (h : i < R.st.length) (h1 : i < R.tk.length) (h2 : i < R.rm.length), ((R.st[i].length - R.tk[i] : Nat) : Int) ≤ R.rm[i]
  sz : R.ow.length ≤ 64 ∧ R.cs.length ≤ 64 ∧ R.rm.length ≤ 64 ∧ R.st.length = R.rm.length ∧ R.tk.length = R.rm.length
theorem OkR.rb {R : RS} {n : Nat} (h : OkR R n) (hn : n ≤ 1000000000) : RB R :=
  ⟨h.sz.1, h.sz.2.1, h.sz.2.2.1, by have := h.sz; omega, by have := h.sz; omega, fun i hi => by have := h.cs i hi; omega, fun i hi => by have := h.st i hi; omega⟩
theorem OkR.more {R : RS} {n : Nat} (h : OkR R n) : OkR R (n + 1) := ⟨h.ow, fun i hi => by have := h.cs i hi; omega, fun i hi => by have := h.st i hi; omega, h.th, h.full, h.sz⟩
/-- There are as many of each as before. -/
def SzR (R R' : RS) : Prop := R'.ow.length = R.ow.length ∧ R'.cs.length = R.cs.length ∧ R'.rm.length = R.rm.length
/-- Neither those blocks nor those between. -/
def ZT (Z0 : Nat → Prop) (a b : Nat) : Nat → Prop := fun g => Z0 g ∨ a ≤ g ∧ g < b
theorem RV.mono {W : World} {Z Z' : Nat → Prop} {vs : List Value} {R : RS} (h : RV W Z vs R) (hz : ∀ g, g < W.heap.size → Z' g → Z g) : RV W Z' vs R := by
  obtain ⟨v0, v1, v2, v3, v4, rfl, h1, h2, h3, h4, h5⟩ := h
  exact ⟨v0, v1, v2, v3, v4, rfl, Rep.mono h1 hz, Rep.mono h2 hz, Rep.mono h3 hz, Rep.mono h4 hz, Rep.mono h5 hz⟩
def AP (w : World) (T : Nat → Nat) (Z0 : Nat → Prop) (p : Nat) (S' : SS) (R' : RS) (e : Ending) (W' : World) : Prop :=
  ∃ vs' T', e = .returned (.tuple #[.agg vs'.toArray, .bool true]) ∧ SyAt W' T' p S' ∧ (∀ g, g < w.heap.size → T' g = T g) ∧ Kept (fun g => T g ≠ 0) w W' ∧ RV W' (fun g => T' g ≠ 0 ∨ Z0 g) vs' R'
theorem SyAt.tagLt {W : World} {T : Nat → Nat} {p : Nat} {S : SS} (h : SyAt W T p S) : ∀ g, T g ≠ 0 → g < W.heap.size := by
  obtain ⟨_, _, _, _, _, _, _, _, _, _, _, _, _, _, q, _⟩ := h
  exact q
/-- The boxes of the call: the document's state, the call, the answer. -/
theorem actW (w : World) (cs xs : List Value) : Kept noX w (((w.alloc (.cells cs.toArray 33)).alloc (.cells xs.toArray 62)).alloc (.cells #[.slice none 0 0, .slice none 0 0, .slice none 0 0, .slice none 0 0, .slice none 0 0] 33)) ∧
    (((w.alloc (.cells cs.toArray 33)).alloc (.cells xs.toArray 62)).alloc (.cells #[.slice none 0 0, .slice none 0 0, .slice none 0 0, .slice none 0 0, .slice none 0 0] 33)).heap.size = w.heap.size + 3 ∧
    Cells (((w.alloc (.cells cs.toArray 33)).alloc (.cells xs.toArray 62)).alloc (.cells #[.slice none 0 0, .slice none 0 0, .slice none 0 0, .slice none 0 0, .slice none 0 0] 33)) (w.heap.size + 1) 62 xs ∧
    Cells (((w.alloc (.cells cs.toArray 33)).alloc (.cells xs.toArray 62)).alloc (.cells #[.slice none 0 0, .slice none 0 0, .slice none 0 0, .slice none 0 0, .slice none 0 0] 33)) (w.heap.size + 1 + 1) 33 z5 := by
  refine ⟨(((Kept.refl _ _).alloc _).alloc _).alloc _, by simp only [World.size_alloc], (cells_second w 62 _ xs).alloc _, ?_⟩
  have := cells_second (w.alloc (.cells cs.toArray 33)) 33 (.cells xs.toArray 62) z5
  rwa [World.size_alloc] at this
theorem ap_end {w W1 W2 W3 : World} {T T' : Nat → Nat} {p : Nat} {Z0 : Nat → Prop} {S' : SS} {R' : RS} {vs' : List Value} {o : Obj} (hTZ : ∀ g, T g ≠ 0 → Z0 g) (hs : ∀ g, T g ≠ 0 → g < w.heap.size) (hk1 : Kept noX w W1) (hsz : w.heap.size + 1 + 1 < W1.heap.size) (hR : RV (W1.alloc o) (ZT Z0 w.heap.size (w.heap.size + 3)) vs' R') (hS : SyAt W2 T' p S')
    (hT : ∀ g, g < (W1.alloc o).heap.size → T' g = T g) (hk3 : Kept (fun g => T g ≠ 0) (W1.alloc o) W2) (hka : Kept (· = w.heap.size + 1 + 1) W2 W3) : AP w T Z0 p S' R' (.returned (.tuple #[.agg vs'.toArray, .bool true])) W3 := by
  have h1 := hk1.size
  have hb : T' (w.heap.size + 1 + 1) = 0 := by
    rw [hT _ (by rw [World.size_alloc]; omega)]
    exact Classical.byContradiction fun h => by have := hs _ h; omega
  refine ⟨vs', T', rfl, hS.kept hka (fun g h => by rw [h]; exact hb), fun g hg => hT g (by rw [World.size_alloc]; omega), ((hk1.alloc o).any.trans hk3).own hka (by omega), ?_⟩
  have hm : RV (W1.alloc o) (fun g => (T' g ≠ 0 ∨ Z0 g) ∨ g = w.heap.size + 1 + 1) vs' R' := hR.mono (fun g hg h => by
    rcases h with (h | h) | h
    · exact .inl (hTZ g (by rw [← hT g hg]; exact h))
    · exact .inl h
    · exact .inr (by omega))
  exact ((hm.kept hk3 (fun g _ h => .inl (.inr (hTZ g h)))).kept hka (fun g _ h => .inr h)).mono (fun g _ h => .inl h)
section
variable {w : World} {T : Nat → Nat} {p : Nat} {S S' : SS} {vs : List Value} {R R' : RS} (hS : SyAt w T p S) (h : RV w noX vs R) {m t v : Int} {Z0 : Nat → Prop} (hTZ : ∀ g, T g ≠ 0 → Z0 g)
include hS h hTZ
set_option maxRecDepth 100000 in
set_option maxHeartbeats 1000000 in
theorem act_lock {ok : Bool} {no : Int} (hz : ∀ W0, Kept noX w W0 → W0.heap.size = w.heap.size + 3 → Calls Try.prog 58 #[.agg vs.toArray, .int .i64 m, .int .i64 t] W0 fun e W' => (∃ vs', e = .returned (.tuple #[.agg vs'.toArray, .bool ok, .int .i64 no]) ∧ RV W' (ZT Z0 w.heap.size (w.heap.size + 3)) vs' R') ∧ Kept noX W0 W')
    (hy : ∀ W1, SyAt W1 T p S → Calls Try.prog 15 #[.pointer (some ⟨p, 0, none⟩), .int .i64 m, .int .i64 t] W1 fun e W' => e = .returned (.tuple #[.bool ok, .int .i64 no]) ∧ SyTo W1 T p S' W') :
    Calls Try.prog 32 #[.pointer (some ⟨p, 0, none⟩), .agg vs.toArray, .agg #[.int .i64 0, .int .i64 m, .int .i64 t, .int .i64 v]] w (AP w T Z0 p S' R') := by
  obtain ⟨v0, v1, v2, v3, v4, rfl, h0, h1, h2, h3, h4⟩ := h
  obtain ⟨A0, n0, c0, rfl, hn0, -⟩ := h0.form
  obtain ⟨A1, n1, c1, rfl, hn1, -⟩ := h1.form
  obtain ⟨A2, n2, c2, rfl, hn2, -⟩ := h2.form
  obtain ⟨A3, n3, c3, rfl, hn3, -⟩ := h3.form
  obtain ⟨A4, n4, c4, rfl, hn4, -⟩ := h4.form
  rw [List.length_map] at hn0 hn1 hn2 hn3 hn4
  subst hn0 hn1 hn2 hn3 hn4
  have HR := Lib.hid (show RV w noX [.slice A0 R.ow.length c0, .slice A1 R.cs.length c1, .slice A2 R.rm.length c2, .slice A3 R.st.length c3, .slice A4 R.tk.length c4] R from ⟨_, _, _, _, _, rfl, h0, h1, h2, h3, h4⟩)
  have H0 := Lib.hid h0
  have H1 := Lib.hid h1
  have H2 := Lib.hid h2
  have H3 := Lib.hid h3
  have H4 := Lib.hid h4
  clear h0 h1 h2 h3 h4
  have HZ := Lib.hid hz
  have HY := Lib.hid hy
  have HS := Lib.hid hS
  clear hz hy hS
  go_enter Try.func32, Try.ntmps32
  go_wp2_with fail
  have hks := actW w [.slice A0 R.ow.length c0, .slice A1 R.cs.length c1, .slice A2 R.rm.length c2, .slice A3 R.st.length c3, .slice A4 R.tk.length c4] [.int .i64 0, .int .i64 m, .int .i64 t, .int .i64 v]
  obtain ⟨hk0, hsz, hB5, hA6⟩ := hks
  refine (HZ.out _ hk0 hsz).mono ?_
  rintro e W1 ⟨⟨vs', rfl, hR1⟩, hk1⟩
  replace hB5 := hB5.keep hk1
  replace hA6 := hA6.keep hk1
  have HK1 := Lib.hid (hk0.trans hk1)
  have hsz1 : w.heap.size + 1 + 1 < W1.heap.size := by have := hk1.size; omega
  have HR1 := Lib.hid hR1
  obtain ⟨v0', v1', v2', v3', v4', rfl, h0, h1, h2, h3, h4⟩ := hR1
  obtain ⟨B0, n0, e0, rfl, hn0, -⟩ := h0.form
  obtain ⟨B1, n1, e1, rfl, hn1, -⟩ := h1.form
  obtain ⟨B2, n2, e2, rfl, hn2, -⟩ := h2.form
  obtain ⟨B3, n3, e3, rfl, hn3, -⟩ := h3.form
  obtain ⟨B4, n4, e4, rfl, hn4, -⟩ := h4.form
  rw [List.length_map] at hn0 hn1 hn2 hn3 hn4
  subst hn0 hn1 hn2 hn3 hn4
  clear h0 h1 h2 h3 h4
  have y1 : ∀ x, (W1.alloc x).cell? ⟨w.heap.size + 1, 1, none⟩ = _ := fun x => ((Kept.refl noX W1).alloc x).cell (hB5.cell 1)
  have y2 : ∀ x, (W1.alloc x).cell? ⟨w.heap.size + 1, 2, none⟩ = _ := fun x => ((Kept.refl noX W1).alloc x).cell (hB5.cell 2)
  have hB8 := Cells.fresh W1 33 [.slice B0 R'.ow.length e0, .slice B1 R'.cs.length e1, .slice B2 R'.rm.length e2, .slice B3 R'.st.length e3, .slice B4 R'.tk.length e4]
  have hA7 := hA6.alloc (.cells #[.slice B0 R'.ow.length e0, .slice B1 R'.cs.length e1, .slice B2 R'.rm.length e2, .slice B3 R'.st.length e3, .slice B4 R'.tk.length e4] 33)
  have hk2 : Kept noX w (W1.alloc (.cells #[.slice B0 R'.ow.length e0, .slice B1 R'.cs.length e1, .slice B2 R'.rm.length e2, .slice B3 R'.st.length e3, .slice B4 R'.tk.length e4] 33)) := HK1.out.alloc _
  have hR2 := HR1.out.keep ((Kept.refl noX W1).alloc (.cells #[.slice B0 R'.ow.length e0, .slice B1 R'.cs.length e1, .slice B2 R'.rm.length e2, .slice B3 R'.st.length e3, .slice B4 R'.tk.length e4] 33))
  have hks1 := HK1.out.size
  have HB8 := Lib.hid hB8
  have HA7 := Lib.hid hA7
  have HK2 := Lib.hid hk2
  have HR2 := Lib.hid hR2
  clear hB8 hA7 hk2 hR2 hk0 hsz hk1 hB5 hA6 HR1
  go_wp2_with fail
  refine (HY.out _ (HS.out.keep HK2.out)).mono ?_
  rintro e W2 ⟨rfl, T', hS', hT', hk3⟩
  have hTs : ∀ g, T g ≠ 0 → g < w.heap.size := HS.out.tagLt
  have hB9 := HB8.out.kept hk3 (fun h => by have := hTs _ h; omega)
  have hA8 := HA7.out.kept hk3 (fun h => by have := hTs _ h; omega)
  have k0 := hB9.cell 0
  have a0 := hA8.cell 0
  have f0 := hA8.free 0
  have k1 := hB9.cell 1
  have a1 := hA8.cell 1
  have f1 := hA8.free 1
  have k2 := hB9.cell 2
  have a2 := hA8.cell 2
  have f2 := hA8.free 2
  have k3 := hB9.cell 3
  have a3 := hA8.cell 3
  have f3 := hA8.free 3
  have k4 := hB9.cell 4
  have a4 := hA8.cell 4
  have f4 := hA8.free 4
  simp only [z5, List.getElem?_cons_zero, List.getElem?_cons_succ] at k0 k1 k2 k3 k4 a0 a1 a2 a3 a4
  have HA8 := Lib.hid hA8
  have HS' := Lib.hid hS'
  have HT' := Lib.hid hT'
  have HK3 := Lib.hid hk3
  clear hA8 hB9 hS' hT' hk3
  go_wp2_with fail
  refine wp_region_held_drew (S := (fun w' => w'.cell? ⟨W1.heap.size, 0, none⟩ = some (.slice B0 R'.ow.length e0) ∧ w'.cell? ⟨W1.heap.size, 1, none⟩ = some (.slice B1 R'.cs.length e1) ∧ w'.cell? ⟨W1.heap.size, 2, none⟩ = some (.slice B2 R'.rm.length e2) ∧ w'.cell? ⟨W1.heap.size, 3, none⟩ = some (.slice B3 R'.st.length e3) ∧ w'.cell? ⟨W1.heap.size, 4, none⟩ = some (.slice B4 R'.tk.length e4))) (by kernel_rfl) ⟨k0, k1, k2, k3, k4⟩ (fun hHeld => ?_)
  cases ok
  all_goals
    refine wpAnyH_take (i := 0) (v := ?_) rfl (by kernel_rfl) (by kernel_rfl) (by kernel_rfl) (fun _ _ _ h => h) (Or.inl ⟨by rfl, ?_⟩) (by assumption) ?_
    rotate_left
    · intro wS hSw
      (try dsimp only at hSw)
      go_simp
      (try with_reducible rfl)
    refine wpAnyH_take (i := 1) (v := ?_) rfl (by kernel_rfl) (by kernel_rfl) (by kernel_rfl) (fun _ _ _ h => h) (Or.inl ⟨by rfl, ?_⟩) (by assumption) ?_
    rotate_left
    · intro wS hSw
      (try dsimp only at hSw)
      go_simp
      (try with_reducible rfl)
    refine wpAnyH_take (i := 2) (v := ?_) rfl (by kernel_rfl) (by kernel_rfl) (by kernel_rfl) (fun _ _ _ h => h) (Or.inl ⟨by rfl, ?_⟩) (by assumption) ?_
    rotate_left
    · intro wS hSw
      (try dsimp only at hSw)
      go_simp
      (try with_reducible rfl)
    refine wpAnyH_take (i := 3) (v := ?_) rfl (by kernel_rfl) (by kernel_rfl) (by kernel_rfl) (fun _ _ _ h => h) (Or.inl ⟨by rfl, ?_⟩) (by assumption) ?_
    rotate_left
    · intro wS hSw
      (try dsimp only at hSw)
      go_simp
      (try with_reducible rfl)
    refine wpAnyH_take (i := 4) (v := ?_) rfl (by kernel_rfl) (by kernel_rfl) (by kernel_rfl) (fun _ _ _ h => h) (Or.inl ⟨by rfl, ?_⟩) (by assumption) ?_
    rotate_left
    · intro wS hSw
      (try dsimp only at hSw)
      go_simp
      (try with_reducible rfl)
    (try simp only [Act.put, List.getElem_toArray, List.getElem_cons_succ, List.getElem_cons_zero, List.setIfInBounds_toArray, List.set_cons_zero, List.set_cons_succ])
    refine wpAnyH_take (i := 5) (v := ?_) rfl (by kernel_rfl) (by kernel_rfl) (by kernel_rfl) (fun _ _ _ h => h) (Or.inl ⟨by rfl, ?_⟩) (by assumption) ?_
    rotate_left
    · intro wS hSw
      (try dsimp only at hSw)
      go_simp
      (try with_reducible rfl)
    refine wpAnyH_take (i := 7) (v := ?_) rfl (by kernel_rfl) (by kernel_rfl) (by kernel_rfl) (fun _ _ _ h => h) (Or.inl ⟨by rfl, ?_⟩) (by assumption) ?_
    rotate_left
    · intro wS hSw
      (try dsimp only at hSw)
      go_simp
      (try with_reducible rfl)
    (try simp only [Act.put, List.getElem_toArray, List.getElem_cons_succ, List.getElem_cons_zero, List.setIfInBounds_toArray, List.set_cons_zero, List.set_cons_succ])
    refine wpAnyH_ready (rs := [6]) (by kernel_rfl) (by simp) ?_
    refine (AllReadyH.cons rfl (fun K hK => ?_) AllReadyH.nil)
    go_simp
    refine (num_any no _).mono ?_
    rintro e Wn ⟨rfl, rfl⟩
    refine hK.out _ _ hHeld (fun hHeld => ?_)
    clear hK K
    (try simp only [Act.put, List.getElem_toArray, List.getElem_cons_succ, List.getElem_cons_zero, List.setIfInBounds_toArray, List.set_cons_zero, List.set_cons_succ])
    refine wpAnyH_take (i := 8) (v := ?_) rfl (by kernel_rfl) (by kernel_rfl) (by kernel_rfl) (fun _ _ _ h => h) (Or.inl ⟨by rfl, ?_⟩) (by assumption) ?_
    rotate_left
    · intro wS hSw
      (try dsimp only at hSw)
      go_simp
      (try with_reducible rfl)
    refine wpAnyH_take (i := 9) (v := ?_) rfl (by kernel_rfl) (by kernel_rfl) (by kernel_rfl) (fun _ _ _ h => h) (Or.inl ⟨by rfl, ?_⟩) (by assumption) ?_
    rotate_left
    · intro wS hSw
      (try dsimp only at hSw)
      go_simp
      (try with_reducible rfl)
    (try simp only [Act.put, List.getElem_toArray, List.getElem_cons_succ, List.getElem_cons_zero, List.setIfInBounds_toArray, List.set_cons_zero, List.set_cons_succ])
    refine wpAnyH_ready (rs := [10]) (by kernel_rfl) (by simp) ?_
    refine (AllReadyH.cons rfl (fun K hK => ?_) AllReadyH.nil)
    go_simp
    have hkp : Kept (· = w.heap.size + 1 + 1) W2 (((((W2.setCell ⟨w.heap.size + 1 + 1, 0, none⟩ (.slice B0 R'.ow.length e0)).setCell ⟨w.heap.size + 1 + 1, 1, none⟩ (.slice B1 R'.cs.length e1)).setCell ⟨w.heap.size + 1 + 1, 2, none⟩ (.slice B2 R'.rm.length e2)).setCell ⟨w.heap.size + 1 + 1, 3, none⟩ (.slice B3 R'.st.length e3)).setCell ⟨w.heap.size + 1 + 1, 4, none⟩ (.slice B4 R'.tk.length e4)).drew := (Kept.put5 _ _ _ _ _ _ _).drew
    have hfar : ¬ W1.heap.size = w.heap.size + 1 + 1 := by omega
    have hHeld3 := (⟨hkp.cell_far k0 hfar, hkp.cell_far k1 hfar, hkp.cell_far k2 hfar, hkp.cell_far k3 hfar, hkp.cell_far k4 hfar⟩ : _ ∧ _ ∧ _ ∧ _ ∧ _)
    refine hK.out _ _ hHeld3 (fun hHeld => ?_)
    clear hK K
    (try simp only [Act.put, List.getElem_toArray, List.getElem_cons_succ, List.getElem_cons_zero, List.setIfInBounds_toArray, List.set_cons_zero, List.set_cons_succ])
    refine wpAnyH_ready (rs := [11]) (by kernel_rfl) (by simp) ?_
    refine (AllReadyH.cons rfl (fun K hK => ?_) AllReadyH.nil)
    go_simp
    refine hK.out _ _ hHeld (fun hHeld => ?_)
    clear hK K
    (try simp only [Act.put, List.getElem_toArray, List.getElem_cons_succ, List.getElem_cons_zero, List.setIfInBounds_toArray, List.set_cons_zero, List.set_cons_succ])
    refine wpAnyH_done (by kernel_rfl) ?_ _
    go_wp2_with fail
    refine ret_2 Try.results32 rfl (resVal.box rfl (((((HA8.out.put 0 _).put 1 _).put 2 _).put 3 _).put 4 _).drew Try.underlying33 rfl (by kernel_rfl)) (resVal.tmp rfl) ?_
    exact ap_end hTZ HS.out.tagLt HK1.out hsz1 HR2.out HS'.out HT'.out HK3.out hkp
set_option maxRecDepth 100000 in
set_option maxHeartbeats 1000000 in
theorem act_unlock {no : Int} (hz : ∀ W0, Kept noX w W0 → W0.heap.size = w.heap.size + 3 → Calls Try.prog 59 #[.agg vs.toArray, .int .i64 m, .int .i64 t] W0 fun e W' => (∃ vs', e = .returned (.tuple #[.agg vs'.toArray, .int .i64 no]) ∧ RV W' (ZT Z0 w.heap.size (w.heap.size + 3)) vs' R') ∧ Kept noX W0 W')
    (hy : ∀ W1, SyAt W1 T p S → Calls Try.prog 24 #[.pointer (some ⟨p, 0, none⟩), .int .i64 m, .int .i64 t] W1 fun e W' => e = .returned (.int .i64 no) ∧ SyTo W1 T p S' W') :
    Calls Try.prog 32 #[.pointer (some ⟨p, 0, none⟩), .agg vs.toArray, .agg #[.int .i64 1, .int .i64 m, .int .i64 t, .int .i64 v]] w (AP w T Z0 p S' R') := by
  obtain ⟨v0, v1, v2, v3, v4, rfl, h0, h1, h2, h3, h4⟩ := h
  obtain ⟨A0, n0, c0, rfl, hn0, -⟩ := h0.form
  obtain ⟨A1, n1, c1, rfl, hn1, -⟩ := h1.form
  obtain ⟨A2, n2, c2, rfl, hn2, -⟩ := h2.form
  obtain ⟨A3, n3, c3, rfl, hn3, -⟩ := h3.form
  obtain ⟨A4, n4, c4, rfl, hn4, -⟩ := h4.form
  rw [List.length_map] at hn0 hn1 hn2 hn3 hn4
  subst hn0 hn1 hn2 hn3 hn4
  have HR := Lib.hid (show RV w noX [.slice A0 R.ow.length c0, .slice A1 R.cs.length c1, .slice A2 R.rm.length c2, .slice A3 R.st.length c3, .slice A4 R.tk.length c4] R from ⟨_, _, _, _, _, rfl, h0, h1, h2, h3, h4⟩)
  have H0 := Lib.hid h0
  have H1 := Lib.hid h1
  have H2 := Lib.hid h2
  have H3 := Lib.hid h3
  have H4 := Lib.hid h4
  clear h0 h1 h2 h3 h4
  have HZ := Lib.hid hz
  have HY := Lib.hid hy
  have HS := Lib.hid hS
  clear hz hy hS
  go_enter Try.func32, Try.ntmps32
  go_wp2_with fail
  have hks := actW w [.slice A0 R.ow.length c0, .slice A1 R.cs.length c1, .slice A2 R.rm.length c2, .slice A3 R.st.length c3, .slice A4 R.tk.length c4] [.int .i64 1, .int .i64 m, .int .i64 t, .int .i64 v]
  obtain ⟨hk0, hsz, hB5, hA6⟩ := hks
  refine (HZ.out _ hk0 hsz).mono ?_
  rintro e W1 ⟨⟨vs', rfl, hR1⟩, hk1⟩
  replace hB5 := hB5.keep hk1
  replace hA6 := hA6.keep hk1
  have HK1 := Lib.hid (hk0.trans hk1)
  have hsz1 : w.heap.size + 1 + 1 < W1.heap.size := by have := hk1.size; omega
  have HR1 := Lib.hid hR1
  obtain ⟨v0', v1', v2', v3', v4', rfl, h0, h1, h2, h3, h4⟩ := hR1
  obtain ⟨B0, n0, e0, rfl, hn0, -⟩ := h0.form
  obtain ⟨B1, n1, e1, rfl, hn1, -⟩ := h1.form
  obtain ⟨B2, n2, e2, rfl, hn2, -⟩ := h2.form
  obtain ⟨B3, n3, e3, rfl, hn3, -⟩ := h3.form
  obtain ⟨B4, n4, e4, rfl, hn4, -⟩ := h4.form
  rw [List.length_map] at hn0 hn1 hn2 hn3 hn4
  subst hn0 hn1 hn2 hn3 hn4
  clear h0 h1 h2 h3 h4
  have y1 : ∀ x, (W1.alloc x).cell? ⟨w.heap.size + 1, 1, none⟩ = _ := fun x => ((Kept.refl noX W1).alloc x).cell (hB5.cell 1)
  have y2 : ∀ x, (W1.alloc x).cell? ⟨w.heap.size + 1, 2, none⟩ = _ := fun x => ((Kept.refl noX W1).alloc x).cell (hB5.cell 2)
  have hB8 := Cells.fresh W1 33 [.slice B0 R'.ow.length e0, .slice B1 R'.cs.length e1, .slice B2 R'.rm.length e2, .slice B3 R'.st.length e3, .slice B4 R'.tk.length e4]
  have hA7 := hA6.alloc (.cells #[.slice B0 R'.ow.length e0, .slice B1 R'.cs.length e1, .slice B2 R'.rm.length e2, .slice B3 R'.st.length e3, .slice B4 R'.tk.length e4] 33)
  have hk2 : Kept noX w (W1.alloc (.cells #[.slice B0 R'.ow.length e0, .slice B1 R'.cs.length e1, .slice B2 R'.rm.length e2, .slice B3 R'.st.length e3, .slice B4 R'.tk.length e4] 33)) := HK1.out.alloc _
  have hR2 := HR1.out.keep ((Kept.refl noX W1).alloc (.cells #[.slice B0 R'.ow.length e0, .slice B1 R'.cs.length e1, .slice B2 R'.rm.length e2, .slice B3 R'.st.length e3, .slice B4 R'.tk.length e4] 33))
  have hks1 := HK1.out.size
  have HB8 := Lib.hid hB8
  have HA7 := Lib.hid hA7
  have HK2 := Lib.hid hk2
  have HR2 := Lib.hid hR2
  clear hB8 hA7 hk2 hR2 hk0 hsz hk1 hB5 hA6 HR1
  go_wp2_with fail
  have hB9 := HB8.out
  have hA8 := HA7.out
  have k0 := hB9.cell 0
  have k1 := hB9.cell 1
  have k2 := hB9.cell 2
  have k3 := hB9.cell 3
  have k4 := hB9.cell 4
  simp only [List.getElem?_cons_zero, List.getElem?_cons_succ] at k0 k1 k2 k3 k4
  clear hB9 hA8
  have y1' := y1 (.cells #[.slice B0 R'.ow.length e0, .slice B1 R'.cs.length e1, .slice B2 R'.rm.length e2, .slice B3 R'.st.length e3, .slice B4 R'.tk.length e4] 33)
  have y2' := y2 (.cells #[.slice B0 R'.ow.length e0, .slice B1 R'.cs.length e1, .slice B2 R'.rm.length e2, .slice B3 R'.st.length e3, .slice B4 R'.tk.length e4] 33)
  refine wp_region_held_drew (S := (fun w' => (w'.cell? ⟨W1.heap.size, 0, none⟩ = some (.slice B0 R'.ow.length e0) ∧ w'.cell? ⟨W1.heap.size, 1, none⟩ = some (.slice B1 R'.cs.length e1) ∧ w'.cell? ⟨W1.heap.size, 2, none⟩ = some (.slice B2 R'.rm.length e2) ∧ w'.cell? ⟨W1.heap.size, 3, none⟩ = some (.slice B3 R'.st.length e3) ∧ w'.cell? ⟨W1.heap.size, 4, none⟩ = some (.slice B4 R'.tk.length e4)) ∧ w'.cell? ⟨w.heap.size + 1, 1, none⟩ = some (.int .i64 m) ∧ w'.cell? ⟨w.heap.size + 1, 2, none⟩ = some (.int .i64 t))) (by kernel_rfl) ⟨⟨k0, k1, k2, k3, k4⟩, y1', y2'⟩ (fun hHeld => ?_)
  refine wpAnyH_take (i := 0) (v := ?_) rfl (by kernel_rfl) (by kernel_rfl) (by kernel_rfl) (fun _ _ _ h => h) (Or.inl ⟨by rfl, ?_⟩) (by assumption) ?_
  rotate_left
  · intro wS hSw
    (try dsimp only at hSw)
    go_simp
    (try with_reducible rfl)
  refine wpAnyH_take (i := 1) (v := ?_) rfl (by kernel_rfl) (by kernel_rfl) (by kernel_rfl) (fun _ _ _ h => h) (Or.inl ⟨by rfl, ?_⟩) (by assumption) ?_
  rotate_left
  · intro wS hSw
    (try dsimp only at hSw)
    go_simp
    (try with_reducible rfl)
  refine wpAnyH_take (i := 2) (v := ?_) rfl (by kernel_rfl) (by kernel_rfl) (by kernel_rfl) (fun _ _ _ h => h) (Or.inl ⟨by rfl, ?_⟩) (by assumption) ?_
  rotate_left
  · intro wS hSw
    (try dsimp only at hSw)
    go_simp
    (try with_reducible rfl)
  refine wpAnyH_take (i := 3) (v := ?_) rfl (by kernel_rfl) (by kernel_rfl) (by kernel_rfl) (fun _ _ _ h => h) (Or.inl ⟨by rfl, ?_⟩) (by assumption) ?_
  rotate_left
  · intro wS hSw
    (try dsimp only at hSw)
    go_simp
    (try with_reducible rfl)
  (try simp only [Act.put, List.getElem_toArray, List.getElem_cons_succ, List.getElem_cons_zero, List.setIfInBounds_toArray, List.set_cons_zero, List.set_cons_succ])
  refine wpAnyH_take (i := 4) (v := ?_) rfl (by kernel_rfl) (by kernel_rfl) (by kernel_rfl) (fun _ _ _ h => h) (Or.inl ⟨by rfl, ?_⟩) (by assumption) ?_
  rotate_left
  · intro wS hSw
    (try dsimp only at hSw)
    go_simp
    (try with_reducible rfl)
  refine wpAnyH_take (i := 5) (v := ?_) rfl (by kernel_rfl) (by kernel_rfl) (by kernel_rfl) (fun _ _ _ h => h) (Or.inl ⟨by rfl, ?_⟩) (by assumption) ?_
  rotate_left
  · intro wS hSw
    (try dsimp only at hSw)
    go_simp
    (try with_reducible rfl)
  refine wpAnyH_take (i := 8) (v := ?_) rfl (by kernel_rfl) (by kernel_rfl) (by kernel_rfl) (fun _ _ _ h => h) (Or.inl ⟨by rfl, ?_⟩) (by assumption) ?_
  rotate_left
  · intro wS hSw
    (try dsimp only at hSw)
    go_simp
    (try with_reducible rfl)
  (try simp only [Act.put, List.getElem_toArray, List.getElem_cons_succ, List.getElem_cons_zero, List.setIfInBounds_toArray, List.set_cons_zero, List.set_cons_succ])
  refine wpAnyH_ready (rs := [6]) (by kernel_rfl) (by simp) ?_
  refine (AllReadyH.cons rfl (fun K hK => ?_) AllReadyH.nil)
  go_simp
  refine (HY.out _ (HS.out.keep (HK2.out.drew))).mono ?_
  rintro e W2 ⟨rfl, T', hS', hT', hk3⟩
  replace hk3 := ((Kept.refl noX _).drew.any).trans hk3
  have hTs : ∀ g, T g ≠ 0 → g < w.heap.size := HS.out.tagLt
  have hB9 := HB8.out.kept hk3 (fun h => by have := hTs _ h; omega)
  have hA8 := HA7.out.kept hk3 (fun h => by have := hTs _ h; omega)
  clear k0 k1 k2 k3 k4
  have k0 := hB9.cell 0
  have a0 := hA8.cell 0
  have f0 := hA8.free 0
  have k1 := hB9.cell 1
  have a1 := hA8.cell 1
  have f1 := hA8.free 1
  have k2 := hB9.cell 2
  have a2 := hA8.cell 2
  have f2 := hA8.free 2
  have k3 := hB9.cell 3
  have a3 := hA8.cell 3
  have f3 := hA8.free 3
  have k4 := hB9.cell 4
  have a4 := hA8.cell 4
  have f4 := hA8.free 4
  simp only [z5, List.getElem?_cons_zero, List.getElem?_cons_succ] at k0 k1 k2 k3 k4 a0 a1 a2 a3 a4
  replace y1' := hk3.cell_far y1' (fun h => by have := hTs _ h; omega)
  replace y2' := hk3.cell_far y2' (fun h => by have := hTs _ h; omega)
  have HA8 := Lib.hid hA8
  have HS' := Lib.hid hS'
  have HT' := Lib.hid hT'
  have HK3 := Lib.hid hk3
  clear hA8 hB9 hS' hT' hk3
  have hHeld4 := (⟨⟨k0, k1, k2, k3, k4⟩, y1', y2'⟩ : (_ ∧ _ ∧ _ ∧ _ ∧ _) ∧ _ ∧ _)
  refine hK.out _ _ hHeld4 (fun hHeld => ?_)
  clear hK K
  (try simp only [Act.put, List.getElem_toArray, List.getElem_cons_succ, List.getElem_cons_zero, List.setIfInBounds_toArray, List.set_cons_zero, List.set_cons_succ])
  refine wpAnyH_ready (rs := [7]) (by kernel_rfl) (by simp) ?_
  refine (AllReadyH.cons rfl (fun K hK => ?_) AllReadyH.nil)
  go_simp
  refine (num_any no _).mono ?_
  rintro e Wn ⟨rfl, rfl⟩
  refine hK.out _ _ hHeld (fun hHeld => ?_)
  clear hK K
  (try simp only [Act.put, List.getElem_toArray, List.getElem_cons_succ, List.getElem_cons_zero, List.setIfInBounds_toArray, List.set_cons_zero, List.set_cons_succ])
  refine wpAnyH_take (i := 9) (v := ?_) rfl (by kernel_rfl) (by kernel_rfl) (by kernel_rfl) (fun _ _ _ h => h) (Or.inl ⟨by rfl, ?_⟩) (by assumption) ?_
  rotate_left
  · intro wS hSw
    (try dsimp only at hSw)
    go_simp
    (try with_reducible rfl)
  (try simp only [Act.put, List.getElem_toArray, List.getElem_cons_succ, List.getElem_cons_zero, List.setIfInBounds_toArray, List.set_cons_zero, List.set_cons_succ])
  refine wpAnyH_ready (rs := [10]) (by kernel_rfl) (by simp) ?_
  refine (AllReadyH.cons rfl (fun K hK => ?_) AllReadyH.nil)
  go_simp
  have hkp : Kept (· = w.heap.size + 1 + 1) W2 (((((W2.setCell ⟨w.heap.size + 1 + 1, 0, none⟩ (.slice B0 R'.ow.length e0)).setCell ⟨w.heap.size + 1 + 1, 1, none⟩ (.slice B1 R'.cs.length e1)).setCell ⟨w.heap.size + 1 + 1, 2, none⟩ (.slice B2 R'.rm.length e2)).setCell ⟨w.heap.size + 1 + 1, 3, none⟩ (.slice B3 R'.st.length e3)).setCell ⟨w.heap.size + 1 + 1, 4, none⟩ (.slice B4 R'.tk.length e4)) := Kept.put5 _ _ _ _ _ _ _
  have hfar : ¬ W1.heap.size = w.heap.size + 1 + 1 := by omega
  have hfar2 : ¬ w.heap.size + 1 = w.heap.size + 1 + 1 := by omega
  have hHeld5 := (⟨⟨hkp.cell_far k0 hfar, hkp.cell_far k1 hfar, hkp.cell_far k2 hfar, hkp.cell_far k3 hfar, hkp.cell_far k4 hfar⟩, hkp.cell_far y1' hfar2, hkp.cell_far y2' hfar2⟩ : (_ ∧ _ ∧ _ ∧ _ ∧ _) ∧ _ ∧ _)
  refine hK.out _ _ hHeld5 (fun hHeld => ?_)
  clear hK K
  (try simp only [Act.put, List.getElem_toArray, List.getElem_cons_succ, List.getElem_cons_zero, List.setIfInBounds_toArray, List.set_cons_zero, List.set_cons_succ])
  refine wpAnyH_ready (rs := [11]) (by kernel_rfl) (by simp) ?_
  refine (AllReadyH.cons rfl (fun K hK => ?_) AllReadyH.nil)
  go_simp
  refine hK.out _ _ hHeld (fun hHeld => ?_)
  clear hK K
  (try simp only [Act.put, List.getElem_toArray, List.getElem_cons_succ, List.getElem_cons_zero, List.setIfInBounds_toArray, List.set_cons_zero, List.set_cons_succ])
  refine wpAnyH_done (by kernel_rfl) ?_ _
  go_wp2_with fail
  refine ret_2 Try.results32 rfl (resVal.box rfl (((((HA8.out.put 0 _).put 1 _).put 2 _).put 3 _).put 4 _) Try.underlying33 rfl (by kernel_rfl)) (resVal.tmp rfl) ?_
  exact ap_end hTZ HS.out.tagLt HK1.out hsz1 HR2.out HS'.out HT'.out HK3.out hkp
set_option maxRecDepth 100000 in
set_option maxHeartbeats 1000000 in
theorem act_wait {no : Int} (hz : ∀ W0, Kept noX w W0 → W0.heap.size = w.heap.size + 3 → Calls Try.prog 60 #[.agg vs.toArray, .int .i64 m, .int .i64 t] W0 fun e W' => (∃ vs', e = .returned (.tuple #[.agg vs'.toArray, .int .i64 no]) ∧ RV W' (ZT Z0 w.heap.size (w.heap.size + 3)) vs' R') ∧ Kept noX W0 W')
    (hy : ∀ W1, SyAt W1 T p S → Calls Try.prog 25 #[.pointer (some ⟨p, 0, none⟩), .int .i64 m, .int .i64 t] W1 fun e W' => e = .returned (.int .i64 no) ∧ SyTo W1 T p S' W') :
    Calls Try.prog 32 #[.pointer (some ⟨p, 0, none⟩), .agg vs.toArray, .agg #[.int .i64 2, .int .i64 m, .int .i64 t, .int .i64 v]] w (AP w T Z0 p S' R') := by
  obtain ⟨v0, v1, v2, v3, v4, rfl, h0, h1, h2, h3, h4⟩ := h
  obtain ⟨A0, n0, c0, rfl, hn0, -⟩ := h0.form
  obtain ⟨A1, n1, c1, rfl, hn1, -⟩ := h1.form
  obtain ⟨A2, n2, c2, rfl, hn2, -⟩ := h2.form
  obtain ⟨A3, n3, c3, rfl, hn3, -⟩ := h3.form
  obtain ⟨A4, n4, c4, rfl, hn4, -⟩ := h4.form
  rw [List.length_map] at hn0 hn1 hn2 hn3 hn4
  subst hn0 hn1 hn2 hn3 hn4
  have HR := Lib.hid (show RV w noX [.slice A0 R.ow.length c0, .slice A1 R.cs.length c1, .slice A2 R.rm.length c2, .slice A3 R.st.length c3, .slice A4 R.tk.length c4] R from ⟨_, _, _, _, _, rfl, h0, h1, h2, h3, h4⟩)
  have H0 := Lib.hid h0
  have H1 := Lib.hid h1
  have H2 := Lib.hid h2
  have H3 := Lib.hid h3
  have H4 := Lib.hid h4
  clear h0 h1 h2 h3 h4
  have HZ := Lib.hid hz
  have HY := Lib.hid hy
  have HS := Lib.hid hS
  clear hz hy hS
  go_enter Try.func32, Try.ntmps32
  go_wp2_with fail
  have hks := actW w [.slice A0 R.ow.length c0, .slice A1 R.cs.length c1, .slice A2 R.rm.length c2, .slice A3 R.st.length c3, .slice A4 R.tk.length c4] [.int .i64 2, .int .i64 m, .int .i64 t, .int .i64 v]
  obtain ⟨hk0, hsz, hB5, hA6⟩ := hks
  refine (HZ.out _ hk0 hsz).mono ?_
  rintro e W1 ⟨⟨vs', rfl, hR1⟩, hk1⟩
  replace hB5 := hB5.keep hk1
  replace hA6 := hA6.keep hk1
  have HK1 := Lib.hid (hk0.trans hk1)
  have hsz1 : w.heap.size + 1 + 1 < W1.heap.size := by have := hk1.size; omega
  have HR1 := Lib.hid hR1
  obtain ⟨v0', v1', v2', v3', v4', rfl, h0, h1, h2, h3, h4⟩ := hR1
  obtain ⟨B0, n0, e0, rfl, hn0, -⟩ := h0.form
  obtain ⟨B1, n1, e1, rfl, hn1, -⟩ := h1.form
  obtain ⟨B2, n2, e2, rfl, hn2, -⟩ := h2.form
  obtain ⟨B3, n3, e3, rfl, hn3, -⟩ := h3.form
  obtain ⟨B4, n4, e4, rfl, hn4, -⟩ := h4.form
  rw [List.length_map] at hn0 hn1 hn2 hn3 hn4
  subst hn0 hn1 hn2 hn3 hn4
  clear h0 h1 h2 h3 h4
  have y1 : ∀ x, (W1.alloc x).cell? ⟨w.heap.size + 1, 1, none⟩ = _ := fun x => ((Kept.refl noX W1).alloc x).cell (hB5.cell 1)
  have y2 : ∀ x, (W1.alloc x).cell? ⟨w.heap.size + 1, 2, none⟩ = _ := fun x => ((Kept.refl noX W1).alloc x).cell (hB5.cell 2)
  have hB8 := Cells.fresh W1 33 [.slice B0 R'.ow.length e0, .slice B1 R'.cs.length e1, .slice B2 R'.rm.length e2, .slice B3 R'.st.length e3, .slice B4 R'.tk.length e4]
  have hA7 := hA6.alloc (.cells #[.slice B0 R'.ow.length e0, .slice B1 R'.cs.length e1, .slice B2 R'.rm.length e2, .slice B3 R'.st.length e3, .slice B4 R'.tk.length e4] 33)
  have hk2 : Kept noX w (W1.alloc (.cells #[.slice B0 R'.ow.length e0, .slice B1 R'.cs.length e1, .slice B2 R'.rm.length e2, .slice B3 R'.st.length e3, .slice B4 R'.tk.length e4] 33)) := HK1.out.alloc _
  have hR2 := HR1.out.keep ((Kept.refl noX W1).alloc (.cells #[.slice B0 R'.ow.length e0, .slice B1 R'.cs.length e1, .slice B2 R'.rm.length e2, .slice B3 R'.st.length e3, .slice B4 R'.tk.length e4] 33))
  have hks1 := HK1.out.size
  have HB8 := Lib.hid hB8
  have HA7 := Lib.hid hA7
  have HK2 := Lib.hid hk2
  have HR2 := Lib.hid hR2
  clear hB8 hA7 hk2 hR2 hk0 hsz hk1 hB5 hA6 HR1
  go_wp2_with fail
  have hB9 := HB8.out
  have hA8 := HA7.out
  have k0 := hB9.cell 0
  have k1 := hB9.cell 1
  have k2 := hB9.cell 2
  have k3 := hB9.cell 3
  have k4 := hB9.cell 4
  simp only [List.getElem?_cons_zero, List.getElem?_cons_succ] at k0 k1 k2 k3 k4
  clear hB9 hA8
  have y1' := y1 (.cells #[.slice B0 R'.ow.length e0, .slice B1 R'.cs.length e1, .slice B2 R'.rm.length e2, .slice B3 R'.st.length e3, .slice B4 R'.tk.length e4] 33)
  have y2' := y2 (.cells #[.slice B0 R'.ow.length e0, .slice B1 R'.cs.length e1, .slice B2 R'.rm.length e2, .slice B3 R'.st.length e3, .slice B4 R'.tk.length e4] 33)
  refine wp_region_held_drew (S := (fun w' => (w'.cell? ⟨W1.heap.size, 0, none⟩ = some (.slice B0 R'.ow.length e0) ∧ w'.cell? ⟨W1.heap.size, 1, none⟩ = some (.slice B1 R'.cs.length e1) ∧ w'.cell? ⟨W1.heap.size, 2, none⟩ = some (.slice B2 R'.rm.length e2) ∧ w'.cell? ⟨W1.heap.size, 3, none⟩ = some (.slice B3 R'.st.length e3) ∧ w'.cell? ⟨W1.heap.size, 4, none⟩ = some (.slice B4 R'.tk.length e4)) ∧ w'.cell? ⟨w.heap.size + 1, 1, none⟩ = some (.int .i64 m) ∧ w'.cell? ⟨w.heap.size + 1, 2, none⟩ = some (.int .i64 t))) (by kernel_rfl) ⟨⟨k0, k1, k2, k3, k4⟩, y1', y2'⟩ (fun hHeld => ?_)
  refine wpAnyH_take (i := 0) (v := ?_) rfl (by kernel_rfl) (by kernel_rfl) (by kernel_rfl) (fun _ _ _ h => h) (Or.inl ⟨by rfl, ?_⟩) (by assumption) ?_
  rotate_left
  · intro wS hSw
    (try dsimp only at hSw)
    go_simp
    (try with_reducible rfl)
  refine wpAnyH_take (i := 1) (v := ?_) rfl (by kernel_rfl) (by kernel_rfl) (by kernel_rfl) (fun _ _ _ h => h) (Or.inl ⟨by rfl, ?_⟩) (by assumption) ?_
  rotate_left
  · intro wS hSw
    (try dsimp only at hSw)
    go_simp
    (try with_reducible rfl)
  refine wpAnyH_take (i := 2) (v := ?_) rfl (by kernel_rfl) (by kernel_rfl) (by kernel_rfl) (fun _ _ _ h => h) (Or.inl ⟨by rfl, ?_⟩) (by assumption) ?_
  rotate_left
  · intro wS hSw
    (try dsimp only at hSw)
    go_simp
    (try with_reducible rfl)
  refine wpAnyH_take (i := 3) (v := ?_) rfl (by kernel_rfl) (by kernel_rfl) (by kernel_rfl) (fun _ _ _ h => h) (Or.inl ⟨by rfl, ?_⟩) (by assumption) ?_
  rotate_left
  · intro wS hSw
    (try dsimp only at hSw)
    go_simp
    (try with_reducible rfl)
  (try simp only [Act.put, List.getElem_toArray, List.getElem_cons_succ, List.getElem_cons_zero, List.setIfInBounds_toArray, List.set_cons_zero, List.set_cons_succ])
  refine wpAnyH_take (i := 4) (v := ?_) rfl (by kernel_rfl) (by kernel_rfl) (by kernel_rfl) (fun _ _ _ h => h) (Or.inl ⟨by rfl, ?_⟩) (by assumption) ?_
  rotate_left
  · intro wS hSw
    (try dsimp only at hSw)
    go_simp
    (try with_reducible rfl)
  refine wpAnyH_take (i := 5) (v := ?_) rfl (by kernel_rfl) (by kernel_rfl) (by kernel_rfl) (fun _ _ _ h => h) (Or.inl ⟨by rfl, ?_⟩) (by assumption) ?_
  rotate_left
  · intro wS hSw
    (try dsimp only at hSw)
    go_simp
    (try with_reducible rfl)
  refine wpAnyH_take (i := 8) (v := ?_) rfl (by kernel_rfl) (by kernel_rfl) (by kernel_rfl) (fun _ _ _ h => h) (Or.inl ⟨by rfl, ?_⟩) (by assumption) ?_
  rotate_left
  · intro wS hSw
    (try dsimp only at hSw)
    go_simp
    (try with_reducible rfl)
  (try simp only [Act.put, List.getElem_toArray, List.getElem_cons_succ, List.getElem_cons_zero, List.setIfInBounds_toArray, List.set_cons_zero, List.set_cons_succ])
  refine wpAnyH_ready (rs := [6]) (by kernel_rfl) (by simp) ?_
  refine (AllReadyH.cons rfl (fun K hK => ?_) AllReadyH.nil)
  go_simp
  refine (HY.out _ (HS.out.keep (HK2.out.drew))).mono ?_
  rintro e W2 ⟨rfl, T', hS', hT', hk3⟩
  replace hk3 := ((Kept.refl noX _).drew.any).trans hk3
  have hTs : ∀ g, T g ≠ 0 → g < w.heap.size := HS.out.tagLt
  have hB9 := HB8.out.kept hk3 (fun h => by have := hTs _ h; omega)
  have hA8 := HA7.out.kept hk3 (fun h => by have := hTs _ h; omega)
  clear k0 k1 k2 k3 k4
  have k0 := hB9.cell 0
  have a0 := hA8.cell 0
  have f0 := hA8.free 0
  have k1 := hB9.cell 1
  have a1 := hA8.cell 1
  have f1 := hA8.free 1
  have k2 := hB9.cell 2
  have a2 := hA8.cell 2
  have f2 := hA8.free 2
  have k3 := hB9.cell 3
  have a3 := hA8.cell 3
  have f3 := hA8.free 3
  have k4 := hB9.cell 4
  have a4 := hA8.cell 4
  have f4 := hA8.free 4
  simp only [z5, List.getElem?_cons_zero, List.getElem?_cons_succ] at k0 k1 k2 k3 k4 a0 a1 a2 a3 a4
  replace y1' := hk3.cell_far y1' (fun h => by have := hTs _ h; omega)
  replace y2' := hk3.cell_far y2' (fun h => by have := hTs _ h; omega)
  have HA8 := Lib.hid hA8
  have HS' := Lib.hid hS'
  have HT' := Lib.hid hT'
  have HK3 := Lib.hid hk3
  clear hA8 hB9 hS' hT' hk3
  have hHeld4 := (⟨⟨k0, k1, k2, k3, k4⟩, y1', y2'⟩ : (_ ∧ _ ∧ _ ∧ _ ∧ _) ∧ _ ∧ _)
  refine hK.out _ _ hHeld4 (fun hHeld => ?_)
  clear hK K
  (try simp only [Act.put, List.getElem_toArray, List.getElem_cons_succ, List.getElem_cons_zero, List.setIfInBounds_toArray, List.set_cons_zero, List.set_cons_succ])
  refine wpAnyH_ready (rs := [7]) (by kernel_rfl) (by simp) ?_
  refine (AllReadyH.cons rfl (fun K hK => ?_) AllReadyH.nil)
  go_simp
  refine (num_any no _).mono ?_
  rintro e Wn ⟨rfl, rfl⟩
  refine hK.out _ _ hHeld (fun hHeld => ?_)
  clear hK K
  (try simp only [Act.put, List.getElem_toArray, List.getElem_cons_succ, List.getElem_cons_zero, List.setIfInBounds_toArray, List.set_cons_zero, List.set_cons_succ])
  refine wpAnyH_take (i := 9) (v := ?_) rfl (by kernel_rfl) (by kernel_rfl) (by kernel_rfl) (fun _ _ _ h => h) (Or.inl ⟨by rfl, ?_⟩) (by assumption) ?_
  rotate_left
  · intro wS hSw
    (try dsimp only at hSw)
    go_simp
    (try with_reducible rfl)
  (try simp only [Act.put, List.getElem_toArray, List.getElem_cons_succ, List.getElem_cons_zero, List.setIfInBounds_toArray, List.set_cons_zero, List.set_cons_succ])
  refine wpAnyH_ready (rs := [10]) (by kernel_rfl) (by simp) ?_
  refine (AllReadyH.cons rfl (fun K hK => ?_) AllReadyH.nil)
  go_simp
  have hkp : Kept (· = w.heap.size + 1 + 1) W2 (((((W2.setCell ⟨w.heap.size + 1 + 1, 0, none⟩ (.slice B0 R'.ow.length e0)).setCell ⟨w.heap.size + 1 + 1, 1, none⟩ (.slice B1 R'.cs.length e1)).setCell ⟨w.heap.size + 1 + 1, 2, none⟩ (.slice B2 R'.rm.length e2)).setCell ⟨w.heap.size + 1 + 1, 3, none⟩ (.slice B3 R'.st.length e3)).setCell ⟨w.heap.size + 1 + 1, 4, none⟩ (.slice B4 R'.tk.length e4)) := Kept.put5 _ _ _ _ _ _ _
  have hfar : ¬ W1.heap.size = w.heap.size + 1 + 1 := by omega
  have hfar2 : ¬ w.heap.size + 1 = w.heap.size + 1 + 1 := by omega
  have hHeld5 := (⟨⟨hkp.cell_far k0 hfar, hkp.cell_far k1 hfar, hkp.cell_far k2 hfar, hkp.cell_far k3 hfar, hkp.cell_far k4 hfar⟩, hkp.cell_far y1' hfar2, hkp.cell_far y2' hfar2⟩ : (_ ∧ _ ∧ _ ∧ _ ∧ _) ∧ _ ∧ _)
  refine hK.out _ _ hHeld5 (fun hHeld => ?_)
  clear hK K
  (try simp only [Act.put, List.getElem_toArray, List.getElem_cons_succ, List.getElem_cons_zero, List.setIfInBounds_toArray, List.set_cons_zero, List.set_cons_succ])
  refine wpAnyH_ready (rs := [11]) (by kernel_rfl) (by simp) ?_
  refine (AllReadyH.cons rfl (fun K hK => ?_) AllReadyH.nil)
  go_simp
  refine hK.out _ _ hHeld (fun hHeld => ?_)
  clear hK K
  (try simp only [Act.put, List.getElem_toArray, List.getElem_cons_succ, List.getElem_cons_zero, List.setIfInBounds_toArray, List.set_cons_zero, List.set_cons_succ])
  refine wpAnyH_done (by kernel_rfl) ?_ _
  go_wp2_with fail
  refine ret_2 Try.results32 rfl (resVal.box rfl (((((HA8.out.put 0 _).put 1 _).put 2 _).put 3 _).put 4 _) Try.underlying33 rfl (by kernel_rfl)) (resVal.tmp rfl) ?_
  exact ap_end hTZ HS.out.tagLt HK1.out hsz1 HR2.out HS'.out HT'.out HK3.out hkp
end
end Go.Proofs.Ytehcfahfbdphpaa
