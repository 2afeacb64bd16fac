/- Layer 4: Send and Recv by both (conditions: none). -/
import Derived.Test.YtehcfahfbdphpaaSy40
namespace Go.Proofs.Ytehcfahfbdphpaa
open Go.RowKit Go.Shelf

section
variable {w : World} {T : Nat → Nat} {p : Nat} {S S' : SS} {vs : List Value} {R R' : RS} (hS : SyAt w T p S) (h : RV w noX vs R) {m t v : Int} {Z0 : Nat → Prop} (hTZ : ∀ g, T g ≠ 0 → Z0 g)
include hS h hTZ
set_option maxRecDepth 100000 in
set_option maxHeartbeats 1000000 in
theorem act_send {tt u no : Int} {ok : Bool} (hc : tt = -1 ∧ ok = false ∧ u = 0 ∨ 0 ≤ tt ∧ ok = true ∧ u = tt) (hz : ∀ W0, Kept noX w W0 → W0.heap.size = w.heap.size + 3 → Calls Try.prog 63 #[.agg vs.toArray, .int .i64 m, .int .i64 v] W0 fun e W' => (∃ vs', e = .returned (.tuple #[.agg vs'.toArray, .int .i64 tt, .int .i64 no]) ∧ RV W' (ZT Z0 w.heap.size (w.heap.size + 3)) vs' R') ∧ Kept noX W0 W')
    (hy : ∀ W1, SyAt W1 T p S → Calls Try.prog 19 #[.pointer (some ⟨p, 0, none⟩), .int .i64 m, .int .i64 v] W1 fun e W' => e = .returned (.tuple #[.int .i64 u, .bool ok, .int .i64 no]) ∧ SyTo W1 T p S' W') :
    Calls Try.prog 32 #[.pointer (some ⟨p, 0, none⟩), .agg vs.toArray, .agg #[.int .i64 5, .int .i64 m, .int .i64 t, .int .i64 v]] w (AP w T Z0 p S' R') := by
  have HC := Lib.hid hc
  obtain ⟨v0, v1, v2, v3, v4, rfl, h0, h1, h2, h3, h4⟩ := h
  obtain ⟨A0, n0, c0, rfl, hn0, -⟩ := h0.form
  obtain ⟨A1, n1, c1, rfl, hn1, -⟩ := h1.form
  obtain ⟨A2, n2, c2, rfl, hn2, -⟩ := h2.form
  obtain ⟨A3, n3, c3, rfl, hn3, -⟩ := h3.form
  obtain ⟨A4, n4, c4, rfl, hn4, -⟩ := h4.form
  rw [List.length_map] at hn0 hn1 hn2 hn3 hn4
  subst hn0 hn1 hn2 hn3 hn4
  have HR := Lib.hid (show RV w noX [.slice A0 R.ow.length c0, .slice A1 R.cs.length c1, .slice A2 R.rm.length c2, .slice A3 R.st.length c3, .slice A4 R.tk.length c4] R from ⟨_, _, _, _, _, rfl, h0, h1, h2, h3, h4⟩)
  have H0 := Lib.hid h0
  have H1 := Lib.hid h1
  have H2 := Lib.hid h2
  have H3 := Lib.hid h3
  have H4 := Lib.hid h4
  clear h0 h1 h2 h3 h4
  have HZ := Lib.hid hz
  have HY := Lib.hid hy
  have HS := Lib.hid hS
  clear hz hy hS hc
  go_enter Try.func32, Try.ntmps32
  go_wp2_with fail
  have hks := actW w [.slice A0 R.ow.length c0, .slice A1 R.cs.length c1, .slice A2 R.rm.length c2, .slice A3 R.st.length c3, .slice A4 R.tk.length c4] [.int .i64 5, .int .i64 m, .int .i64 t, .int .i64 v]
  obtain ⟨hk0, hsz, hB5, hA6⟩ := hks
  refine (HZ.out _ hk0 hsz).mono ?_
  rintro e W1 ⟨⟨vs', rfl, hR1⟩, hk1⟩
  replace hB5 := hB5.keep hk1
  replace hA6 := hA6.keep hk1
  have HK1 := Lib.hid (hk0.trans hk1)
  have hsz1 : w.heap.size + 1 + 1 < W1.heap.size := by have := hk1.size; omega
  have HR1 := Lib.hid hR1
  obtain ⟨v0', v1', v2', v3', v4', rfl, h0, h1, h2, h3, h4⟩ := hR1
  obtain ⟨B0, n0, e0, rfl, hn0, -⟩ := h0.form
  obtain ⟨B1, n1, e1, rfl, hn1, -⟩ := h1.form
  obtain ⟨B2, n2, e2, rfl, hn2, -⟩ := h2.form
  obtain ⟨B3, n3, e3, rfl, hn3, -⟩ := h3.form
  obtain ⟨B4, n4, e4, rfl, hn4, -⟩ := h4.form
  rw [List.length_map] at hn0 hn1 hn2 hn3 hn4
  subst hn0 hn1 hn2 hn3 hn4
  clear h0 h1 h2 h3 h4
  have y1 : ∀ x, (W1.alloc x).cell? ⟨w.heap.size + 1, 1, none⟩ = _ := fun x => ((Kept.refl noX W1).alloc x).cell (hB5.cell 1)
  have y3 : ∀ x, (W1.alloc x).cell? ⟨w.heap.size + 1, 3, none⟩ = _ := fun x => ((Kept.refl noX W1).alloc x).cell (hB5.cell 3)
  have hB8 := Cells.fresh W1 33 [.slice B0 R'.ow.length e0, .slice B1 R'.cs.length e1, .slice B2 R'.rm.length e2, .slice B3 R'.st.length e3, .slice B4 R'.tk.length e4]
  have hA7 := hA6.alloc (.cells #[.slice B0 R'.ow.length e0, .slice B1 R'.cs.length e1, .slice B2 R'.rm.length e2, .slice B3 R'.st.length e3, .slice B4 R'.tk.length e4] 33)
  have hk2 : Kept noX w (W1.alloc (.cells #[.slice B0 R'.ow.length e0, .slice B1 R'.cs.length e1, .slice B2 R'.rm.length e2, .slice B3 R'.st.length e3, .slice B4 R'.tk.length e4] 33)) := HK1.out.alloc _
  have hR2 := HR1.out.keep ((Kept.refl noX W1).alloc (.cells #[.slice B0 R'.ow.length e0, .slice B1 R'.cs.length e1, .slice B2 R'.rm.length e2, .slice B3 R'.st.length e3, .slice B4 R'.tk.length e4] 33))
  have hks1 := HK1.out.size
  have HB8 := Lib.hid hB8
  have HA7 := Lib.hid hA7
  have HK2 := Lib.hid hk2
  have HR2 := Lib.hid hR2
  clear hB8 hA7 hk2 hR2 hk0 hsz hk1 hB5 hA6 HR1
  go_wp2_with fail
  refine (HY.out _ (HS.out.keep HK2.out)).mono ?_
  rintro e W2 ⟨rfl, T', hS', hT', hk3⟩
  have hTs : ∀ g, T g ≠ 0 → g < w.heap.size := HS.out.tagLt
  have hB9 := HB8.out.kept hk3 (fun h => by have := hTs _ h; omega)
  have hA8 := HA7.out.kept hk3 (fun h => by have := hTs _ h; omega)
  have k0 := hB9.cell 0
  have a0 := hA8.cell 0
  have f0 := hA8.free 0
  have k1 := hB9.cell 1
  have a1 := hA8.cell 1
  have f1 := hA8.free 1
  have k2 := hB9.cell 2
  have a2 := hA8.cell 2
  have f2 := hA8.free 2
  have k3 := hB9.cell 3
  have a3 := hA8.cell 3
  have f3 := hA8.free 3
  have k4 := hB9.cell 4
  have a4 := hA8.cell 4
  have f4 := hA8.free 4
  simp only [z5, List.getElem?_cons_zero, List.getElem?_cons_succ] at k0 k1 k2 k3 k4 a0 a1 a2 a3 a4
  have HA8 := Lib.hid hA8
  have HS' := Lib.hid hS'
  have HT' := Lib.hid hT'
  have HK3 := Lib.hid hk3
  clear hA8 hB9 hS' hT' hk3
  go_wp2_with fail
  refine wp_region_held_drew (S := (fun w' => w'.cell? ⟨W1.heap.size, 0, none⟩ = some (.slice B0 R'.ow.length e0) ∧ w'.cell? ⟨W1.heap.size, 1, none⟩ = some (.slice B1 R'.cs.length e1) ∧ w'.cell? ⟨W1.heap.size, 2, none⟩ = some (.slice B2 R'.rm.length e2) ∧ w'.cell? ⟨W1.heap.size, 3, none⟩ = some (.slice B3 R'.st.length e3) ∧ w'.cell? ⟨W1.heap.size, 4, none⟩ = some (.slice B4 R'.tk.length e4))) (by kernel_rfl) ⟨k0, k1, k2, k3, k4⟩ (fun hHeld => ?_)
  rcases HC.out with ⟨rfl, rfl, rfl⟩ | ⟨htt, rfl, rfl⟩
  · skip
    refine wpAnyH_take (i := 0) (v := ?_) rfl (by kernel_rfl) (by kernel_rfl) (by kernel_rfl) (fun _ _ _ h => h) (Or.inl ⟨by rfl, ?_⟩) (by assumption) ?_
    rotate_left
    · intro wS hSw
      (try dsimp only at hSw)
      go_simp
      (try with_reducible rfl)
    refine wpAnyH_take (i := 1) (v := ?_) rfl (by kernel_rfl) (by kernel_rfl) (by kernel_rfl) (fun _ _ _ h => h) (Or.inl ⟨by rfl, ?_⟩) (by assumption) ?_
    rotate_left
    · intro wS hSw
      (try dsimp only at hSw)
      go_simp
      (try with_reducible rfl)
    refine wpAnyH_take (i := 2) (v := ?_) rfl (by kernel_rfl) (by kernel_rfl) (by kernel_rfl) (fun _ _ _ h => h) (Or.inl ⟨by rfl, ?_⟩) (by assumption) ?_
    rotate_left
    · intro wS hSw
      (try dsimp only at hSw)
      go_simp
      (try with_reducible rfl)
    refine wpAnyH_take (i := 3) (v := ?_) rfl (by kernel_rfl) (by kernel_rfl) (by kernel_rfl) (fun _ _ _ h => h) (Or.inl ⟨by rfl, ?_⟩) (by assumption) ?_
    rotate_left
    · intro wS hSw
      (try dsimp only at hSw)
      go_simp
      (try with_reducible rfl)
    (try simp only [Act.put, List.getElem_toArray, List.getElem_cons_succ, List.getElem_cons_zero, List.setIfInBounds_toArray, List.set_cons_zero, List.set_cons_succ])
    refine wpAnyH_take (i := 4) (v := ?_) rfl (by kernel_rfl) (by kernel_rfl) (by kernel_rfl) (fun _ _ _ h => h) (Or.inl ⟨by rfl, ?_⟩) (by assumption) ?_
    rotate_left
    · intro wS hSw
      (try dsimp only at hSw)
      go_simp
      (try with_reducible rfl)
    refine wpAnyH_take (i := 5) (v := ?_) rfl (by kernel_rfl) (by kernel_rfl) (by kernel_rfl) (fun _ _ _ h => h) (Or.inl ⟨by rfl, ?_⟩) (by assumption) ?_
    rotate_left
    · intro wS hSw
      (try dsimp only at hSw)
      go_simp
      (try with_reducible rfl)
    (try simp only [Act.put, List.getElem_toArray, List.getElem_cons_succ, List.getElem_cons_zero, List.setIfInBounds_toArray, List.set_cons_zero, List.set_cons_succ])
    refine wpAnyH_take (i := 6) (v := ?_) rfl (by kernel_rfl) (by kernel_rfl) (by kernel_rfl) (fun _ _ _ h => h) (Or.inl ⟨by rfl, ?_⟩) (by assumption) ?_
    rotate_left
    · intro wS hSw
      (try dsimp only at hSw)
      go_simp
      (try with_reducible rfl)
    refine wpAnyH_take (i := 7) (v := ?_) rfl (by kernel_rfl) (by kernel_rfl) (by kernel_rfl) (fun _ _ _ h => h) (Or.inl ⟨by rfl, ?_⟩) (by assumption) ?_
    rotate_left
    · intro wS hSw
      (try dsimp only at hSw)
      go_simp
      (try with_reducible rfl)
    (try simp only [Act.put, List.getElem_toArray, List.getElem_cons_succ, List.getElem_cons_zero, List.setIfInBounds_toArray, List.set_cons_zero, List.set_cons_succ])
    refine wpAnyH_take (i := 8) (v := ?_) rfl (by kernel_rfl) (by kernel_rfl) (by kernel_rfl) (fun _ _ _ h => h) (Or.inl ⟨by rfl, ?_⟩) (by assumption) ?_
    rotate_left
    · intro wS hSw
      (try dsimp only at hSw)
      go_simp
      (try with_reducible rfl)
    (try simp only [Act.put, List.getElem_toArray, List.getElem_cons_succ, List.getElem_cons_zero, List.setIfInBounds_toArray, List.set_cons_zero, List.set_cons_succ])
    refine wpAnyH_take (i := 9) (v := ?_) rfl (by kernel_rfl) (by kernel_rfl) (by kernel_rfl) (fun _ _ _ h => h) (Or.inl ⟨by rfl, ?_⟩) (by assumption) ?_
    rotate_left
    · intro wS hSw
      (try dsimp only at hSw)
      go_simp
      (try with_reducible rfl)
    refine wpAnyH_take (i := 10) (v := ?_) rfl (by kernel_rfl) (by kernel_rfl) (by kernel_rfl) (fun _ _ _ h => h) (Or.inl ⟨by rfl, ?_⟩) (by assumption) ?_
    rotate_left
    · intro wS hSw
      (try dsimp only at hSw)
      go_simp
      (try with_reducible rfl)
    refine wpAnyH_take (i := 11) (v := ?_) rfl (by kernel_rfl) (by kernel_rfl) (by kernel_rfl) (fun _ _ _ h => h) (Or.inl ⟨by rfl, ?_⟩) (by assumption) ?_
    rotate_left
    · intro wS hSw
      (try dsimp only at hSw)
      go_simp
      (try with_reducible rfl)
    (try simp only [Act.put, List.getElem_toArray, List.getElem_cons_succ, List.getElem_cons_zero, List.setIfInBounds_toArray, List.set_cons_zero, List.set_cons_succ])
    refine wpAnyH_take (i := 12) (v := ?_) rfl (by kernel_rfl) (by kernel_rfl) (by kernel_rfl) (fun _ _ _ h => h) (Or.inl ⟨by rfl, ?_⟩) (by assumption) ?_
    rotate_left
    · intro wS hSw
      (try dsimp only at hSw)
      go_simp
      (try with_reducible rfl)
    refine wpAnyH_take (i := 14) (v := ?_) rfl (by kernel_rfl) (by kernel_rfl) (by kernel_rfl) (fun _ _ _ h => h) (Or.inl ⟨by rfl, ?_⟩) (by assumption) ?_
    rotate_left
    · intro wS hSw
      (try dsimp only at hSw)
      go_simp
      (try with_reducible rfl)
    (try simp only [Act.put, List.getElem_toArray, List.getElem_cons_succ, List.getElem_cons_zero, List.setIfInBounds_toArray, List.set_cons_zero, List.set_cons_succ])
    refine wpAnyH_ready (rs := [13]) (by kernel_rfl) (by simp) ?_
    refine (AllReadyH.cons rfl (fun K hK => ?_) AllReadyH.nil)
    go_simp
    refine (num_any no _).mono ?_
    rintro e Wn ⟨rfl, rfl⟩
    refine hK.out _ _ hHeld (fun hHeld => ?_)
    clear hK K
    (try simp only [Act.put, List.getElem_toArray, List.getElem_cons_succ, List.getElem_cons_zero, List.setIfInBounds_toArray, List.set_cons_zero, List.set_cons_succ])
    refine wpAnyH_take (i := 15) (v := ?_) rfl (by kernel_rfl) (by kernel_rfl) (by kernel_rfl) (fun _ _ _ h => h) (Or.inl ⟨by rfl, ?_⟩) (by assumption) ?_
    rotate_left
    · intro wS hSw
      (try dsimp only at hSw)
      go_simp
      (try with_reducible rfl)
    refine wpAnyH_take (i := 16) (v := ?_) rfl (by kernel_rfl) (by kernel_rfl) (by kernel_rfl) (fun _ _ _ h => h) (Or.inl ⟨by rfl, ?_⟩) (by assumption) ?_
    rotate_left
    · intro wS hSw
      (try dsimp only at hSw)
      go_simp
      (try with_reducible rfl)
    (try simp only [Act.put, List.getElem_toArray, List.getElem_cons_succ, List.getElem_cons_zero, List.setIfInBounds_toArray, List.set_cons_zero, List.set_cons_succ])
    refine wpAnyH_ready (rs := [17]) (by kernel_rfl) (by simp) ?_
    refine (AllReadyH.cons rfl (fun K hK => ?_) AllReadyH.nil)
    go_simp
    have hkp : Kept (· = w.heap.size + 1 + 1) W2 (((((W2.setCell ⟨w.heap.size + 1 + 1, 0, none⟩ (.slice B0 R'.ow.length e0)).setCell ⟨w.heap.size + 1 + 1, 1, none⟩ (.slice B1 R'.cs.length e1)).setCell ⟨w.heap.size + 1 + 1, 2, none⟩ (.slice B2 R'.rm.length e2)).setCell ⟨w.heap.size + 1 + 1, 3, none⟩ (.slice B3 R'.st.length e3)).setCell ⟨w.heap.size + 1 + 1, 4, none⟩ (.slice B4 R'.tk.length e4)).drew := (Kept.put5 _ _ _ _ _ _ _).drew
    have hfar : ¬ W1.heap.size = w.heap.size + 1 + 1 := by omega
    have hHeld3 := (⟨hkp.cell_far k0 hfar, hkp.cell_far k1 hfar, hkp.cell_far k2 hfar, hkp.cell_far k3 hfar, hkp.cell_far k4 hfar⟩ : _ ∧ _ ∧ _ ∧ _ ∧ _)
    refine hK.out _ _ hHeld3 (fun hHeld => ?_)
    clear hK K
    (try simp only [Act.put, List.getElem_toArray, List.getElem_cons_succ, List.getElem_cons_zero, List.setIfInBounds_toArray, List.set_cons_zero, List.set_cons_succ])
    refine wpAnyH_ready (rs := [18]) (by kernel_rfl) (by simp) ?_
    refine (AllReadyH.cons rfl (fun K hK => ?_) AllReadyH.nil)
    go_simp
    refine hK.out _ _ hHeld (fun hHeld => ?_)
    clear hK K
    (try simp only [Act.put, List.getElem_toArray, List.getElem_cons_succ, List.getElem_cons_zero, List.setIfInBounds_toArray, List.set_cons_zero, List.set_cons_succ])
    refine wpAnyH_done (by kernel_rfl) ?_ _
    go_wp2_with fail
    refine ret_2 Try.results32 rfl (resVal.box rfl (((((HA8.out.put 0 _).put 1 _).put 2 _).put 3 _).put 4 _).drew Try.underlying33 rfl (by kernel_rfl)) (resVal.tmp rfl) ?_
    exact ap_end hTZ HS.out.tagLt HK1.out hsz1 HR2.out HS'.out HT'.out HK3.out hkp
  · have hd0 : decide ((0 : Int) ≤ u) = true := by simpa using htt
    have hmx : max u 0 = u := by omega
    have hd1 : ¬ u < 0 := by omega
    refine wpAnyH_take (i := 0) (v := ?_) rfl (by kernel_rfl) (by kernel_rfl) (by kernel_rfl) (fun _ _ _ h => h) (Or.inl ⟨by rfl, ?_⟩) (by assumption) ?_
    rotate_left
    · intro wS hSw
      (try dsimp only at hSw)
      go_simp
      (try with_reducible rfl)
    refine wpAnyH_take (i := 1) (v := ?_) rfl (by kernel_rfl) (by kernel_rfl) (by kernel_rfl) (fun _ _ _ h => h) (Or.inl ⟨by rfl, ?_⟩) (by assumption) ?_
    rotate_left
    · intro wS hSw
      (try dsimp only at hSw)
      go_simp
      (try with_reducible rfl)
    refine wpAnyH_take (i := 2) (v := ?_) rfl (by kernel_rfl) (by kernel_rfl) (by kernel_rfl) (fun _ _ _ h => h) (Or.inl ⟨by rfl, ?_⟩) (by assumption) ?_
    rotate_left
    · intro wS hSw
      (try dsimp only at hSw)
      go_simp
      (try with_reducible rfl)
    refine wpAnyH_take (i := 3) (v := ?_) rfl (by kernel_rfl) (by kernel_rfl) (by kernel_rfl) (fun _ _ _ h => h) (Or.inl ⟨by rfl, ?_⟩) (by assumption) ?_
    rotate_left
    · intro wS hSw
      (try dsimp only at hSw)
      go_simp
      (try with_reducible rfl)
    (try simp only [Act.put, List.getElem_toArray, List.getElem_cons_succ, List.getElem_cons_zero, List.setIfInBounds_toArray, List.set_cons_zero, List.set_cons_succ])
    refine wpAnyH_take (i := 4) (v := ?_) rfl (by kernel_rfl) (by kernel_rfl) (by kernel_rfl) (fun _ _ _ h => h) (Or.inl ⟨by rfl, ?_⟩) (by assumption) ?_
    rotate_left
    · intro wS hSw
      (try dsimp only at hSw)
      go_simp
      (try with_reducible rfl)
    refine wpAnyH_take (i := 5) (v := ?_) rfl (by kernel_rfl) (by kernel_rfl) (by kernel_rfl) (fun _ _ _ h => h) (Or.inl ⟨by rfl, ?_⟩) (by assumption) ?_
    rotate_left
    · intro wS hSw
      (try dsimp only at hSw)
      go_simp
      (try with_reducible rfl)
    (try simp only [Act.put, List.getElem_toArray, List.getElem_cons_succ, List.getElem_cons_zero, List.setIfInBounds_toArray, List.set_cons_zero, List.set_cons_succ])
    refine wpAnyH_take (i := 6) (v := ?_) rfl (by kernel_rfl) (by kernel_rfl) (by kernel_rfl) (fun _ _ _ h => h) (Or.inl ⟨by rfl, ?_⟩) (by assumption) ?_
    rotate_left
    · intro wS hSw
      (try dsimp only at hSw)
      go_simp
      (try with_reducible rfl)
    refine wpAnyH_take (i := 7) (v := ?_) rfl (by kernel_rfl) (by kernel_rfl) (by kernel_rfl) (fun _ _ _ h => h) (Or.inl ⟨by rfl, ?_⟩) (by assumption) ?_
    rotate_left
    · intro wS hSw
      (try dsimp only at hSw)
      go_simp
      (try with_reducible rfl)
    (try simp only [Act.put, List.getElem_toArray, List.getElem_cons_succ, List.getElem_cons_zero, List.setIfInBounds_toArray, List.set_cons_zero, List.set_cons_succ])
    refine wpAnyH_take (i := 8) (v := ?_) rfl (by kernel_rfl) (by kernel_rfl) (by kernel_rfl) (fun _ _ _ h => h) (Or.inl ⟨by rfl, ?_⟩) (by assumption) ?_
    rotate_left
    · intro wS hSw
      (try dsimp only at hSw)
      go_simp
      (try with_reducible rfl)
    (try simp only [Act.put, List.getElem_toArray, List.getElem_cons_succ, List.getElem_cons_zero, List.setIfInBounds_toArray, List.set_cons_zero, List.set_cons_succ])
    refine wpAnyH_take (i := 9) (v := ?_) rfl (by kernel_rfl) (by kernel_rfl) (by kernel_rfl) (fun _ _ _ h => h) (Or.inl ⟨by rfl, ?_⟩) (by assumption) ?_
    rotate_left
    · intro wS hSw
      (try dsimp only at hSw)
      go_simp
      (try with_reducible rfl)
    refine wpAnyH_take (i := 10) (v := ?_) rfl (by kernel_rfl) (by kernel_rfl) (by kernel_rfl) (fun _ _ _ h => h) (Or.inl ⟨by rfl, ?_⟩) (by assumption) ?_
    rotate_left
    · intro wS hSw
      (try dsimp only at hSw)
      go_simp
      (try with_reducible rfl)
    refine wpAnyH_take (i := 11) (v := ?_) rfl (by kernel_rfl) (by kernel_rfl) (by kernel_rfl) (fun _ _ _ h => h) (Or.inl ⟨by rfl, ?_⟩) (by assumption) ?_
    rotate_left
    · intro wS hSw
      (try dsimp only at hSw)
      go_simp
      (try with_reducible rfl)
    (try simp only [Act.put, List.getElem_toArray, List.getElem_cons_succ, List.getElem_cons_zero, List.setIfInBounds_toArray, List.set_cons_zero, List.set_cons_succ])
    refine wpAnyH_take (i := 12) (v := ?_) rfl (by kernel_rfl) (by kernel_rfl) (by kernel_rfl) (fun _ _ _ h => h) (Or.inl ⟨by rfl, ?_⟩) (by assumption) ?_
    rotate_left
    · intro wS hSw
      (try dsimp only at hSw)
      go_simp
      (try with_reducible rfl)
    refine wpAnyH_take (i := 14) (v := ?_) rfl (by kernel_rfl) (by kernel_rfl) (by kernel_rfl) (fun _ _ _ h => h) (Or.inl ⟨by rfl, ?_⟩) (by assumption) ?_
    rotate_left
    · intro wS hSw
      (try dsimp only at hSw)
      go_simp
      (try with_reducible rfl)
    (try simp only [Act.put, List.getElem_toArray, List.getElem_cons_succ, List.getElem_cons_zero, List.setIfInBounds_toArray, List.set_cons_zero, List.set_cons_succ])
    refine wpAnyH_ready (rs := [13]) (by kernel_rfl) (by simp) ?_
    refine (AllReadyH.cons rfl (fun K hK => ?_) AllReadyH.nil)
    go_simp
    refine (num_any no _).mono ?_
    rintro e Wn ⟨rfl, rfl⟩
    refine hK.out _ _ hHeld (fun hHeld => ?_)
    clear hK K
    (try simp only [Act.put, List.getElem_toArray, List.getElem_cons_succ, List.getElem_cons_zero, List.setIfInBounds_toArray, List.set_cons_zero, List.set_cons_succ])
    refine wpAnyH_take (i := 15) (v := ?_) rfl (by kernel_rfl) (by kernel_rfl) (by kernel_rfl) (fun _ _ _ h => h) (Or.inl ⟨by rfl, ?_⟩) (by assumption) ?_
    rotate_left
    · intro wS hSw
      (try dsimp only at hSw)
      go_simp
      (try with_reducible rfl)
    refine wpAnyH_take (i := 16) (v := ?_) rfl (by kernel_rfl) (by kernel_rfl) (by kernel_rfl) (fun _ _ _ h => h) (Or.inl ⟨by rfl, ?_⟩) (by assumption) ?_
    rotate_left
    · intro wS hSw
      (try dsimp only at hSw)
      go_simp
      (try with_reducible rfl)
    (try simp only [Act.put, List.getElem_toArray, List.getElem_cons_succ, List.getElem_cons_zero, List.setIfInBounds_toArray, List.set_cons_zero, List.set_cons_succ])
    refine wpAnyH_ready (rs := [17]) (by kernel_rfl) (by simp) ?_
    refine (AllReadyH.cons rfl (fun K hK => ?_) AllReadyH.nil)
    go_simp
    have hkp : Kept (· = w.heap.size + 1 + 1) W2 (((((W2.setCell ⟨w.heap.size + 1 + 1, 0, none⟩ (.slice B0 R'.ow.length e0)).setCell ⟨w.heap.size + 1 + 1, 1, none⟩ (.slice B1 R'.cs.length e1)).setCell ⟨w.heap.size + 1 + 1, 2, none⟩ (.slice B2 R'.rm.length e2)).setCell ⟨w.heap.size + 1 + 1, 3, none⟩ (.slice B3 R'.st.length e3)).setCell ⟨w.heap.size + 1 + 1, 4, none⟩ (.slice B4 R'.tk.length e4)).drew := (Kept.put5 _ _ _ _ _ _ _).drew
    have hfar : ¬ W1.heap.size = w.heap.size + 1 + 1 := by omega
    have hHeld3 := (⟨hkp.cell_far k0 hfar, hkp.cell_far k1 hfar, hkp.cell_far k2 hfar, hkp.cell_far k3 hfar, hkp.cell_far k4 hfar⟩ : _ ∧ _ ∧ _ ∧ _ ∧ _)
    refine hK.out _ _ hHeld3 (fun hHeld => ?_)
    clear hK K
    (try simp only [Act.put, List.getElem_toArray, List.getElem_cons_succ, List.getElem_cons_zero, List.setIfInBounds_toArray, List.set_cons_zero, List.set_cons_succ])
    refine wpAnyH_ready (rs := [18]) (by kernel_rfl) (by simp) ?_
    refine (AllReadyH.cons rfl (fun K hK => ?_) AllReadyH.nil)
    go_simp
    refine hK.out _ _ hHeld (fun hHeld => ?_)
    clear hK K
    (try simp only [Act.put, List.getElem_toArray, List.getElem_cons_succ, List.getElem_cons_zero, List.setIfInBounds_toArray, List.set_cons_zero, List.set_cons_succ])
    refine wpAnyH_done (by kernel_rfl) ?_ _
    go_wp2_with fail
    refine ret_2 Try.results32 rfl (resVal.box rfl (((((HA8.out.put 0 _).put 1 _).put 2 _).put 3 _).put 4 _).drew Try.underlying33 rfl (by kernel_rfl)) (resVal.tmp rfl) ?_
    exact ap_end hTZ HS.out.tagLt HK1.out hsz1 HR2.out HS'.out HT'.out HK3.out hkp
end
end Go.Proofs.Ytehcfahfbdphpaa
namespace Go.Proofs.Ytehcfahfbdphpaa
open Go.RowKit Go.Shelf

section
variable {w : World} {T : Nat → Nat} {p : Nat} {S S' : SS} {vs : List Value} {R R' : RS} (hS : SyAt w T p S) (h : RV w noX vs R) {m t v q : Int} {Z0 : Nat → Prop} (hTZ : ∀ g, T g ≠ 0 → Z0 g)
include hS h hTZ
set_option maxRecDepth 100000 in
set_option maxHeartbeats 1000000 in
theorem act_recv (hq : (q == 0) = false ∧ (q == 1) = false ∧ (q == 2) = false ∧ (q == 3) = false ∧ (q == 4) = false ∧ (q == 5) = false) {tt u no y : Int} {ok : Bool} (hc : tt = -1 ∧ ok = false ∧ u = 0 ∨ 0 ≤ tt ∧ ok = true ∧ u = tt) (hz : ∀ W0, Kept noX w W0 → W0.heap.size = w.heap.size + 3 → Calls Try.prog 64 #[.agg vs.toArray, .int .i64 m] W0 fun e W' => (∃ vs', e = .returned (.tuple #[.agg vs'.toArray, .int .i64 y, .int .i64 tt, .int .i64 no]) ∧ RV W' (ZT Z0 w.heap.size (w.heap.size + 3)) vs' R') ∧ Kept noX W0 W')
    (hy : ∀ W1, SyAt W1 T p S → Calls Try.prog 20 #[.pointer (some ⟨p, 0, none⟩), .int .i64 m] W1 fun e W' => e = .returned (.tuple #[.int .i64 y, .int .i64 u, .bool ok, .int .i64 no]) ∧ SyTo W1 T p S' W') :
    Calls Try.prog 32 #[.pointer (some ⟨p, 0, none⟩), .agg vs.toArray, .agg #[.int .i64 q, .int .i64 m, .int .i64 t, .int .i64 v]] w (AP w T Z0 p S' R') := by
  have HC := Lib.hid hc
  obtain ⟨v0, v1, v2, v3, v4, rfl, h0, h1, h2, h3, h4⟩ := h
  obtain ⟨A0, n0, c0, rfl, hn0, -⟩ := h0.form
  obtain ⟨A1, n1, c1, rfl, hn1, -⟩ := h1.form
  obtain ⟨A2, n2, c2, rfl, hn2, -⟩ := h2.form
  obtain ⟨A3, n3, c3, rfl, hn3, -⟩ := h3.form
  obtain ⟨A4, n4, c4, rfl, hn4, -⟩ := h4.form
  rw [List.length_map] at hn0 hn1 hn2 hn3 hn4
  subst hn0 hn1 hn2 hn3 hn4
  have HR := Lib.hid (show RV w noX [.slice A0 R.ow.length c0, .slice A1 R.cs.length c1, .slice A2 R.rm.length c2, .slice A3 R.st.length c3, .slice A4 R.tk.length c4] R from ⟨_, _, _, _, _, rfl, h0, h1, h2, h3, h4⟩)
  have H0 := Lib.hid h0
  have H1 := Lib.hid h1
  have H2 := Lib.hid h2
  have H3 := Lib.hid h3
  have H4 := Lib.hid h4
  clear h0 h1 h2 h3 h4
  have HZ := Lib.hid hz
  have HY := Lib.hid hy
  have HS := Lib.hid hS
  clear hz hy hS hc
  obtain ⟨q0, q1, q2, q3, q4, q5⟩ := hq
  go_enter Try.func32, Try.ntmps32
  go_wp2_with fail
  have hks := actW w [.slice A0 R.ow.length c0, .slice A1 R.cs.length c1, .slice A2 R.rm.length c2, .slice A3 R.st.length c3, .slice A4 R.tk.length c4] [.int .i64 q, .int .i64 m, .int .i64 t, .int .i64 v]
  obtain ⟨hk0, hsz, hB5, hA6⟩ := hks
  refine (HZ.out _ hk0 hsz).mono ?_
  rintro e W1 ⟨⟨vs', rfl, hR1⟩, hk1⟩
  replace hB5 := hB5.keep hk1
  replace hA6 := hA6.keep hk1
  have HK1 := Lib.hid (hk0.trans hk1)
  have hsz1 : w.heap.size + 1 + 1 < W1.heap.size := by have := hk1.size; omega
  have HR1 := Lib.hid hR1
  obtain ⟨v0', v1', v2', v3', v4', rfl, h0, h1, h2, h3, h4⟩ := hR1
  obtain ⟨B0, n0, e0, rfl, hn0, -⟩ := h0.form
  obtain ⟨B1, n1, e1, rfl, hn1, -⟩ := h1.form
  obtain ⟨B2, n2, e2, rfl, hn2, -⟩ := h2.form
  obtain ⟨B3, n3, e3, rfl, hn3, -⟩ := h3.form
  obtain ⟨B4, n4, e4, rfl, hn4, -⟩ := h4.form
  rw [List.length_map] at hn0 hn1 hn2 hn3 hn4
  subst hn0 hn1 hn2 hn3 hn4
  clear h0 h1 h2 h3 h4
  have y1 : ∀ x, (W1.alloc x).cell? ⟨w.heap.size + 1, 1, none⟩ = _ := fun x => ((Kept.refl noX W1).alloc x).cell (hB5.cell 1)
  have hB8 := Cells.fresh W1 33 [.slice B0 R'.ow.length e0, .slice B1 R'.cs.length e1, .slice B2 R'.rm.length e2, .slice B3 R'.st.length e3, .slice B4 R'.tk.length e4]
  have hA7 := hA6.alloc (.cells #[.slice B0 R'.ow.length e0, .slice B1 R'.cs.length e1, .slice B2 R'.rm.length e2, .slice B3 R'.st.length e3, .slice B4 R'.tk.length e4] 33)
  have hk2 : Kept noX w (W1.alloc (.cells #[.slice B0 R'.ow.length e0, .slice B1 R'.cs.length e1, .slice B2 R'.rm.length e2, .slice B3 R'.st.length e3, .slice B4 R'.tk.length e4] 33)) := HK1.out.alloc _
  have hR2 := HR1.out.keep ((Kept.refl noX W1).alloc (.cells #[.slice B0 R'.ow.length e0, .slice B1 R'.cs.length e1, .slice B2 R'.rm.length e2, .slice B3 R'.st.length e3, .slice B4 R'.tk.length e4] 33))
  have hks1 := HK1.out.size
  have HB8 := Lib.hid hB8
  have HA7 := Lib.hid hA7
  have HK2 := Lib.hid hk2
  have HR2 := Lib.hid hR2
  clear hB8 hA7 hk2 hR2 hk0 hsz hk1 hB5 hA6 HR1
  go_wp2_with fail
  refine (HY.out _ (HS.out.keep HK2.out)).mono ?_
  rintro e W2 ⟨rfl, T', hS', hT', hk3⟩
  have hTs : ∀ g, T g ≠ 0 → g < w.heap.size := HS.out.tagLt
  have hB9 := HB8.out.kept hk3 (fun h => by have := hTs _ h; omega)
  have hA8 := HA7.out.kept hk3 (fun h => by have := hTs _ h; omega)
  have k0 := hB9.cell 0
  have a0 := hA8.cell 0
  have f0 := hA8.free 0
  have k1 := hB9.cell 1
  have a1 := hA8.cell 1
  have f1 := hA8.free 1
  have k2 := hB9.cell 2
  have a2 := hA8.cell 2
  have f2 := hA8.free 2
  have k3 := hB9.cell 3
  have a3 := hA8.cell 3
  have f3 := hA8.free 3
  have k4 := hB9.cell 4
  have a4 := hA8.cell 4
  have f4 := hA8.free 4
  simp only [z5, List.getElem?_cons_zero, List.getElem?_cons_succ] at k0 k1 k2 k3 k4 a0 a1 a2 a3 a4
  have HA8 := Lib.hid hA8
  have HS' := Lib.hid hS'
  have HT' := Lib.hid hT'
  have HK3 := Lib.hid hk3
  clear hA8 hB9 hS' hT' hk3
  go_wp2_with fail
  refine wp_region_held_drew (S := (fun w' => w'.cell? ⟨W1.heap.size, 0, none⟩ = some (.slice B0 R'.ow.length e0) ∧ w'.cell? ⟨W1.heap.size, 1, none⟩ = some (.slice B1 R'.cs.length e1) ∧ w'.cell? ⟨W1.heap.size, 2, none⟩ = some (.slice B2 R'.rm.length e2) ∧ w'.cell? ⟨W1.heap.size, 3, none⟩ = some (.slice B3 R'.st.length e3) ∧ w'.cell? ⟨W1.heap.size, 4, none⟩ = some (.slice B4 R'.tk.length e4))) (by kernel_rfl) ⟨k0, k1, k2, k3, k4⟩ (fun hHeld => ?_)
  rcases HC.out with ⟨rfl, rfl, rfl⟩ | ⟨htt, rfl, rfl⟩
  · skip
    refine wpAnyH_take (i := 0) (v := ?_) rfl (by kernel_rfl) (by kernel_rfl) (by kernel_rfl) (fun _ _ _ h => h) (Or.inl ⟨by rfl, ?_⟩) (by assumption) ?_
    rotate_left
    · intro wS hSw
      (try dsimp only at hSw)
      go_simp
      (try with_reducible rfl)
    refine wpAnyH_take (i := 1) (v := ?_) rfl (by kernel_rfl) (by kernel_rfl) (by kernel_rfl) (fun _ _ _ h => h) (Or.inl ⟨by rfl, ?_⟩) (by assumption) ?_
    rotate_left
    · intro wS hSw
      (try dsimp only at hSw)
      go_simp
      (try with_reducible rfl)
    refine wpAnyH_take (i := 2) (v := ?_) rfl (by kernel_rfl) (by kernel_rfl) (by kernel_rfl) (fun _ _ _ h => h) (Or.inl ⟨by rfl, ?_⟩) (by assumption) ?_
    rotate_left
    · intro wS hSw
      (try dsimp only at hSw)
      go_simp
      (try with_reducible rfl)
    refine wpAnyH_take (i := 3) (v := ?_) rfl (by kernel_rfl) (by kernel_rfl) (by kernel_rfl) (fun _ _ _ h => h) (Or.inl ⟨by rfl, ?_⟩) (by assumption) ?_
    rotate_left
    · intro wS hSw
      (try dsimp only at hSw)
      go_simp
      (try with_reducible rfl)
    (try simp only [Act.put, List.getElem_toArray, List.getElem_cons_succ, List.getElem_cons_zero, List.setIfInBounds_toArray, List.set_cons_zero, List.set_cons_succ])
    refine wpAnyH_take (i := 4) (v := ?_) rfl (by kernel_rfl) (by kernel_rfl) (by kernel_rfl) (fun _ _ _ h => h) (Or.inl ⟨by rfl, ?_⟩) (by assumption) ?_
    rotate_left
    · intro wS hSw
      (try dsimp only at hSw)
      go_simp
      (try with_reducible rfl)
    refine wpAnyH_take (i := 5) (v := ?_) rfl (by kernel_rfl) (by kernel_rfl) (by kernel_rfl) (fun _ _ _ h => h) (Or.inl ⟨by rfl, ?_⟩) (by assumption) ?_
    rotate_left
    · intro wS hSw
      (try dsimp only at hSw)
      go_simp
      (try with_reducible rfl)
    (try simp only [Act.put, List.getElem_toArray, List.getElem_cons_succ, List.getElem_cons_zero, List.setIfInBounds_toArray, List.set_cons_zero, List.set_cons_succ])
    refine wpAnyH_take (i := 6) (v := ?_) rfl (by kernel_rfl) (by kernel_rfl) (by kernel_rfl) (fun _ _ _ h => h) (Or.inl ⟨by rfl, ?_⟩) (by assumption) ?_
    rotate_left
    · intro wS hSw
      (try dsimp only at hSw)
      go_simp
      (try with_reducible rfl)
    refine wpAnyH_take (i := 7) (v := ?_) rfl (by kernel_rfl) (by kernel_rfl) (by kernel_rfl) (fun _ _ _ h => h) (Or.inl ⟨by rfl, ?_⟩) (by assumption) ?_
    rotate_left
    · intro wS hSw
      (try dsimp only at hSw)
      go_simp
      (try with_reducible rfl)
    (try simp only [Act.put, List.getElem_toArray, List.getElem_cons_succ, List.getElem_cons_zero, List.setIfInBounds_toArray, List.set_cons_zero, List.set_cons_succ])
    refine wpAnyH_take (i := 8) (v := ?_) rfl (by kernel_rfl) (by kernel_rfl) (by kernel_rfl) (fun _ _ _ h => h) (Or.inl ⟨by rfl, ?_⟩) (by assumption) ?_
    rotate_left
    · intro wS hSw
      (try dsimp only at hSw)
      go_simp
      (try with_reducible rfl)
    refine wpAnyH_take (i := 9) (v := ?_) rfl (by kernel_rfl) (by kernel_rfl) (by kernel_rfl) (fun _ _ _ h => h) (Or.inl ⟨by rfl, ?_⟩) (by assumption) ?_
    rotate_left
    · intro wS hSw
      (try dsimp only at hSw)
      go_simp
      (try with_reducible rfl)
    refine wpAnyH_take (i := 10) (v := ?_) rfl (by kernel_rfl) (by kernel_rfl) (by kernel_rfl) (fun _ _ _ h => h) (Or.inl ⟨by rfl, ?_⟩) (by assumption) ?_
    rotate_left
    · intro wS hSw
      (try dsimp only at hSw)
      go_simp
      (try with_reducible rfl)
    (try simp only [Act.put, List.getElem_toArray, List.getElem_cons_succ, List.getElem_cons_zero, List.setIfInBounds_toArray, List.set_cons_zero, List.set_cons_succ])
    refine wpAnyH_take (i := 11) (v := ?_) rfl (by kernel_rfl) (by kernel_rfl) (by kernel_rfl) (fun _ _ _ h => h) (Or.inl ⟨by rfl, ?_⟩) (by assumption) ?_
    rotate_left
    · intro wS hSw
      (try dsimp only at hSw)
      go_simp
      (try with_reducible rfl)
    refine wpAnyH_take (i := 12) (v := ?_) rfl (by kernel_rfl) (by kernel_rfl) (by kernel_rfl) (fun _ _ _ h => h) (Or.inl ⟨by rfl, ?_⟩) (by assumption) ?_
    rotate_left
    · intro wS hSw
      (try dsimp only at hSw)
      go_simp
      (try with_reducible rfl)
    (try simp only [Act.put, List.getElem_toArray, List.getElem_cons_succ, List.getElem_cons_zero, List.setIfInBounds_toArray, List.set_cons_zero, List.set_cons_succ])
    refine wpAnyH_take (i := 13) (v := ?_) rfl (by kernel_rfl) (by kernel_rfl) (by kernel_rfl) (fun _ _ _ h => h) (Or.inl ⟨by rfl, ?_⟩) (by assumption) ?_
    rotate_left
    · intro wS hSw
      (try dsimp only at hSw)
      go_simp
      (try with_reducible rfl)
    (try simp only [Act.put, List.getElem_toArray, List.getElem_cons_succ, List.getElem_cons_zero, List.setIfInBounds_toArray, List.set_cons_zero, List.set_cons_succ])
    refine wpAnyH_take (i := 14) (v := ?_) rfl (by kernel_rfl) (by kernel_rfl) (by kernel_rfl) (fun _ _ _ h => h) (Or.inl ⟨by rfl, ?_⟩) (by assumption) ?_
    rotate_left
    · intro wS hSw
      (try dsimp only at hSw)
      go_simp
      (try with_reducible rfl)
    refine wpAnyH_take (i := 15) (v := ?_) rfl (by kernel_rfl) (by kernel_rfl) (by kernel_rfl) (fun _ _ _ h => h) (Or.inl ⟨by rfl, ?_⟩) (by assumption) ?_
    rotate_left
    · intro wS hSw
      (try dsimp only at hSw)
      go_simp
      (try with_reducible rfl)
    refine wpAnyH_take (i := 16) (v := ?_) rfl (by kernel_rfl) (by kernel_rfl) (by kernel_rfl) (fun _ _ _ h => h) (Or.inl ⟨by rfl, ?_⟩) (by assumption) ?_
    rotate_left
    · intro wS hSw
      (try dsimp only at hSw)
      go_simp
      (try with_reducible rfl)
    (try simp only [Act.put, List.getElem_toArray, List.getElem_cons_succ, List.getElem_cons_zero, List.setIfInBounds_toArray, List.set_cons_zero, List.set_cons_succ])
    refine wpAnyH_take (i := 17) (v := ?_) rfl (by kernel_rfl) (by kernel_rfl) (by kernel_rfl) (fun _ _ _ h => h) (Or.inl ⟨by rfl, ?_⟩) (by assumption) ?_
    rotate_left
    · intro wS hSw
      (try dsimp only at hSw)
      go_simp
      (try with_reducible rfl)
    refine wpAnyH_take (i := 19) (v := ?_) rfl (by kernel_rfl) (by kernel_rfl) (by kernel_rfl) (fun _ _ _ h => h) (Or.inl ⟨by rfl, ?_⟩) (by assumption) ?_
    rotate_left
    · intro wS hSw
      (try dsimp only at hSw)
      go_simp
      (try with_reducible rfl)
    (try simp only [Act.put, List.getElem_toArray, List.getElem_cons_succ, List.getElem_cons_zero, List.setIfInBounds_toArray, List.set_cons_zero, List.set_cons_succ])
    refine wpAnyH_ready (rs := [18]) (by kernel_rfl) (by simp) ?_
    refine (AllReadyH.cons rfl (fun K hK => ?_) AllReadyH.nil)
    go_simp
    refine (num_any no _).mono ?_
    rintro e Wn ⟨rfl, rfl⟩
    refine hK.out _ _ hHeld (fun hHeld => ?_)
    clear hK K
    (try simp only [Act.put, List.getElem_toArray, List.getElem_cons_succ, List.getElem_cons_zero, List.setIfInBounds_toArray, List.set_cons_zero, List.set_cons_succ])
    refine wpAnyH_take (i := 20) (v := ?_) rfl (by kernel_rfl) (by kernel_rfl) (by kernel_rfl) (fun _ _ _ h => h) (Or.inl ⟨by rfl, ?_⟩) (by assumption) ?_
    rotate_left
    · intro wS hSw
      (try dsimp only at hSw)
      go_simp
      (try with_reducible rfl)
    refine wpAnyH_take (i := 21) (v := ?_) rfl (by kernel_rfl) (by kernel_rfl) (by kernel_rfl) (fun _ _ _ h => h) (Or.inl ⟨by rfl, ?_⟩) (by assumption) ?_
    rotate_left
    · intro wS hSw
      (try dsimp only at hSw)
      go_simp
      (try with_reducible rfl)
    (try simp only [Act.put, List.getElem_toArray, List.getElem_cons_succ, List.getElem_cons_zero, List.setIfInBounds_toArray, List.set_cons_zero, List.set_cons_succ])
    refine wpAnyH_ready (rs := [22]) (by kernel_rfl) (by simp) ?_
    refine (AllReadyH.cons rfl (fun K hK => ?_) AllReadyH.nil)
    go_simp
    have hkp : Kept (· = w.heap.size + 1 + 1) W2 (((((W2.setCell ⟨w.heap.size + 1 + 1, 0, none⟩ (.slice B0 R'.ow.length e0)).setCell ⟨w.heap.size + 1 + 1, 1, none⟩ (.slice B1 R'.cs.length e1)).setCell ⟨w.heap.size + 1 + 1, 2, none⟩ (.slice B2 R'.rm.length e2)).setCell ⟨w.heap.size + 1 + 1, 3, none⟩ (.slice B3 R'.st.length e3)).setCell ⟨w.heap.size + 1 + 1, 4, none⟩ (.slice B4 R'.tk.length e4)).drew := (Kept.put5 _ _ _ _ _ _ _).drew
    have hfar : ¬ W1.heap.size = w.heap.size + 1 + 1 := by omega
    have hHeld3 := (⟨hkp.cell_far k0 hfar, hkp.cell_far k1 hfar, hkp.cell_far k2 hfar, hkp.cell_far k3 hfar, hkp.cell_far k4 hfar⟩ : _ ∧ _ ∧ _ ∧ _ ∧ _)
    refine hK.out _ _ hHeld3 (fun hHeld => ?_)
    clear hK K
    (try simp only [Act.put, List.getElem_toArray, List.getElem_cons_succ, List.getElem_cons_zero, List.setIfInBounds_toArray, List.set_cons_zero, List.set_cons_succ])
    refine wpAnyH_ready (rs := [23]) (by kernel_rfl) (by simp) ?_
    refine (AllReadyH.cons rfl (fun K hK => ?_) AllReadyH.nil)
    go_simp
    refine hK.out _ _ hHeld (fun hHeld => ?_)
    clear hK K
    (try simp only [Act.put, List.getElem_toArray, List.getElem_cons_succ, List.getElem_cons_zero, List.setIfInBounds_toArray, List.set_cons_zero, List.set_cons_succ])
    refine wpAnyH_done (by kernel_rfl) ?_ _
    go_wp2_with fail
    refine ret_2 Try.results32 rfl (resVal.box rfl (((((HA8.out.put 0 _).put 1 _).put 2 _).put 3 _).put 4 _).drew Try.underlying33 rfl (by kernel_rfl)) (resVal.tmp rfl) ?_
    exact ap_end hTZ HS.out.tagLt HK1.out hsz1 HR2.out HS'.out HT'.out HK3.out hkp
  · have hd0 : decide ((0 : Int) ≤ u) = true := by simpa using htt
    have hmx : max u 0 = u := by omega
    have hd1 : ¬ u < 0 := by omega
    refine wpAnyH_take (i := 0) (v := ?_) rfl (by kernel_rfl) (by kernel_rfl) (by kernel_rfl) (fun _ _ _ h => h) (Or.inl ⟨by rfl, ?_⟩) (by assumption) ?_
    rotate_left
    · intro wS hSw
      (try dsimp only at hSw)
      go_simp
      (try with_reducible rfl)
    refine wpAnyH_take (i := 1) (v := ?_) rfl (by kernel_rfl) (by kernel_rfl) (by kernel_rfl) (fun _ _ _ h => h) (Or.inl ⟨by rfl, ?_⟩) (by assumption) ?_
    rotate_left
    · intro wS hSw
      (try dsimp only at hSw)
      go_simp
      (try with_reducible rfl)
    refine wpAnyH_take (i := 2) (v := ?_) rfl (by kernel_rfl) (by kernel_rfl) (by kernel_rfl) (fun _ _ _ h => h) (Or.inl ⟨by rfl, ?_⟩) (by assumption) ?_
    rotate_left
    · intro wS hSw
      (try dsimp only at hSw)
      go_simp
      (try with_reducible rfl)
    refine wpAnyH_take (i := 3) (v := ?_) rfl (by kernel_rfl) (by kernel_rfl) (by kernel_rfl) (fun _ _ _ h => h) (Or.inl ⟨by rfl, ?_⟩) (by assumption) ?_
    rotate_left
    · intro wS hSw
      (try dsimp only at hSw)
      go_simp
      (try with_reducible rfl)
    (try simp only [Act.put, List.getElem_toArray, List.getElem_cons_succ, List.getElem_cons_zero, List.setIfInBounds_toArray, List.set_cons_zero, List.set_cons_succ])
    refine wpAnyH_take (i := 4) (v := ?_) rfl (by kernel_rfl) (by kernel_rfl) (by kernel_rfl) (fun _ _ _ h => h) (Or.inl ⟨by rfl, ?_⟩) (by assumption) ?_
    rotate_left
    · intro wS hSw
      (try dsimp only at hSw)
      go_simp
      (try with_reducible rfl)
    refine wpAnyH_take (i := 5) (v := ?_) rfl (by kernel_rfl) (by kernel_rfl) (by kernel_rfl) (fun _ _ _ h => h) (Or.inl ⟨by rfl, ?_⟩) (by assumption) ?_
    rotate_left
    · intro wS hSw
      (try dsimp only at hSw)
      go_simp
      (try with_reducible rfl)
    (try simp only [Act.put, List.getElem_toArray, List.getElem_cons_succ, List.getElem_cons_zero, List.setIfInBounds_toArray, List.set_cons_zero, List.set_cons_succ])
    refine wpAnyH_take (i := 6) (v := ?_) rfl (by kernel_rfl) (by kernel_rfl) (by kernel_rfl) (fun _ _ _ h => h) (Or.inl ⟨by rfl, ?_⟩) (by assumption) ?_
    rotate_left
    · intro wS hSw
      (try dsimp only at hSw)
      go_simp
      (try with_reducible rfl)
    refine wpAnyH_take (i := 7) (v := ?_) rfl (by kernel_rfl) (by kernel_rfl) (by kernel_rfl) (fun _ _ _ h => h) (Or.inl ⟨by rfl, ?_⟩) (by assumption) ?_
    rotate_left
    · intro wS hSw
      (try dsimp only at hSw)
      go_simp
      (try with_reducible rfl)
    (try simp only [Act.put, List.getElem_toArray, List.getElem_cons_succ, List.getElem_cons_zero, List.setIfInBounds_toArray, List.set_cons_zero, List.set_cons_succ])
    refine wpAnyH_take (i := 8) (v := ?_) rfl (by kernel_rfl) (by kernel_rfl) (by kernel_rfl) (fun _ _ _ h => h) (Or.inl ⟨by rfl, ?_⟩) (by assumption) ?_
    rotate_left
    · intro wS hSw
      (try dsimp only at hSw)
      go_simp
      (try with_reducible rfl)
    refine wpAnyH_take (i := 9) (v := ?_) rfl (by kernel_rfl) (by kernel_rfl) (by kernel_rfl) (fun _ _ _ h => h) (Or.inl ⟨by rfl, ?_⟩) (by assumption) ?_
    rotate_left
    · intro wS hSw
      (try dsimp only at hSw)
      go_simp
      (try with_reducible rfl)
    refine wpAnyH_take (i := 10) (v := ?_) rfl (by kernel_rfl) (by kernel_rfl) (by kernel_rfl) (fun _ _ _ h => h) (Or.inl ⟨by rfl, ?_⟩) (by assumption) ?_
    rotate_left
    · intro wS hSw
      (try dsimp only at hSw)
      go_simp
      (try with_reducible rfl)
    (try simp only [Act.put, List.getElem_toArray, List.getElem_cons_succ, List.getElem_cons_zero, List.setIfInBounds_toArray, List.set_cons_zero, List.set_cons_succ])
    refine wpAnyH_take (i := 11) (v := ?_) rfl (by kernel_rfl) (by kernel_rfl) (by kernel_rfl) (fun _ _ _ h => h) (Or.inl ⟨by rfl, ?_⟩) (by assumption) ?_
    rotate_left
    · intro wS hSw
      (try dsimp only at hSw)
      go_simp
      (try with_reducible rfl)
    refine wpAnyH_take (i := 12) (v := ?_) rfl (by kernel_rfl) (by kernel_rfl) (by kernel_rfl) (fun _ _ _ h => h) (Or.inl ⟨by rfl, ?_⟩) (by assumption) ?_
    rotate_left
    · intro wS hSw
      (try dsimp only at hSw)
      go_simp
      (try with_reducible rfl)
    (try simp only [Act.put, List.getElem_toArray, List.getElem_cons_succ, List.getElem_cons_zero, List.setIfInBounds_toArray, List.set_cons_zero, List.set_cons_succ])
    refine wpAnyH_take (i := 13) (v := ?_) rfl (by kernel_rfl) (by kernel_rfl) (by kernel_rfl) (fun _ _ _ h => h) (Or.inl ⟨by rfl, ?_⟩) (by assumption) ?_
    rotate_left
    · intro wS hSw
      (try dsimp only at hSw)
      go_simp
      (try with_reducible rfl)
    (try simp only [Act.put, List.getElem_toArray, List.getElem_cons_succ, List.getElem_cons_zero, List.setIfInBounds_toArray, List.set_cons_zero, List.set_cons_succ])
    refine wpAnyH_take (i := 14) (v := ?_) rfl (by kernel_rfl) (by kernel_rfl) (by kernel_rfl) (fun _ _ _ h => h) (Or.inl ⟨by rfl, ?_⟩) (by assumption) ?_
    rotate_left
    · intro wS hSw
      (try dsimp only at hSw)
      go_simp
      (try with_reducible rfl)
    refine wpAnyH_take (i := 15) (v := ?_) rfl (by kernel_rfl) (by kernel_rfl) (by kernel_rfl) (fun _ _ _ h => h) (Or.inl ⟨by rfl, ?_⟩) (by assumption) ?_
    rotate_left
    · intro wS hSw
      (try dsimp only at hSw)
      go_simp
      (try with_reducible rfl)
    refine wpAnyH_take (i := 16) (v := ?_) rfl (by kernel_rfl) (by kernel_rfl) (by kernel_rfl) (fun _ _ _ h => h) (Or.inl ⟨by rfl, ?_⟩) (by assumption) ?_
    rotate_left
    · intro wS hSw
      (try dsimp only at hSw)
      go_simp
      (try with_reducible rfl)
    (try simp only [Act.put, List.getElem_toArray, List.getElem_cons_succ, List.getElem_cons_zero, List.setIfInBounds_toArray, List.set_cons_zero, List.set_cons_succ])
    refine wpAnyH_take (i := 17) (v := ?_) rfl (by kernel_rfl) (by kernel_rfl) (by kernel_rfl) (fun _ _ _ h => h) (Or.inl ⟨by rfl, ?_⟩) (by assumption) ?_
    rotate_left
    · intro wS hSw
      (try dsimp only at hSw)
      go_simp
      (try with_reducible rfl)
    refine wpAnyH_take (i := 19) (v := ?_) rfl (by kernel_rfl) (by kernel_rfl) (by kernel_rfl) (fun _ _ _ h => h) (Or.inl ⟨by rfl, ?_⟩) (by assumption) ?_
    rotate_left
    · intro wS hSw
      (try dsimp only at hSw)
      go_simp
      (try with_reducible rfl)
    (try simp only [Act.put, List.getElem_toArray, List.getElem_cons_succ, List.getElem_cons_zero, List.setIfInBounds_toArray, List.set_cons_zero, List.set_cons_succ])
    refine wpAnyH_ready (rs := [18]) (by kernel_rfl) (by simp) ?_
    refine (AllReadyH.cons rfl (fun K hK => ?_) AllReadyH.nil)
    go_simp
    refine (num_any no _).mono ?_
    rintro e Wn ⟨rfl, rfl⟩
    refine hK.out _ _ hHeld (fun hHeld => ?_)
    clear hK K
    (try simp only [Act.put, List.getElem_toArray, List.getElem_cons_succ, List.getElem_cons_zero, List.setIfInBounds_toArray, List.set_cons_zero, List.set_cons_succ])
    refine wpAnyH_take (i := 20) (v := ?_) rfl (by kernel_rfl) (by kernel_rfl) (by kernel_rfl) (fun _ _ _ h => h) (Or.inl ⟨by rfl, ?_⟩) (by assumption) ?_
    rotate_left
    · intro wS hSw
      (try dsimp only at hSw)
      go_simp
      (try with_reducible rfl)
    refine wpAnyH_take (i := 21) (v := ?_) rfl (by kernel_rfl) (by kernel_rfl) (by kernel_rfl) (fun _ _ _ h => h) (Or.inl ⟨by rfl, ?_⟩) (by assumption) ?_
    rotate_left
    · intro wS hSw
      (try dsimp only at hSw)
      go_simp
      (try with_reducible rfl)
    (try simp only [Act.put, List.getElem_toArray, List.getElem_cons_succ, List.getElem_cons_zero, List.setIfInBounds_toArray, List.set_cons_zero, List.set_cons_succ])
    refine wpAnyH_ready (rs := [22]) (by kernel_rfl) (by simp) ?_
    refine (AllReadyH.cons rfl (fun K hK => ?_) AllReadyH.nil)
    go_simp
    have hkp : Kept (· = w.heap.size + 1 + 1) W2 (((((W2.setCell ⟨w.heap.size + 1 + 1, 0, none⟩ (.slice B0 R'.ow.length e0)).setCell ⟨w.heap.size + 1 + 1, 1, none⟩ (.slice B1 R'.cs.length e1)).setCell ⟨w.heap.size + 1 + 1, 2, none⟩ (.slice B2 R'.rm.length e2)).setCell ⟨w.heap.size + 1 + 1, 3, none⟩ (.slice B3 R'.st.length e3)).setCell ⟨w.heap.size + 1 + 1, 4, none⟩ (.slice B4 R'.tk.length e4)).drew := (Kept.put5 _ _ _ _ _ _ _).drew
    have hfar : ¬ W1.heap.size = w.heap.size + 1 + 1 := by omega
    have hHeld3 := (⟨hkp.cell_far k0 hfar, hkp.cell_far k1 hfar, hkp.cell_far k2 hfar, hkp.cell_far k3 hfar, hkp.cell_far k4 hfar⟩ : _ ∧ _ ∧ _ ∧ _ ∧ _)
    refine hK.out _ _ hHeld3 (fun hHeld => ?_)
    clear hK K
    (try simp only [Act.put, List.getElem_toArray, List.getElem_cons_succ, List.getElem_cons_zero, List.setIfInBounds_toArray, List.set_cons_zero, List.set_cons_succ])
    refine wpAnyH_ready (rs := [23]) (by kernel_rfl) (by simp) ?_
    refine (AllReadyH.cons rfl (fun K hK => ?_) AllReadyH.nil)
    go_simp
    refine hK.out _ _ hHeld (fun hHeld => ?_)
    clear hK K
    (try simp only [Act.put, List.getElem_toArray, List.getElem_cons_succ, List.getElem_cons_zero, List.setIfInBounds_toArray, List.set_cons_zero, List.set_cons_succ])
    refine wpAnyH_done (by kernel_rfl) ?_ _
    go_wp2_with fail
    refine ret_2 Try.results32 rfl (resVal.box rfl (((((HA8.out.put 0 _).put 1 _).put 2 _).put 3 _).put 4 _).drew Try.underlying33 rfl (by kernel_rfl)) (resVal.tmp rfl) ?_
    exact ap_end hTZ HS.out.tagLt HK1.out hsz1 HR2.out HS'.out HT'.out HK3.out hkp
end
end Go.Proofs.Ytehcfahfbdphpaa
