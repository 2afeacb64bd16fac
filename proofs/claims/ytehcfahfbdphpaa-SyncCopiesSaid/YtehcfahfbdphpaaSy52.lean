/- Layer 4: the document's Send, where there is room (conditions: its lists are of at most 10^9, that of the channel is shorter). -/
import Derived.Test.YtehcfahfbdphpaaSy51
namespace Go.Proofs.Ytehcfahfbdphpaa
open Go.RowKit Go.Shelf

def SdF (w : World) (g2 : Nat) (cs vs : List Value) (R' : RS) (W6 : World) : Prop := RV W6 (· < w.heap.size + 2) cs R' ∧ Cells W6 (w.heap.size + 1) 33 z5 ∧ Cells W6 g2 33 cs ∧ Cells W6 w.heap.size 33 vs ∧ Kept noX w W6
theorem bridgeS {F : World → Prop} {P : Option Addr → Nat → Nat → World → Prop} {G : Prop} (h1 : (∀ A n c W, F W → P A n c W) → G) (h2 : ∀ A n c W, F W → P A n c W) : G := h1 h2
section
variable {w : World} {vs : List Value} {R : RS} (h : RV w noX vs R) {t : Int}
include h
set_option maxRecDepth 100000 in
set_option maxHeartbeats 8000000 in
theorem zsend_ok (hb : RB R) (i : Nat) (hi : i < R.rm.length) (hst : R.st.length = R.rm.length) (htk : R.tk.length = R.rm.length) (hle : R.tk[i] ≤ R.st[i].length) (hbig : R.st.length ≤ 1000000000 ∧ R.st[i].length < 1000000000) (ht : inI (-2147483648) 2147483647 t = true) (hf : ¬ R.rm[i] ≤ ((R.st[i].drop R.tk[i]).length : Int)) :
    Calls Try.prog 63 #[.agg vs.toArray, .int .i64 i, .int .i64 t] w fun e W' => (∃ vs', e = .returned (.tuple #[.agg vs'.toArray, .int .i64 R.st[i].length, .int .i64 0]) ∧ RV W' (· < w.heap.size) vs' { R with st := R.st.set i (R.st[i] ++ [t]) }) ∧ Kept noX w W' := by
  have his : i < R.st.length := by omega
  have hit : i < R.tk.length := by omega
  have hl : R.st[i].length < 1000000000 := hbig.2
  obtain ⟨xi, hxi⟩ : ∃ xi, xi = R.st[i] := ⟨_, rfl⟩
  have HZ0 := Lib.hid (fun (vs : List Value) (W' : World) (hR : RV W' noX vs R) => zvalues_any hR i his hit hle ⟨hbig.1, Nat.le_of_lt hbig.2⟩)
  have d4 : decide (R.rm[i] ≤ ((R.st[i].drop R.tk[i]).length : Int)) = false := by simpa using hf
  rw [← hxi] at hl ⊢
  have HXI := Lib.hid hxi
  clear hxi hf
  obtain ⟨v0, v1, v2, v3, v4, rfl, h0, h1, h2, h3, h4⟩ := h
  obtain ⟨A0, n0, c0, rfl, hn0, -⟩ := h0.form
  obtain ⟨A1, n1, c1, rfl, hn1, -⟩ := h1.form
  obtain ⟨A2, n2, c2, rfl, hn2, -⟩ := h2.form
  obtain ⟨A3, n3, c3, rfl, hn3, -⟩ := h3.form
  obtain ⟨A4, n4, c4, rfl, hn4, -⟩ := h4.form
  rw [List.length_map] at hn0 hn1 hn2 hn3 hn4
  subst hn0 hn1 hn2 hn3 hn4
  have HR := Lib.hid (show RV w noX [.slice A0 R.ow.length c0, .slice A1 R.cs.length c1, .slice A2 R.rm.length c2, .slice A3 R.st.length c3, .slice A4 R.tk.length c4] R from ⟨_, _, _, _, _, rfl, h0, h1, h2, h3, h4⟩)
  have H0 := Lib.hid h0
  have H1 := Lib.hid h1
  have H2 := Lib.hid h2
  have H3 := Lib.hid h3
  have H4 := Lib.hid h4
  clear h0 h1 h2 h3 h4
  have d0 : decide ((i : Int) < 0) = false := by simp
  have d1 : decide ((R.rm.length : Int) ≤ (i : Int)) = false := by simpa using hi
  have hi' : ¬ R.rm.length ≤ i := by omega
  have ht1 : ¬ t < -2147483648 ∧ ¬ 2147483647 < t := by simp [inI] at ht; omega
  have d2 : decide (t < -2147483648) = false := by simpa using ht1.1
  have d3 : decide ((2147483647 : Int) < t) = false := by simpa using ht1.2
  obtain ⟨b, o, c, hveq, hcell, _⟩ := rowN_at H2.out hi
  injection hveq with hA _ hc
  subst hA hc
  have HZV := Lib.hid (fun W' (hk : Kept noX w W') => HZ0.out _ W' (HR.out.keep hk))
  generalize R.rm[i] = rm at *
  generalize R.st[i].drop R.tk[i] = xs at *
  clear hle hbig ht1 hst htk HZ0
  go_enter Try.func63, Try.ntmps63
  go_wp2_with fail
  obtain ⟨W0, hW0⟩ : ∃ W0, W0 = ((w.alloc (.cells #[.slice A0 R.ow.length c0, .slice A1 R.cs.length c1, .slice (some ⟨b, o, none⟩) R.rm.length c2, .slice A3 R.st.length c3, .slice A4 R.tk.length c4] 33)).alloc (.cells #[.slice none 0 0, .slice none 0 0, .slice none 0 0, .slice none 0 0, .slice none 0 0] 33)) := ⟨_, rfl⟩
  have hX : Cells W0 w.heap.size 33 [.slice A0 R.ow.length c0, .slice A1 R.cs.length c1, .slice (some ⟨b, o, none⟩) R.rm.length c2, .slice A3 R.st.length c3, .slice A4 R.tk.length c4] := by rw [hW0]; exact (Cells.fresh w 33 _).alloc _
  have hX2 : Cells W0 (w.heap.size + 1) 33 z5 := by rw [hW0]; exact cells_second _ _ _ _
  have hk0 : Kept noX w W0 := by rw [hW0]; exact ((Kept.refl _ _).alloc _).alloc _
  rw [← hW0]
  clear hW0
  have q0 := hk0.cell hcell
  have p0 := hX.cell 0
  have p1 := hX.cell 1
  have p2 := hX.cell 2
  have p3 := hX.cell 3
  have p4 := hX.cell 4
  simp only [List.getElem?_cons_zero, List.getElem?_cons_succ] at p0 p1 p2 p3 p4
  have HX := Lib.hid hX
  have HX2 := Lib.hid hX2
  have HK0 := Lib.hid hk0
  clear hX hX2 hk0
  have hHeld0 := (⟨⟨p0, p1, p2, p3, p4⟩, q0⟩ : (_ ∧ _ ∧ _ ∧ _ ∧ _) ∧ _)
  have mixed : Try.prog.follows .mixedOrders = true := by kernel_rfl
  refine wp_region_held_drew (S := (fun w' => (w'.cell? ⟨w.heap.size, 0, none⟩ = some (.slice A0 R.ow.length c0) ∧ w'.cell? ⟨w.heap.size, 1, none⟩ = some (.slice A1 R.cs.length c1) ∧ w'.cell? ⟨w.heap.size, 2, none⟩ = some (.slice (some ⟨b, o, none⟩) R.rm.length c2) ∧ w'.cell? ⟨w.heap.size, 3, none⟩ = some (.slice A3 R.st.length c3) ∧ w'.cell? ⟨w.heap.size, 4, none⟩ = some (.slice A4 R.tk.length c4)) ∧ w'.cell? ⟨b, o + i, none⟩ = some (.int .i64 rm))) (by kernel_rfl) hHeld0 (fun hHeld => ?_)
  refine wpAnyH_take (i := 0) (v := ?_) rfl (by kernel_rfl) (by kernel_rfl) (by kernel_rfl) (fun _ _ _ h => h) (Or.inl ⟨by rfl, ?_⟩) (by assumption) ?_
  rotate_left
  · intro wS hSw
    (try dsimp only at hSw)
    go_simp
    (try with_reducible rfl)
  refine wpAnyH_take (i := 1) (v := ?_) rfl (by kernel_rfl) (by kernel_rfl) (by kernel_rfl) (fun _ _ _ h => h) (Or.inl ⟨by rfl, ?_⟩) (by assumption) ?_
  rotate_left
  · intro wS hSw
    (try dsimp only at hSw)
    go_simp
    (try with_reducible rfl)
  refine wpAnyH_take (i := 4) (v := ?_) rfl (by kernel_rfl) (by kernel_rfl) (by kernel_rfl) (fun _ _ _ h => h) (Or.inl ⟨by rfl, ?_⟩) (by assumption) ?_
  rotate_left
  · intro wS hSw
    (try dsimp only at hSw)
    go_simp
    (try with_reducible rfl)
  refine wpAnyH_take (i := 5) (v := ?_) rfl (by kernel_rfl) (by kernel_rfl) (by kernel_rfl) (fun _ _ _ h => h) (Or.inl ⟨by rfl, ?_⟩) (by assumption) ?_
  rotate_left
  · intro wS hSw
    (try dsimp only at hSw)
    go_simp
    (try with_reducible rfl)
  refine wpAnyH_take (i := 6) (v := ?_) rfl (by kernel_rfl) (by kernel_rfl) (by kernel_rfl) (fun _ _ _ h => h) (Or.inl ⟨by rfl, ?_⟩) (by assumption) ?_
  rotate_left
  · intro wS hSw
    (try dsimp only at hSw)
    go_simp
    (try with_reducible rfl)
  (try simp only [Act.put, List.getElem_toArray, List.getElem_cons_succ, List.getElem_cons_zero, List.setIfInBounds_toArray, List.set_cons_zero, List.set_cons_succ])
  refine wpAnyH_take (i := 7) (v := ?_) rfl (by kernel_rfl) (by kernel_rfl) (by kernel_rfl) (fun _ _ _ h => h) (Or.inl ⟨by rfl, ?_⟩) (by assumption) ?_
  rotate_left
  · intro wS hSw
    (try dsimp only at hSw)
    go_simp
    (try with_reducible rfl)
  refine wpAnyH_take (i := 8) (v := ?_) rfl (by kernel_rfl) (by kernel_rfl) (by kernel_rfl) (fun _ _ _ h => h) (Or.inl ⟨by rfl, ?_⟩) (by assumption) ?_
  rotate_left
  · intro wS hSw
    (try dsimp only at hSw)
    go_simp
    (try with_reducible rfl)
  (try simp only [Act.put, List.getElem_toArray, List.getElem_cons_succ, List.getElem_cons_zero, List.setIfInBounds_toArray, List.set_cons_zero, List.set_cons_succ])
  refine wpAnyH_ready (rs := [2]) (by kernel_rfl) (by simp) ?_
  refine (AllReadyH.cons rfl (fun K hK => ?_) AllReadyH.nil)
  go_simp
  refine (HZV.out _ (HK0.out.drew)).mono ?_
  rintro e W1 ⟨⟨Av, cv, rfl, -⟩, hk1⟩
  replace hk1 := ((Kept.refl noX W0).drew).trans hk1
  have hHeld1 := (⟨⟨hk1.cell p0, hk1.cell p1, hk1.cell p2, hk1.cell p3, hk1.cell p4⟩, hk1.cell q0⟩ : (_ ∧ _ ∧ _ ∧ _ ∧ _) ∧ _)
  refine hK.out _ _ hHeld1 (fun hHeld => ?_)
  clear hK K
  (try simp only [Act.put, List.getElem_toArray, List.getElem_cons_succ, List.getElem_cons_zero, List.setIfInBounds_toArray, List.set_cons_zero, List.set_cons_succ])
  refine wpAnyH_take (i := 3) (v := ?_) rfl (by kernel_rfl) (by kernel_rfl) (by kernel_rfl) (fun _ _ _ h => h) (Or.inl ⟨by rfl, ?_⟩) (by assumption) ?_
  rotate_left
  · intro wS hSw
    (try dsimp only at hSw)
    go_simp
    (try with_reducible rfl)
  (try simp only [Act.put, List.getElem_toArray, List.getElem_cons_succ, List.getElem_cons_zero, List.setIfInBounds_toArray, List.set_cons_zero, List.set_cons_succ])
  refine wpAnyH_take (i := 9) (v := ?_) rfl (by kernel_rfl) (by kernel_rfl) (by kernel_rfl) (fun _ _ _ h => h) (Or.inl ⟨by rfl, ?_⟩) (by assumption) ?_
  rotate_left
  · intro wS hSw
    (try dsimp only at hSw)
    go_simp
    (try with_reducible rfl)
  (try simp only [Act.put, List.getElem_toArray, List.getElem_cons_succ, List.getElem_cons_zero, List.setIfInBounds_toArray, List.set_cons_zero, List.set_cons_succ])
  refine wpAnyH_done (by kernel_rfl) ?_ _
  have hX1 := HX.out.keep hk1
  have hA1 := HX2.out.keep hk1
  replace p0 := hk1.cell p0
  have a0 := hA1.cell 0
  have f0 := hA1.free 0
  replace p1 := hk1.cell p1
  have a1 := hA1.cell 1
  have f1 := hA1.free 1
  replace p2 := hk1.cell p2
  have a2 := hA1.cell 2
  have f2 := hA1.free 2
  replace p3 := hk1.cell p3
  have a3 := hA1.cell 3
  have f3 := hA1.free 3
  replace p4 := hk1.cell p4
  have a4 := hA1.cell 4
  have f4 := hA1.free 4
  simp only [z5, List.getElem?_cons_zero, List.getElem?_cons_succ] at a0 a1 a2 a3 a4
  have HX1 := Lib.hid hX1
  have HA2 := Lib.hid hA1
  have HK2 := Lib.hid (HK0.out.trans hk1)
  clear hX1 hA1 hk1 hHeld0 hHeld1 q0
  obtain ⟨b3, o3, c9, Ar, nr, cr, hveq3, hcell3, hn3, _⟩ := rowL_at H3.out his
  injection hveq3 with hA3 _ hc9
  subst hA3 hc9
  rw [← HXI.out] at hn3
  subst hn3
  have hbl3 : b3 < w.heap.size := block_lt_of_cell hcell3
  go_wp2_with fail
  refine zcopy_at3 HR.out hb HK2.out HA2.out ?_
  intro W2 T u0 u1 u2 u3 u4 l1 l3 hZ hTB hk2 hX2 hk2'
  have hS2 := HX1.out.keep hk2'
  obtain ⟨U0, e0, hf0⟩ := hZ.1.1.form
  obtain ⟨U2, e2, hf2⟩ := hZ.1.2.1.form
  obtain ⟨U4, e4, hf4⟩ := hZ.1.2.2.form
  rw [List.length_map] at hf4
  obtain ⟨U1, e1, hf1, _, _⟩ := own_formN hZ.2.1.1
  obtain ⟨U3, e3, hf3, _, _⟩ := own_formN hZ.2.2.1.1
  subst hf0 hf1 hf2 hf3 hf4
  have hB2 := Cells.fresh W2 33 [.slice U0 R.ow.length e0, .slice U1 R.cs.length e1, .slice U2 R.rm.length e2, .slice U3 R.st.length e3, .slice U4 R.tk.length e4]
  obtain ⟨g, A', c', cur, rfl, -, hC, hcur, hq, hg1⟩ := hZ.openS rfl his
  have hx0 := hC.cell i
  rw [hcur] at hx0
  rw [← HXI.out] at hcur hq hx0
  have HCUR := Lib.hid hcur
  have HU := Lib.hid hq.1
  have HUT := Lib.hid hq.2.1
  have hgl := hC.lt
  have hga : w.heap.size + 2 ≤ g := (hTB g (by rw [hg1]; decide)).1
  have hw2 : w.heap.size + 1 < W2.heap.size := hX2.lt
  have HZ := Lib.hid hZ
  have HTB := Lib.hid hTB
  have HK2 := Lib.hid hk2
  have HX2 := Lib.hid hX2
  have HC := Lib.hid hC
  have HB2 := Lib.hid hB2
  have HS2 := Lib.hid hS2
  clear hZ hTB hk2 hX2 hC hB2 hk2' hS2 hq hcur
  obtain ⟨i0, hi0, hz0, hz1, hz2⟩ := info_parts infoI64
  go_wp2_with fail
  obtain ⟨W3, hW3⟩ : ∃ W3, W3 = W2.alloc (.cells #[.slice U0 R.ow.length e0, .slice U1 R.cs.length e1, .slice U2 R.rm.length e2, .slice (some ⟨g, 0, none⟩) R.st.length e3, .slice U4 R.tk.length e4] 33) := ⟨_, rfl⟩
  have hB3 : Cells W3 W2.heap.size 33 [.slice U0 R.ow.length e0, .slice U1 R.cs.length e1, .slice U2 R.rm.length e2, .slice (some ⟨g, 0, none⟩) R.st.length e3, .slice U4 R.tk.length e4] := by rw [hW3]; exact HB2.out
  have hk3 : Kept noX W2 W3 := by rw [hW3]; exact (Kept.refl _ _).alloc _
  rw [← hW3]
  have hC3 := HC.out.keep hk3
  have hU3 := own_kept HU.out hk3 (fun _ _ h => h)
  have k1 := hB3.cell 3
  simp only [List.getElem?_cons_zero, List.getElem?_cons_succ] at k1
  have x1 := hk3.cell hx0
  have hks3 := hk3.size
  have hlt3 := hB3.lt
  have HB3 := Lib.hid hB3
  have HC3 := Lib.hid hC3
  have HU3 := Lib.hid hU3
  have HOA := Lib.hid ((hU3.alloc (.cells #[.int .i64 t] 2)).drew)
  have HN := Lib.hid (cell_one_new W3 (.int .i64 t) 2)
  have HK3 := Lib.hid hk3
  have k1a : (W3.alloc (.cells #[.int .i64 t] 2)).drew.cell? ⟨W2.heap.size, 3, none⟩ = some (.slice (some ⟨g, 0, none⟩) R.st.length e3) := (((Kept.refl noX W3).alloc _).drew).cell k1
  have x1a : (W3.alloc (.cells #[.int .i64 t] 2)).drew.cell? ⟨g, i, none⟩ = some (.slice A' xi.length c') := (((Kept.refl noX W3).alloc _).drew).cell x1
  clear hB3 hC3 hU3 hk3 hW3
  apply bridgeS (F := SdF w W2.heap.size [.slice U0 R.ow.length e0, .slice U1 R.cs.length e1, .slice U2 R.rm.length e2, .slice (some ⟨g, 0, none⟩) R.st.length e3, .slice U4 R.tk.length e4] [.slice A0 R.ow.length c0, .slice A1 R.cs.length c1, .slice (some ⟨b, o, none⟩) R.rm.length c2, .slice (some ⟨b3, o3, none⟩) R.st.length c3, .slice A4 R.tk.length c4] { R with st := R.st.set i (xi ++ [t]) })
  · intro HP
    go_region_law_o (refine step_append_at rfl (.tmp 47) (.tmp 49) 47 rfl 0 2 i0 (.int .i64 0) 1 8 Try.underlying47 hi0 hz0 hz1 hz2 rfl (by decide) (.slice A' xi.length c') xi.length (xi.map (.int .i64)) (by simp [Act.eval]) HOA.out ⟨W3.heap.size, 0, none⟩ 1 1 [.int .i64 t] (by simp [Act.eval]) rfl HN.out (by intro u hu; obtain rfl := List.mem_singleton.1 hu; rfl) (by unfold maxLen; omega) (by omega) (Nat.zero_le _) ?_; intro v' W5 hown' hgrow hat; (have hk5 : Kept (fun k => (Value.slice A' xi.length c').ownBlock = some k) W3 W5 := ((((Kept.refl _ _).alloc _).drew).grown hgrow (fun k hk _ => hk))); (have hC5 := HC3.out.kept hk5 (fun e => own_ne HU3.out HC3.out (by decide) e)); (have hB5 := HB3.out.kept hk5 (fun e => own_ne HU3.out HB3.out (by decide) e)); (have c5 := hC5.cell i); rw [HCUR.out] at c5; (have f5 := hC5.free i); (have k5 := hB5.cell 3); simp only [List.getElem?_cons_zero, List.getElem?_cons_succ] at k5; (have HC5 := Lib.hid hC5); (have HB5 := Lib.hid hB5); (have HO5 := Lib.hid hown'); (have HAT := Lib.hid hat); obtain ⟨A5, n5, c5', rfl⟩ := own_form0 hown'; clear hC5 hB5 hown' hgrow hat)
    all_goals
      have hloc : (Value.slice A5 n5 c5').ownBlock = (Value.slice A' xi.length c').ownBlock ∨ (Value.slice A5 n5 c5').ownBlock = some (W3.heap.size + 1) := by
        have h := HAT.out
        rwa [show ((W3.alloc (.cells #[.int .i64 t] 2)).drew).heap.size = W3.heap.size + 1 from World.size_alloc _ _] at h
      have hkg : Kept (· = g) W5 (W5.setCell ⟨g, i, none⟩ (.slice A5 n5 c5')) := (Kept.refl (· = g) _).setCell (p := ⟨g, i, none⟩) (fun _ => rfl) _
      have hk25 : Kept (fun k => (Value.slice A' xi.length c').ownBlock = some k) W2 W5 := HK3.out.any.trans hk5
      have hbig : ∀ k, (Value.slice A5 n5 c5').ownBlock = some k → w.heap.size + 2 ≤ k := fun k hk => by
        rcases hloc with h1 | h1
        · have h2 := HUT.out k (h1.symm.trans hk)
          exact (HTB.out k (by rw [h2]; omega)).1
        · have h2 : W3.heap.size + 1 = k := Option.some.inj (h1.symm.trans hk)
          omega
      have hu' : RowV (W5.setCell ⟨g, i, none⟩ (.slice A5 n5 c5')) (· < w.heap.size + 2) (.slice A5 n5 c5') (dI (xi ++ [t])) := own_row (t := 2) (by
        have h := own_kept HO5.out hkg (fun k hk e => own_ne HO5.out HC5.out (by decide) (by rw [hk, e]))
        simpa using h) (fun k hk e => by have := hbig k hk; have e' : k < w.heap.size + 2 := e; omega)
      have hRV := HZ.out.rvS (Z := (· < w.heap.size + 2)) his hk25 (fun k _ hk => .inr (HUT.out k hk)) (fun k hk => Classical.byContradiction fun h2 => by have := (HTB.out k h2).1; have hk' : k < w.heap.size + 2 := hk; omega) hu'
      have hownT : ∀ k, (Value.slice A' xi.length c').ownBlock = some k → w.heap.size + 2 ≤ k := fun k hk => (HTB.out k (by rw [HUT.out k hk]; omega)).1
      have HA6 := ((HX2.out.keep HK3.out).kept hk5 (fun h => by have := hownT _ h; omega)).kept hkg (by omega)
      have HB6 := HB5.out.kept hkg (by omega)
      have HK6 : Kept noX w (W5.setCell ⟨g, i, none⟩ (.slice A5 n5 c5')) := (HK2.out.join hk25 (fun k hk _ => by have := hownT k hk; omega)).own hkg (by omega)
      have HS6 := ((HS2.out.keep HK3.out).kept hk5 (fun h => by have := hownT _ h; omega)).kept hkg (by omega)
      have HF : SdF w W2.heap.size [.slice U0 R.ow.length e0, .slice U1 R.cs.length e1, .slice U2 R.rm.length e2, .slice (some ⟨g, 0, none⟩) R.st.length e3, .slice U4 R.tk.length e4] [.slice A0 R.ow.length c0, .slice A1 R.cs.length c1, .slice (some ⟨b, o, none⟩) R.rm.length c2, .slice (some ⟨b3, o3, none⟩) R.st.length c3, .slice A4 R.tk.length c4] { R with st := R.st.set i (xi ++ [t]) } (W5.setCell ⟨g, i, none⟩ (.slice A5 n5 c5')) := ⟨hRV, HA6, HB6, HS6, HK6⟩
      clear hu' hbig hownT hloc hk25 hk5 hkg hRV HA6 HB6 HS6 HK6 HB5 HC5 HO5 HAT c5 f5 k5
      generalize W5.setCell ⟨g, i, none⟩ (.slice A5 n5 c5') = W6 at HF ⊢
      exact HP A5 n5 c5' W6 HF
  · rintro A5 n5 c5' W6 ⟨HR6, HA6, HB6, HS6, HK6⟩
    have k0 := HB6.cell 0
    have a0 := HA6.cell 0
    have f0 := HA6.free 0
    have k1 := HB6.cell 1
    have a1 := HA6.cell 1
    have f1 := HA6.free 1
    have k2 := HB6.cell 2
    have a2 := HA6.cell 2
    have f2 := HA6.free 2
    have k3 := HB6.cell 3
    have a3 := HA6.cell 3
    have f3 := HA6.free 3
    have k4 := HB6.cell 4
    have a4 := HA6.cell 4
    have f4 := HA6.free 4
    simp only [z5, List.getElem?_cons_zero, List.getElem?_cons_succ] at k0 k1 k2 k3 k4 a0 a1 a2 a3 a4
    have HA7 := Lib.hid HA6.drew
    have HR7 := Lib.hid HR6
    have HK7 := Lib.hid HK6
    have hEx : _ ∧ _ := ⟨HS6.cell 3, HK6.cell hcell3⟩
    have HEX : Hid (∀ W', Kept (· = w.heap.size + 1) W6 W' → W'.cell? ⟨w.heap.size, 3, none⟩ = some (.slice (some ⟨b3, o3, none⟩) R.st.length c3) ∧ W'.cell? ⟨b3, o3 + i, none⟩ = some (.slice Ar xi.length cr)) := Lib.hid (fun W' hk' => ⟨hk'.cell_far (HS6.cell 3) (by omega), hk'.cell_far (HK6.cell hcell3) (by omega)⟩)
    go_wp2_with fail
    have hHeld0 := (⟨⟨k0, k1, k2, k3, k4⟩, hEx⟩ : (_ ∧ _ ∧ _ ∧ _ ∧ _) ∧ _)
    refine wp_region_held_drew (S := (fun w' => (w'.cell? ⟨W2.heap.size, 0, none⟩ = some (.slice U0 R.ow.length e0) ∧ w'.cell? ⟨W2.heap.size, 1, none⟩ = some (.slice U1 R.cs.length e1) ∧ w'.cell? ⟨W2.heap.size, 2, none⟩ = some (.slice U2 R.rm.length e2) ∧ w'.cell? ⟨W2.heap.size, 3, none⟩ = some (.slice (some ⟨g, 0, none⟩) R.st.length e3) ∧ w'.cell? ⟨W2.heap.size, 4, none⟩ = some (.slice U4 R.tk.length e4)) ∧ (w'.cell? ⟨w.heap.size, 3, none⟩ = some (.slice (some ⟨b3, o3, none⟩) R.st.length c3) ∧ w'.cell? ⟨b3, o3 + i, none⟩ = some (.slice Ar xi.length cr)))) (by kernel_rfl) hHeld0 (fun hHeld => ?_)
    refine wpAnyH_take (i := 0) (v := ?_) rfl (by kernel_rfl) (by kernel_rfl) (by kernel_rfl) (fun _ _ _ h => h) (Or.inl ⟨by rfl, ?_⟩) (by assumption) ?_
    rotate_left
    · intro wS hSw
      (try dsimp only at hSw)
      go_simp
      (try with_reducible rfl)
    refine wpAnyH_take (i := 1) (v := ?_) rfl (by kernel_rfl) (by kernel_rfl) (by kernel_rfl) (fun _ _ _ h => h) (Or.inl ⟨by rfl, ?_⟩) (by assumption) ?_
    rotate_left
    · intro wS hSw
      (try dsimp only at hSw)
      go_simp
      (try with_reducible rfl)
    refine wpAnyH_take (i := 2) (v := ?_) rfl (by kernel_rfl) (by kernel_rfl) (by kernel_rfl) (fun _ _ _ h => h) (Or.inl ⟨by rfl, ?_⟩) (by assumption) ?_
    rotate_left
    · intro wS hSw
      (try dsimp only at hSw)
      go_simp
      (try with_reducible rfl)
    refine wpAnyH_take (i := 3) (v := ?_) rfl (by kernel_rfl) (by kernel_rfl) (by kernel_rfl) (fun _ _ _ h => h) (Or.inl ⟨by rfl, ?_⟩) (by assumption) ?_
    rotate_left
    · intro wS hSw
      (try dsimp only at hSw)
      go_simp
      (try with_reducible rfl)
    (try simp only [Act.put, List.getElem_toArray, List.getElem_cons_succ, List.getElem_cons_zero, List.setIfInBounds_toArray, List.set_cons_zero, List.set_cons_succ])
    refine wpAnyH_take (i := 4) (v := ?_) rfl (by kernel_rfl) (by kernel_rfl) (by kernel_rfl) (fun _ _ _ h => h) (Or.inl ⟨by rfl, ?_⟩) (by assumption) ?_
    rotate_left
    · intro wS hSw
      (try dsimp only at hSw)
      go_simp
      (try with_reducible rfl)
    refine wpAnyH_take (i := 5) (v := ?_) rfl (by kernel_rfl) (by kernel_rfl) (by kernel_rfl) (fun _ _ _ h => h) (Or.inl ⟨by rfl, ?_⟩) (by assumption) ?_
    rotate_left
    · intro wS hSw
      (try dsimp only at hSw)
      go_simp
      (try with_reducible rfl)
    (try simp only [Act.put, List.getElem_toArray, List.getElem_cons_succ, List.getElem_cons_zero, List.setIfInBounds_toArray, List.set_cons_zero, List.set_cons_succ])
    refine wpAnyH_take (i := 6) (v := ?_) rfl (by kernel_rfl) (by kernel_rfl) (by kernel_rfl) (fun _ _ _ h => h) (Or.inl ⟨by rfl, ?_⟩) (by assumption) ?_
    rotate_left
    · intro wS hSw
      (try dsimp only at hSw)
      go_simp
      (try with_reducible rfl)
    (try simp only [Act.put, List.getElem_toArray, List.getElem_cons_succ, List.getElem_cons_zero, List.setIfInBounds_toArray, List.set_cons_zero, List.set_cons_succ])
    refine wpAnyH_ready (rs := [7]) (by kernel_rfl) (by simp) ?_
    refine (AllReadyH.cons rfl (fun K hK => ?_) AllReadyH.nil)
    go_simp
    have hkp : Kept (· = w.heap.size + 1) W6 (((((W6.setCell ⟨w.heap.size + 1, 0, none⟩ (.slice U0 R.ow.length e0)).setCell ⟨w.heap.size + 1, 1, none⟩ (.slice U1 R.cs.length e1)).setCell ⟨w.heap.size + 1, 2, none⟩ (.slice U2 R.rm.length e2)).setCell ⟨w.heap.size + 1, 3, none⟩ (.slice (some ⟨g, 0, none⟩) R.st.length e3)).setCell ⟨w.heap.size + 1, 4, none⟩ (.slice U4 R.tk.length e4)).drew := (Kept.put5 _ _ _ _ _ _ _).drew
    have hfar : ¬ W2.heap.size = w.heap.size + 1 := by omega
    have hHeld5 := (⟨⟨hkp.cell_far k0 hfar, hkp.cell_far k1 hfar, hkp.cell_far k2 hfar, hkp.cell_far k3 hfar, hkp.cell_far k4 hfar⟩, HEX.out _ hkp⟩ : (_ ∧ _ ∧ _ ∧ _ ∧ _) ∧ _)
    refine hK.out _ _ hHeld5 (fun hHeld => ?_)
    clear hK K
    (try simp only [Act.put, List.getElem_toArray, List.getElem_cons_succ, List.getElem_cons_zero, List.setIfInBounds_toArray, List.set_cons_zero, List.set_cons_succ])
    refine wpAnyH_ready (rs := [8]) (by kernel_rfl) (by simp) ?_
    refine (AllReadyH.cons rfl (fun K hK => ?_) AllReadyH.nil)
    go_simp
    refine hK.out _ _ hHeld (fun hHeld => ?_)
    clear hK K
    (try simp only [Act.put, List.getElem_toArray, List.getElem_cons_succ, List.getElem_cons_zero, List.setIfInBounds_toArray, List.set_cons_zero, List.set_cons_succ])
    refine wpAnyH_ready (rs := [9]) (by kernel_rfl) (by simp) ?_
    refine (AllReadyH.cons rfl (fun K hK => ?_) AllReadyH.nil)
    go_simp
    refine hK.out _ _ hHeld (fun hHeld => ?_)
    clear hK K
    (try simp only [Act.put, List.getElem_toArray, List.getElem_cons_succ, List.getElem_cons_zero, List.setIfInBounds_toArray, List.set_cons_zero, List.set_cons_succ])
    refine wpAnyH_done (by kernel_rfl) ?_ _
    go_wp2_with fail
    refine ret_3 Try.results63 rfl (resVal.box rfl (((((HA7.out.put 0 _).put 1 _).put 2 _).put 3 _).put 4 _) Try.underlying33 rfl (by kernel_rfl)) (resVal.tmp rfl) (resVal.tmp rfl) ?_
    exact ⟨⟨_, rfl, ((HR7.out.kept hkp (fun k _ h => (show k < w.heap.size + 2 by omega))).mono (fun k _ h => Nat.lt_of_lt_of_le (show k < w.heap.size from h) (by omega)))⟩, HK7.out.own hkp (by omega)⟩
end
end Go.Proofs.Ytehcfahfbdphpaa
