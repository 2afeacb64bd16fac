/- Layer 4: the document's Wait (conditions: its lists are of at most 10^9, that of the condition is shorter). -/
import Derived.Test.YtehcfahfbdphpaaSy44
namespace Go.Proofs.Ytehcfahfbdphpaa
open Go.RowKit Go.Shelf

/-- Kept from the walk's sight. -/
def EqB (a b : Bool) : Prop := a = b
section
variable {w : World} {vs : List Value} {R : RS} (h : RV w noX vs R) {t : Int}
include h
set_option maxRecDepth 100000 in
set_option maxHeartbeats 1000000 in
theorem zwait_out (m : Int) (hm : m < 0 ∨ (R.cs.length : Int) ≤ m) : Calls Try.prog 60 #[.agg vs.toArray, .int .i64 m, .int .i64 t] w fun e W' => e = .returned (.tuple #[.agg vs.toArray, .int .i64 4]) ∧ Kept noX w W' := by
  obtain ⟨v0, v1, v2, v3, v4, rfl, h0, h1, h2, h3, h4⟩ := h
  obtain ⟨A0, n0, c0, rfl, hn0, -⟩ := h0.form
  obtain ⟨A1, n1, c1, rfl, hn1, -⟩ := h1.form
  obtain ⟨A2, n2, c2, rfl, hn2, -⟩ := h2.form
  obtain ⟨A3, n3, c3, rfl, hn3, -⟩ := h3.form
  obtain ⟨A4, n4, c4, rfl, hn4, -⟩ := h4.form
  rw [List.length_map] at hn0 hn1 hn2 hn3 hn4
  subst hn0 hn1 hn2 hn3 hn4
  have HR := Lib.hid (show RV w noX [.slice A0 R.ow.length c0, .slice A1 R.cs.length c1, .slice A2 R.rm.length c2, .slice A3 R.st.length c3, .slice A4 R.tk.length c4] R from ⟨_, _, _, _, _, rfl, h0, h1, h2, h3, h4⟩)
  have H0 := Lib.hid h0
  have H1 := Lib.hid h1
  have H2 := Lib.hid h2
  have H3 := Lib.hid h3
  have H4 := Lib.hid h4
  clear h0 h1 h2 h3 h4
  rcases hm with hm | hm
  · have d0 : decide (m < 0) = true := by simpa using hm
    go_enter Try.func60, Try.ntmps60
    go_wp2_with fail
    refine ret_2 Try.results60 rfl (resVal.box rfl (cells_second _ _ _ _) Try.underlying33 rfl (by kernel_rfl)) (resVal.tmp rfl) ?_
    exact ⟨rfl, ((Kept.refl _ _).alloc _).alloc _⟩
  · have d0 : decide (m < 0) = false := by simp; omega
    have d1 : decide ((R.cs.length : Int) ≤ m) = true := by simpa using hm
    have hm' : ¬ m < 0 := by omega
    go_enter Try.func60, Try.ntmps60
    go_wp2_with fail
    refine ret_2 Try.results60 rfl (resVal.box rfl (cells_second _ _ _ _) Try.underlying33 rfl (by kernel_rfl)) (resVal.tmp rfl) ?_
    exact ⟨rfl, ((Kept.refl _ _).alloc _).alloc _⟩
set_option maxRecDepth 100000 in
set_option maxHeartbeats 1000000 in
theorem zwait_bad (i : Nat) (hi : i < R.cs.length) (ht : inI 0 7 t = false) : Calls Try.prog 60 #[.agg vs.toArray, .int .i64 i, .int .i64 t] w fun e W' => e = .returned (.tuple #[.agg vs.toArray, .int .i64 2]) ∧ Kept noX w W' := by
  obtain ⟨v0, v1, v2, v3, v4, rfl, h0, h1, h2, h3, h4⟩ := h
  obtain ⟨A0, n0, c0, rfl, hn0, -⟩ := h0.form
  obtain ⟨A1, n1, c1, rfl, hn1, -⟩ := h1.form
  obtain ⟨A2, n2, c2, rfl, hn2, -⟩ := h2.form
  obtain ⟨A3, n3, c3, rfl, hn3, -⟩ := h3.form
  obtain ⟨A4, n4, c4, rfl, hn4, -⟩ := h4.form
  rw [List.length_map] at hn0 hn1 hn2 hn3 hn4
  subst hn0 hn1 hn2 hn3 hn4
  have HR := Lib.hid (show RV w noX [.slice A0 R.ow.length c0, .slice A1 R.cs.length c1, .slice A2 R.rm.length c2, .slice A3 R.st.length c3, .slice A4 R.tk.length c4] R from ⟨_, _, _, _, _, rfl, h0, h1, h2, h3, h4⟩)
  have H0 := Lib.hid h0
  have H1 := Lib.hid h1
  have H2 := Lib.hid h2
  have H3 := Lib.hid h3
  have H4 := Lib.hid h4
  clear h0 h1 h2 h3 h4
  have d0 : decide ((i : Int) < 0) = false := by simp
  have d1 : decide ((R.cs.length : Int) ≤ (i : Int)) = false := by simpa using hi
  have hi' : ¬ R.cs.length ≤ i := by omega
  go_enter Try.func60, Try.ntmps60
  go_wp2_with (go_at_call 86; refine (zthread_any t _).mono ?_; rintro e Wt ⟨rfl, rfl⟩; rw [ht])
  refine ret_2 Try.results60 rfl (resVal.box rfl (cells_second _ _ _ _) Try.underlying33 rfl (by kernel_rfl)) (resVal.tmp rfl) ?_
  exact ⟨rfl, ((Kept.refl _ _).alloc _).alloc _⟩
set_option maxRecDepth 100000 in
set_option maxHeartbeats 4000000 in
theorem zwait_in (hb : RB R) (i : Nat) (hi : i < R.cs.length) (ht : inI 0 7 t = true) (hl : R.cs[i].length < 1000000000) {wb : Bool} (hwb : R.cs.flatten.any (· == t) = wb) : Calls Try.prog 60 #[.agg vs.toArray, .int .i64 i, .int .i64 t] w fun e W' => ((wb = true ∧ e = .returned (.tuple #[.agg vs.toArray, .int .i64 141])) ∨
    (wb = false ∧ ∃ vs', e = .returned (.tuple #[.agg vs'.toArray, .int .i64 0]) ∧ RV W' (· < w.heap.size) vs' { R with cs := R.cs.set i (R.cs[i] ++ [t]) })) ∧ Kept noX w W' := by
  obtain ⟨xi, hxi⟩ : ∃ xi, xi = R.cs[i] := ⟨_, rfl⟩
  rw [← hxi] at hl ⊢
  have HXI := Lib.hid hxi
  clear hxi
  obtain ⟨v0, v1, v2, v3, v4, rfl, h0, h1, h2, h3, h4⟩ := h
  obtain ⟨A0, n0, c0, rfl, hn0, -⟩ := h0.form
  obtain ⟨A1, n1, c1, rfl, hn1, -⟩ := h1.form
  obtain ⟨A2, n2, c2, rfl, hn2, -⟩ := h2.form
  obtain ⟨A3, n3, c3, rfl, hn3, -⟩ := h3.form
  obtain ⟨A4, n4, c4, rfl, hn4, -⟩ := h4.form
  rw [List.length_map] at hn0 hn1 hn2 hn3 hn4
  subst hn0 hn1 hn2 hn3 hn4
  have HR := Lib.hid (show RV w noX [.slice A0 R.ow.length c0, .slice A1 R.cs.length c1, .slice A2 R.rm.length c2, .slice A3 R.st.length c3, .slice A4 R.tk.length c4] R from ⟨_, _, _, _, _, rfl, h0, h1, h2, h3, h4⟩)
  have H0 := Lib.hid h0
  have H1 := Lib.hid h1
  have H2 := Lib.hid h2
  have H3 := Lib.hid h3
  have H4 := Lib.hid h4
  clear h0 h1 h2 h3 h4
  have d0 : decide ((i : Int) < 0) = false := by simp
  have d1 : decide ((R.cs.length : Int) ≤ (i : Int)) = false := by simpa using hi
  have hi' : ¬ R.cs.length ≤ i := by omega
  have mixed : Try.prog.follows .mixedOrders = true := by kernel_rfl
  have HWB := Lib.hid hwb
  have hcl := hb.cs
  clear hwb
  go_enter Try.func60, Try.ntmps60
  go_wp2_with (go_at_call 86; refine (zthread_any t _).mono ?_; rintro e Wt ⟨rfl, rfl⟩; rw [ht])
  obtain ⟨W0, hW0⟩ : ∃ W0, W0 = ((w.alloc (.cells #[.slice A0 R.ow.length c0, .slice A1 R.cs.length c1, .slice A2 R.rm.length c2, .slice A3 R.st.length c3, .slice A4 R.tk.length c4] 33)).alloc (.cells #[.slice none 0 0, .slice none 0 0, .slice none 0 0, .slice none 0 0, .slice none 0 0] 33)) := ⟨_, rfl⟩
  have hX : Cells W0 w.heap.size 33 [.slice A0 R.ow.length c0, .slice A1 R.cs.length c1, .slice A2 R.rm.length c2, .slice A3 R.st.length c3, .slice A4 R.tk.length c4] := by rw [hW0]; exact (Cells.fresh w 33 _).alloc _
  have hk0 : Kept noX w W0 := by rw [hW0]; exact ((Kept.refl _ _).alloc _).alloc _
  have p1 := hX.cell 1
  simp only [List.getElem?_cons_zero, List.getElem?_cons_succ] at p1
  have HK0 := Lib.hid hk0
  rw [← hW0]
  have HW0 := Lib.hid hW0
  clear hW0 hk0 hX
  go_loopw [8] (fun a wr => ∃ k : Nat, k ≤ R.cs.length ∧ a = .int .i64 k ∧ wr = W0 ∧ ∀ j (hj : j < R.cs.length), j < k → R.cs[j].any (· == t) = false) (fun a _ => R.cs.length - (intOf a).toNat)
  case atStart => exact ⟨0, Nat.zero_le _, rfl, rfl, fun j _ h => by omega⟩
  case round =>
    obtain ⟨k, hk, rfl, rfl, hno⟩ := hrel
    by_cases hlt : k < R.cs.length
    · have hdl : decide ((k : Int) < (R.cs.length : Int)) = true := by simpa using hlt
      obtain ⟨b, o, c, A, n, ci, hveq, hcell, hn, hrow⟩ := rowL_at H1.out hlt
      injection hveq with hA _ hc
      subst hA hc hn
      have q0 := HK0.out.cell hcell
      have HNO := Lib.hid hno
      have HROW := Lib.hid hrow
      obtain ⟨xs, hxs⟩ : ∃ xs, xs = R.cs[k] := ⟨_, rfl⟩
      rw [← hxs] at q0 HROW
      have hxl : xs.length ≤ 1000000000 := by rw [hxs]; exact hb.ci k hlt
      have HXS := Lib.hid hxs
      clear hxs hno hrow hcell
      go_wp2_with fail
      go_loopw [9] (fun a wr' => ∃ m : Nat, m ≤ xs.length ∧ a = .int .i64 m ∧ wr' = wr ∧ ∀ q (hq : q < xs.length), q < m → (xs[q] == t) = false) (fun a _ => xs.length - (intOf a).toNat)
      case atStart => exact ⟨0, Nat.zero_le _, rfl, rfl, fun j _ h => by omega⟩
      case round =>
        obtain ⟨m, hm, rfl, rfl, hno2⟩ := hrel
        by_cases hlt2 : m < xs.length
        · have hdl2 : decide ((m : Int) < (xs.length : Int)) = true := by simpa using hlt2
          obtain ⟨b2, o2, c2, hveq, hcell2, _⟩ := rowN_at HROW.out hlt2
          injection hveq with hA _ hc
          subst hA hc
          have r0 := HK0.out.cell hcell2
          by_cases hxt : xs[m] = t
          · rw [hxt] at r0
            have htt : (t == t) = true := by simp
            have hany : R.cs.flatten.any (· == t) = true := by
              rw [List.any_eq_true]
              exact ⟨t, List.mem_flatten.2 ⟨xs, by rw [HXS.out]; exact List.getElem_mem hlt, by rw [← hxt]; exact List.getElem_mem hlt2⟩, by simp⟩
            have HANY := Lib.hid hany
            have hwt : EqB wb true := HWB.out.symm.trans hany
            have hW0 := HW0.out
            subst hW0
            clear hany hno2 hcell2
            go_wp2_with fail
            refine ret_2 Try.results60 rfl (resVal.box rfl (cells_second _ _ _ _) Try.underlying33 rfl (by kernel_rfl)) (resVal.tmp rfl) ?_
            exact ⟨.inl ⟨hwt, rfl⟩, ((Kept.refl _ _).alloc _).alloc _⟩
          · have hxf : (xs[m] == t) = false := by simpa using hxt
            have HNO2 := Lib.hid hno2
            have HXF := Lib.hid (show ∀ q (hq : q < xs.length), q < m + 1 → (xs[q] == t) = false from fun q hq h => by
              rcases Nat.lt_or_ge q m with h1 | h1
              · exact hno2 q hq h1
              · obtain rfl : q = m := by omega
                exact hxf)
            generalize xs[m] = xm at *
            clear hno2 hcell2
            go_wp2_with fail
            go_roundw
            case rel => exact ⟨m + 1, hlt2, by go_num, by first | rfl | trivial, HXF.out⟩
            case measure => simp [intOf]; omega
        · have hdl2 : decide ((m : Int) < (xs.length : Int)) = false := by simpa using hlt2
          have HXF := Lib.hid (show xs.any (· == t) = false from by
            rw [List.any_eq_false]
            intro y hy
            obtain ⟨q, hq, rfl⟩ := List.mem_iff_getElem.1 hy
            have := hno2 q hq (by omega)
            simpa using this)
          clear hno2
          go_wp2_with fail
          go_roundw
          case rel => exact ⟨k + 1, hlt, by go_num, by first | rfl | trivial, fun j hj h => by
            rcases Nat.lt_or_ge j k with h1 | h1
            · exact HNO.out j hj h1
            · obtain rfl : j = k := by omega
              rw [← HXS.out]
              exact HXF.out⟩
          case measure => simp [intOf]; omega
    · have hdl : decide ((k : Int) < (R.cs.length : Int)) = false := by simpa using hlt
      have hany : R.cs.flatten.any (· == t) = false := by
        rw [List.any_eq_false]
        intro y hy
        obtain ⟨l, hl1, hl2⟩ := List.mem_flatten.1 hy
        obtain ⟨q, hq, rfl⟩ := List.mem_iff_getElem.1 hl1
        have := List.any_eq_false.1 (hno q hq (by omega)) y hl2
        simpa using this
      have hwt : EqB wb false := HWB.out.symm.trans hany
      have hW0 := HW0.out
      subst hW0
      clear hany hno p1
      go_wp2_with fail
      refine zcopy_at2 HR.out hb ?_
      intro W2 T u0 u1 u2 u3 u4 l1 l3 hZ hTB hk2 hX2 hk2'
      have hS2 := ((Cells.fresh w 33 _).alloc _).keep hk2'
      obtain ⟨U0, e0, hf0⟩ := hZ.1.1.form
      obtain ⟨U2, e2, hf2⟩ := hZ.1.2.1.form
      obtain ⟨U4, e4, hf4⟩ := hZ.1.2.2.form
      rw [List.length_map] at hf4
      obtain ⟨U1, e1, hf1, _, _⟩ := own_formN hZ.2.1.1
      obtain ⟨U3, e3, hf3, _, _⟩ := own_formN hZ.2.2.1.1
      subst hf0 hf1 hf2 hf3 hf4
      have hB2 := Cells.fresh W2 33 [.slice U0 R.ow.length e0, .slice U1 R.cs.length e1, .slice U2 R.rm.length e2, .slice U3 R.st.length e3, .slice U4 R.tk.length e4]
      obtain ⟨g, A', c', cur, rfl, -, hC, hcur, hq, hg1⟩ := hZ.openC rfl hi
      have hx0 := hC.cell i
      rw [hcur] at hx0
      rw [← HXI.out] at hcur hq hx0
      have HCUR := Lib.hid hcur
      have HU := Lib.hid hq.1
      have HUT := Lib.hid hq.2.1
      have hgl := hC.lt
      have hga : w.heap.size + 2 ≤ g := (hTB g (by rw [hg1]; decide)).1
      have hw2 : w.heap.size + 1 < W2.heap.size := hX2.lt
      have HZ := Lib.hid hZ
      have HTB := Lib.hid hTB
      have HK2 := Lib.hid hk2
      have HX2 := Lib.hid hX2
      have HC := Lib.hid hC
      have HB2 := Lib.hid hB2
      clear hZ hTB hk2 hX2 hC hB2 hk2' hS2 hq hcur
      obtain ⟨i0, hi0, hz0, hz1, hz2⟩ := info_parts infoI
      go_wp2_with fail
      obtain ⟨W3, hW3⟩ : ∃ W3, W3 = W2.alloc (.cells #[.slice U0 R.ow.length e0, .slice (some ⟨g, 0, none⟩) R.cs.length e1, .slice U2 R.rm.length e2, .slice U3 R.st.length e3, .slice U4 R.tk.length e4] 33) := ⟨_, rfl⟩
      have hB3 : Cells W3 W2.heap.size 33 [.slice U0 R.ow.length e0, .slice (some ⟨g, 0, none⟩) R.cs.length e1, .slice U2 R.rm.length e2, .slice U3 R.st.length e3, .slice U4 R.tk.length e4] := by rw [hW3]; exact HB2.out
      have hk3 : Kept noX W2 W3 := by rw [hW3]; exact (Kept.refl _ _).alloc _
      rw [← hW3]
      have hC3 := HC.out.keep hk3
      have hU3 := own_kept HU.out hk3 (fun _ _ h => h)
      have k1 := hB3.cell 1
      simp only [List.getElem?_cons_zero, List.getElem?_cons_succ] at k1
      have x1 := hk3.cell hx0
      have hks3 := hk3.size
      have hlt3 := hB3.lt
      have HB3 := Lib.hid hB3
      have HC3 := Lib.hid hC3
      have HU3 := Lib.hid hU3
      have HOA := Lib.hid ((hU3.alloc (.cells #[.int .i64 t] 3)).drew)
      have HN := Lib.hid (cell_one_new W3 (.int .i64 t) 3)
      have HK3 := Lib.hid hk3
      have k1a : (W3.alloc (.cells #[.int .i64 t] 3)).drew.cell? ⟨W2.heap.size, 1, none⟩ = some (.slice (some ⟨g, 0, none⟩) R.cs.length e1) := (((Kept.refl noX W3).alloc _).drew).cell k1
      have x1a : (W3.alloc (.cells #[.int .i64 t] 3)).drew.cell? ⟨g, i, none⟩ = some (.slice A' xi.length c') := (((Kept.refl noX W3).alloc _).drew).cell x1
      clear hB3 hC3 hU3 hk3 hW3
      go_region_law_o (refine step_append_at rfl (.tmp 62) (.tmp 64) 22 rfl 0 3 i0 (.int .i64 0) 1 8 Try.underlying22 hi0 hz0 hz1 hz2 rfl (by decide) (.slice A' xi.length c') xi.length (xi.map (.int .i64)) (by simp [Act.eval]) HOA.out ⟨W3.heap.size, 0, none⟩ 1 1 [.int .i64 t] (by simp [Act.eval]) rfl HN.out (by intro u hu; obtain rfl := List.mem_singleton.1 hu; rfl) (by unfold maxLen; omega) (by omega) (Nat.zero_le _) ?_; intro v' W5 hown' hgrow hat; (have hk5 : Kept (fun k => (Value.slice A' xi.length c').ownBlock = some k) W3 W5 := ((((Kept.refl _ _).alloc _).drew).grown hgrow (fun k hk _ => hk))); (have hC5 := HC3.out.kept hk5 (fun e => own_ne HU3.out HC3.out (by decide) e)); (have hB5 := HB3.out.kept hk5 (fun e => own_ne HU3.out HB3.out (by decide) e)); (have c5 := hC5.cell i); rw [HCUR.out] at c5; (have f5 := hC5.free i); (have k5 := hB5.cell 1); simp only [List.getElem?_cons_zero, List.getElem?_cons_succ] at k5; (have HC5 := Lib.hid hC5); (have HB5 := Lib.hid hB5); (have HO5 := Lib.hid hown'); (have HAT := Lib.hid hat); obtain ⟨A5, n5, c5', rfl⟩ := own_form0 hown'; clear hC5 hB5 hown' hgrow hat)
      all_goals
        have hloc : (Value.slice A5 n5 c5').ownBlock = (Value.slice A' xi.length c').ownBlock ∨ (Value.slice A5 n5 c5').ownBlock = some (W3.heap.size + 1) := by
          have h := HAT.out
          rwa [show ((W3.alloc (.cells #[.int .i64 t] 3)).drew).heap.size = W3.heap.size + 1 from World.size_alloc _ _] at h
        have hkg : Kept (· = g) W5 (W5.setCell ⟨g, i, none⟩ (.slice A5 n5 c5')) := (Kept.refl (· = g) _).setCell (p := ⟨g, i, none⟩) (fun _ => rfl) _
        have hk25 : Kept (fun k => (Value.slice A' xi.length c').ownBlock = some k) W2 W5 := HK3.out.any.trans hk5
        have hbig : ∀ k, (Value.slice A5 n5 c5').ownBlock = some k → w.heap.size + 2 ≤ k := fun k hk => by
          rcases hloc with h1 | h1
          · have h2 := HUT.out k (h1.symm.trans hk)
            exact (HTB.out k (by rw [h2]; omega)).1
          · have h2 : W3.heap.size + 1 = k := Option.some.inj (h1.symm.trans hk)
            omega
        have hu' : RowV (W5.setCell ⟨g, i, none⟩ (.slice A5 n5 c5')) (· < w.heap.size + 2) (.slice A5 n5 c5') (dI (xi ++ [t])) := own_row (t := 3) (by
          have h := own_kept HO5.out hkg (fun k hk e => own_ne HO5.out HC5.out (by decide) (by rw [hk, e]))
          simpa using h) (fun k hk e => by have := hbig k hk; have e' : k < w.heap.size + 2 := e; omega)
        have hRV := HZ.out.rvC (Z := (· < w.heap.size + 2)) hi hk25 (fun k _ hk => .inr (HUT.out k hk)) (fun k hk => Classical.byContradiction fun h2 => by have := (HTB.out k h2).1; have hk' : k < w.heap.size + 2 := hk; omega) hu'
        have hownT : ∀ k, (Value.slice A' xi.length c').ownBlock = some k → w.heap.size + 2 ≤ k := fun k hk => (HTB.out k (by rw [HUT.out k hk]; omega)).1
        have HA6 := ((HX2.out.keep HK3.out).kept hk5 (fun h => by have := hownT _ h; omega)).kept hkg (by omega)
        have HB6 := HB5.out.kept hkg (by omega)
        have HK6 : Kept noX w (W5.setCell ⟨g, i, none⟩ (.slice A5 n5 c5')) := (HK2.out.join hk25 (fun k hk _ => by have := hownT k hk; omega)).own hkg (by omega)
        clear hu' hbig hownT hloc hk25 hk5 hkg
        generalize W5.setCell ⟨g, i, none⟩ (.slice A5 n5 c5') = W6 at hRV HA6 HB6 HK6 ⊢
        have k0' := HB6.cell 0
        have a0 := HA6.cell 0
        have f0 := HA6.free 0
        have k1' := HB6.cell 1
        have a1 := HA6.cell 1
        have f1 := HA6.free 1
        have k2' := HB6.cell 2
        have a2 := HA6.cell 2
        have f2 := HA6.free 2
        have k3' := HB6.cell 3
        have a3 := HA6.cell 3
        have f3 := HA6.free 3
        have k4' := HB6.cell 4
        have a4 := HA6.cell 4
        have f4 := HA6.free 4
        simp only [z5, List.getElem?_cons_zero, List.getElem?_cons_succ] at k0' k1' k2' k3' k4' a0 a1 a2 a3 a4
        have HA7 := Lib.hid HA6
        have HR7 := Lib.hid hRV
        have HK7 := Lib.hid HK6
        clear HA6 HB6 hRV HK6
        go_wp2_with fail
        refine ret_2 Try.results60 rfl (resVal.box rfl (((((HA7.out.put 0 _).put 1 _).put 2 _).put 3 _).put 4 _) Try.underlying33 rfl (by kernel_rfl)) (resVal.tmp rfl) ?_
        exact ⟨.inr ⟨hwt, _, rfl, (HR7.out.kept (Kept.put5 _ (w.heap.size + 1) _ _ _ _ _) (fun k _ h => (show k < w.heap.size + 2 by omega))).mono (fun k _ h => Nat.lt_of_lt_of_le (show k < w.heap.size from h) (by omega))⟩, HK7.out.own (Kept.put5 _ (w.heap.size + 1) _ _ _ _ _) (by omega)⟩
end
end Go.Proofs.Ytehcfahfbdphpaa
