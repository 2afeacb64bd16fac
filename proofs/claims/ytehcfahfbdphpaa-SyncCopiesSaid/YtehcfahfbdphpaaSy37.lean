/- Layer 4: the document's copy of a state (conditions: its lists are of at most 10^9). -/
import Derived.Test.YtehcfahfbdphpaaSy38
import Derived.Test.YtehcfahfbdphpaaRegInv
namespace Go.Proofs.Ytehcfahfbdphpaa
open Go.RowKit Go.Shelf
section
variable {P : Program} {ops : Array Oper} {Q : Exit → Act → World → Prop} {md : Region.Mode} {S : World → Prop}
theorem wpAnyH_invS (J : Array Bool → Act → World → Prop)
    (hstep : ∀ l a w, J l a w → ∀ i ∈ Region.ready md ops l, wpOp P ops Q i (fun a' w' => S w' ∧ J (l.setIfInBounds i true) a' w') a w)
    (hend : ∀ l a w, J l a w → Region.ready md ops l = [] → Q .normal a w) :
    ∀ fuel l a w, J l a w → unlisted l ≤ fuel → wpAnyH P md ops Q S fuel l a w := by
  intro fuel
  induction fuel with
  | zero =>
    intro l a w hJ hu
    have h0 : Region.ready md ops l = [] := by
      rw [List.eq_nil_iff_forall_not_mem]
      intro i hi
      obtain ⟨h1, h2, _⟩ := ready_iff.1 hi
      have := unlisted_set h2
      omega
    exact ⟨h0, hend l a w hJ h0⟩
  | succ fuel ih =>
    intro l a w hJ hu
    refine ⟨hend l a w hJ, fun i hi => wpOp_mono (fun a' w' h => ⟨h.1, ih _ a' w' h.2 ?_⟩) (hstep l a w hJ i hi)⟩
    have := unlisted_set (ready_iff.1 hi).2.1
    omega
theorem step_append_row {o : Oper} {a : Act} {w : World} {K : Act → World → Prop} {E : Prop} (hg : o.guard = none) (s x : Operand) (ts : TypeId)
    (hop : o.op = Op.call { callee := Callee.builtin Builtin.append, args := #[s, x], argTypes := #[ts, ts] }) (vs vx : Value) (hs : a.eval s = vs) (hx : a.eval x = vx) (v' : Value) (w' : World)
    (hr : (Builtin.append_ #[ts, ts] o.type #[vs, vx]).run P w = .ok v' w') (hK : K (a.put o.dst v') w') : if Region.wanted o (yielded ops a.tmps) = true then Oper.wp P o a w K Q else E := by
  have hw : Region.wanted o (yielded ops a.tmps) = true := by simp [Region.wanted, hg]
  rw [if_pos hw]
  unfold Oper.wp
  simp [execOp, hop, resolve, invoke, builtin, hs, hx, hr, Result.andThen]
  exact hK
end
set_option maxRecDepth 100000 in
set_option maxHeartbeats 8000000 in
theorem zcopy_any {w : World} {vs : List Value} {R : RS} (h : RV w noX vs R) (hb : RB R) :
    Calls Try.prog 87 #[.agg vs.toArray] w fun e W' => ∃ T u0 u1 u2 u3 u4 l1 l3, e = .returned (.agg #[u0, u1, u2, u3, u4]) ∧ ZP W' T u0 u1 u2 u3 u4 l1 l3 R ∧ TBd W' T w.heap.size ∧ Kept noX w W' := by
  obtain ⟨v0, v1, v2, v3, v4, rfl, h0, h1, h2, h3, h4⟩ := h
  obtain ⟨tk, htk⟩ : ∃ tk : List Int, tk = R.tk.map fun n : Nat => (n : Int) := ⟨_, rfl⟩
  have h4 : RowV w noX v4 (dI tk) := by rw [htk]; simpa [dN, List.map_map, Function.comp_def] using h4
  have hbt : tk.length ≤ 64 := by rw [htk, List.length_map]; exact hb.tk
  obtain ⟨A0, n0, c0, rfl, hn0, -⟩ := h0.form
  obtain ⟨A1, n1, c1, rfl, hn1, -⟩ := h1.form
  obtain ⟨A2, n2, c2, rfl, hn2, -⟩ := h2.form
  obtain ⟨A3, n3, c3, rfl, hn3, -⟩ := h3.form
  obtain ⟨A4, n4, c4, rfl, hn4, -⟩ := h4.form
  rw [List.length_map] at hn0 hn1 hn2 hn3 hn4
  subst hn0 hn1 hn2 hn3 hn4
  have H0 := Lib.hid h0
  have H1 := Lib.hid h1
  have H2 := Lib.hid h2
  have H3 := Lib.hid h3
  have H4 := Lib.hid h4
  have mixed : Try.prog.follows .mixedOrders = true := by kernel_rfl
  have HTK := Lib.hid htk
  clear h0 h1 h2 h3 h4 htk
  go_enter Try.func87, Try.ntmps87
  go_wp2_with fail
  obtain ⟨W0, hW0⟩ : ∃ W0, W0 = ((w.alloc (.cells #[.slice A0 R.ow.length c0, .slice A1 R.cs.length c1, .slice A2 R.rm.length c2, .slice A3 R.st.length c3, .slice A4 tk.length c4] 33)).alloc (.cells #[.slice none 0 0, .slice none 0 0, .slice none 0 0, .slice none 0 0, .slice none 0 0] 33)) := ⟨_, rfl⟩
  have hX : Cells W0 w.heap.size 33 [.slice A0 R.ow.length c0, .slice A1 R.cs.length c1, .slice A2 R.rm.length c2, .slice A3 R.st.length c3, .slice A4 tk.length c4] := by rw [hW0]; exact (Cells.fresh w 33 _).alloc _
  have hX2 : Cells W0 (w.heap.size + 1) 33 z5 := by
    rw [hW0]
    have h := Cells.fresh (w.alloc (.cells #[.slice A0 R.ow.length c0, .slice A1 R.cs.length c1, .slice A2 R.rm.length c2, .slice A3 R.st.length c3, .slice A4 tk.length c4] 33)) 33 z5
    rw [World.size_alloc] at h
    exact h
  have hk0 : Kept noX w W0 := by rw [hW0]; exact ((Kept.refl _ _).alloc _).alloc _
  rw [← hW0]
  clear hW0
  have p0 := hX.cell 0
  have p2 := hX.cell 2
  have p4 := hX.cell 4
  simp only [List.getElem?_cons_zero, List.getElem?_cons_succ] at p0 p2 p4
  have HX := Lib.hid hX.drew
  have HX2 := Lib.hid hX2.drew
  have HK0 := Lib.hid hk0.drew
  clear hX hX2 hk0
  refine wp_region_held_drew (S := (fun w' => w'.cell? ⟨w.heap.size, 0, none⟩ = some (.slice A0 R.ow.length c0) ∧ w'.cell? ⟨w.heap.size, 2, none⟩ = some (.slice A2 R.rm.length c2) ∧ w'.cell? ⟨w.heap.size, 4, none⟩ = some (.slice A4 tk.length c4))) (by kernel_rfl) ⟨p0, p2, p4⟩ (fun hHeld => ?_)
  refine wpAnyH_take (i := 1) (v := ?_) rfl (by kernel_rfl) (by kernel_rfl) (by kernel_rfl) (fun _ _ _ h => h) (Or.inl ⟨by rfl, ?_⟩) (by assumption) ?_
  rotate_left
  · intro wS hSw
    (try dsimp only at hSw)
    go_simp
    (try with_reducible rfl)
  refine wpAnyH_take (i := 2) (v := ?_) rfl (by kernel_rfl) (by kernel_rfl) (by kernel_rfl) (fun _ _ _ h => h) (Or.inl ⟨by rfl, ?_⟩) (by assumption) ?_
  rotate_left
  · intro wS hSw
    (try dsimp only at hSw)
    go_simp
    (try with_reducible rfl)
  refine wpAnyH_take (i := 5) (v := ?_) rfl (by kernel_rfl) (by kernel_rfl) (by kernel_rfl) (fun _ _ _ h => h) (Or.inl ⟨by rfl, ?_⟩) (by assumption) ?_
  rotate_left
  · intro wS hSw
    (try dsimp only at hSw)
    go_simp
    (try with_reducible rfl)
  refine wpAnyH_take (i := 6) (v := ?_) rfl (by kernel_rfl) (by kernel_rfl) (by kernel_rfl) (fun _ _ _ h => h) (Or.inl ⟨by rfl, ?_⟩) (by assumption) ?_
  rotate_left
  · intro wS hSw
    (try dsimp only at hSw)
    go_simp
    (try with_reducible rfl)
  refine wpAnyH_take (i := 9) (v := ?_) rfl (by kernel_rfl) (by kernel_rfl) (by kernel_rfl) (fun _ _ _ h => h) (Or.inl ⟨by rfl, ?_⟩) (by assumption) ?_
  rotate_left
  · intro wS hSw
    (try dsimp only at hSw)
    go_simp
    (try with_reducible rfl)
  refine wpAnyH_take (i := 10) (v := ?_) rfl (by kernel_rfl) (by kernel_rfl) (by kernel_rfl) (fun _ _ _ h => h) (Or.inl ⟨by rfl, ?_⟩) (by assumption) ?_
  rotate_left
  · intro wS hSw
    (try dsimp only at hSw)
    go_simp
    (try with_reducible rfl)
  (try simp only [Act.put, List.getElem_toArray, List.getElem_cons_succ, List.getElem_cons_zero, List.setIfInBounds_toArray, List.set_cons_zero, List.set_cons_succ])
  clear hHeld
  generalize W0.drew = w1 at HX HX2 HK0 ⊢
  clear p0 p2 p4
  clear W0
  have HSW : Hid (∀ W', Kept noX w1 W' → (fun w' : World => w'.cell? ⟨w.heap.size, 0, none⟩ = some (.slice A0 R.ow.length c0) ∧ w'.cell? ⟨w.heap.size, 2, none⟩ = some (.slice A2 R.rm.length c2) ∧ w'.cell? ⟨w.heap.size, 4, none⟩ = some (.slice A4 tk.length c4)) W') := Lib.hid (fun W' hk => ⟨hk.cell (HX.out.cell 0), hk.cell (HX.out.cell 2), hk.cell (HX.out.cell 4)⟩)
  generalize (fun w' : World => w'.cell? ⟨w.heap.size, 0, none⟩ = some (.slice A0 R.ow.length c0) ∧ w'.cell? ⟨w.heap.size, 2, none⟩ = some (.slice A2 R.rm.length c2) ∧ w'.cell? ⟨w.heap.size, 4, none⟩ = some (.slice A4 tk.length c4)) = SH at HSW ⊢
  generalize hagg : Value.agg #[.slice A0 R.ow.length c0, .slice A1 R.cs.length c1, .slice A2 R.rm.length c2, .slice A3 R.st.length c3, .slice A4 tk.length c4] = agg
  refine wpAnyH_invS (CpI w w1 agg (.slice A0 R.ow.length c0) (.slice A2 R.rm.length c2) (.slice A4 tk.length c4) R tk) ?hstep ?hend 9 _ _ _ ?h0 (by decide)
  case hstep =>
    rintro l a W ⟨T, b0, b3, b4, b7, b8, b11, b12, b13, b14, u3, u6, u9, u10, u13, u14, u17, u18, rfl, rfl, hk, hTB, ⟨he1, he2, he3⟩, ⟨hq1, hq2, hq3⟩, h12, hB, h14⟩ i hi
    obtain ⟨hi, hl, hd⟩ := ready_iff.1 hi
    have hi15 : i < 15 := hi
    have hcase : i = 0 ∨ i = 1 ∨ i = 2 ∨ i = 3 ∨ i = 4 ∨ i = 5 ∨ i = 6 ∨ i = 7 ∨ i = 8 ∨ i = 9 ∨ i = 10 ∨ i = 11 ∨ i = 12 ∨ i = 13 ∨ i = 14 := by omega
    have HE1 := Lib.hid he1
    have HE2 := Lib.hid he2
    have HE3 := Lib.hid he3
    have HQ1 := Lib.hid hq1
    have HQ2 := Lib.hid hq2
    have HQ3 := Lib.hid hq3
    have H12 := Lib.hid h12
    have HB := Lib.hid hB
    have H14 := Lib.hid h14
    have HK := Lib.hid hk
    have HTB := Lib.hid hTB
    have hks := hk.size
    clear he1 he2 he3 hq1 hq2 hq3 h12 hB h14 hk hTB hi hi15
    rcases hcase with rfl | rfl | rfl | rfl | rfl | rfl | rfl | rfl | rfl | rfl | rfl | rfl | rfl | rfl | rfl
    · skip
      refine wpOp_shut rfl (fun K hS => ?_)
      go_simp
      have hka : Kept noX W (W.alloc (.cells #[] 3)) := (Kept.refl _ _).alloc _
      have hn : ∀ tag, ∀ g, g < W.heap.size → noX g → T g ≠ tag := fun _ _ _ h => h.elim
      exact hS.out _ _ ⟨HSW.out _ (HK.out.trans hka), tnew T W.heap.size 1, true, b3, b4, b7, b8, b11, b12, b13, b14, u3, _, u9, u10, u13, u14, u17, u18, rfl, rfl, HK.out.trans hka, HTB.out.new hks _, ⟨fun _ _ => EmpQ.fresh, HE2.out.kept hka (hn _) tnew_old, HE3.out.kept hka (hn _) tnew_old⟩, ⟨HQ1.out.kept hka (hn 1) tnew_old, HQ2.out.kept hka (hn 2) tnew_old, HQ3.out.kept hka (hn 3) tnew_old⟩, H12.out, HB.out.kept hka (hn 0) tnew_old, H14.out⟩
    · cases hl
    · cases hl
    · have hd' : b0 = true := by simpa [Region.binds] using hd
      have hbf : b3 = false := hl
      have hn12 : ¬ b12 = true := fun h => by rw [(H12.out h).1.1] at hbf; cases hbf
      have hn14 : ¬ b14 = true := fun h => hn12 (H14.out h).1
      obtain ⟨g, rfl, hC, hTg⟩ := HE1.out hd' hbf
      have hle : R.ow.length ≤ 1000000000 := by have := hb.ow; (try simp only [List.length_map]); omega
      obtain ⟨v', W', hr, hown, hkg, hloc⟩ := append_row Try.underlying22 infoI hC (Rep.keep (show Rep w noX [_] _ from H0.out) (HK0.out.trans HK.out)) hle 22
      have hold := tgrow_old (W := W) (v := v') hTg hloc
      have hne : ∀ tag, 1 ≠ tag → ∀ k, k < W.heap.size → k = g → T k ≠ tag := fun tag h k _ e => by rw [e, hTg]; exact h
      have hne0 : ∀ k, k < W.heap.size → k = g → T k ≠ 0 := fun k _ e => by rw [e, hTg]; decide
      have hgB := (HTB.out g (by rw [hTg]; decide)).1
      have hkw : Kept noX w1 W' := HK.out.own hkg hgB
      have htb : TBd W' (tgrow T v' 1) w1.heap.size := HTB.out.grow hgB hks hloc (fun b hb => own_lt hown hb) hkg.size
      have hQA : QAt W' (tgrow T v' 1) 1 3 v' R.ow := ⟨hown, fun b hb => if_pos hb, hle⟩
      refine wpOp_shut rfl (fun K hS => ?_)
      refine step_append_row rfl (.tmp 6) (.tmp 8) 22 rfl _ _ rfl rfl _ _ hr ?_
      (try simp only [Act.put, List.getElem_toArray, List.getElem_cons_succ, List.getElem_cons_zero, List.setIfInBounds_toArray, List.set_cons_zero, List.set_cons_succ])
      exact hS.out _ _ ⟨HSW.out _ hkw, tgrow T v' 1, b0, true, b4, b7, b8, b11, b12, b13, b14, u3, _, _, u10, u13, u14, u17, u18, rfl, rfl, hkw, htb, ⟨(fun _ h => by cases h), HE2.out.kept hkg (hne 2 (by decide)) hold, HE3.out.kept hkg (hne 3 (by decide)) hold⟩, ⟨fun _ => hQA, HQ2.out.kept hkg (hne 2 (by decide)) hold, HQ3.out.kept hkg (hne 3 (by decide)) hold⟩, fun h => absurd h hn12, (HB.out.kept hkg hne0 hold).other _ _ _ hn14, H14.out⟩
    · skip
      refine wpOp_shut rfl (fun K hS => ?_)
      go_simp
      have hka : Kept noX W (W.alloc (.cells #[] 3)) := (Kept.refl _ _).alloc _
      have hn : ∀ tag, ∀ g, g < W.heap.size → noX g → T g ≠ tag := fun _ _ _ h => h.elim
      exact hS.out _ _ ⟨HSW.out _ (HK.out.trans hka), tnew T W.heap.size 2, b0, b3, true, b7, b8, b11, b12, b13, b14, u3, u6, u9, _, u13, u14, u17, u18, rfl, rfl, HK.out.trans hka, HTB.out.new hks _, ⟨HE1.out.kept hka (hn _) tnew_old, fun _ _ => EmpQ.fresh, HE3.out.kept hka (hn _) tnew_old⟩, ⟨HQ1.out.kept hka (hn 1) tnew_old, HQ2.out.kept hka (hn 2) tnew_old, HQ3.out.kept hka (hn 3) tnew_old⟩, H12.out, HB.out.kept hka (hn 0) tnew_old, H14.out⟩
    · cases hl
    · cases hl
    · have hd' : b4 = true ∧ b3 = true := by simpa [Region.binds] using hd
      have hbf : b7 = false := hl
      have hn12 : ¬ b12 = true := fun h => by rw [(H12.out h).1.2.1] at hbf; cases hbf
      have hn14 : ¬ b14 = true := fun h => hn12 (H14.out h).1
      obtain ⟨g, rfl, hC, hTg⟩ := HE2.out hd'.1 hbf
      have hle : R.rm.length ≤ 1000000000 := by have := hb.rm; (try simp only [List.length_map]); omega
      obtain ⟨v', W', hr, hown, hkg, hloc⟩ := append_row Try.underlying22 infoI hC (Rep.keep (show Rep w noX [_] _ from H2.out) (HK0.out.trans HK.out)) hle 22
      have hold := tgrow_old (W := W) (v := v') hTg hloc
      have hne : ∀ tag, 2 ≠ tag → ∀ k, k < W.heap.size → k = g → T k ≠ tag := fun tag h k _ e => by rw [e, hTg]; exact h
      have hne0 : ∀ k, k < W.heap.size → k = g → T k ≠ 0 := fun k _ e => by rw [e, hTg]; decide
      have hgB := (HTB.out g (by rw [hTg]; decide)).1
      have hkw : Kept noX w1 W' := HK.out.own hkg hgB
      have htb : TBd W' (tgrow T v' 2) w1.heap.size := HTB.out.grow hgB hks hloc (fun b hb => own_lt hown hb) hkg.size
      have hQA : QAt W' (tgrow T v' 2) 2 3 v' R.rm := ⟨hown, fun b hb => if_pos hb, hle⟩
      refine wpOp_shut rfl (fun K hS => ?_)
      refine step_append_row rfl (.tmp 10) (.tmp 12) 22 rfl _ _ rfl rfl _ _ hr ?_
      (try simp only [Act.put, List.getElem_toArray, List.getElem_cons_succ, List.getElem_cons_zero, List.setIfInBounds_toArray, List.set_cons_zero, List.set_cons_succ])
      exact hS.out _ _ ⟨HSW.out _ hkw, tgrow T v' 2, b0, b3, b4, true, b8, b11, b12, b13, b14, u3, u6, u9, _, _, u14, u17, u18, rfl, rfl, hkw, htb, ⟨HE1.out.kept hkg (hne 1 (by decide)) hold, (fun _ h => by cases h), HE3.out.kept hkg (hne 3 (by decide)) hold⟩, ⟨HQ1.out.kept hkg (hne 1 (by decide)) hold, fun _ => hQA, HQ3.out.kept hkg (hne 3 (by decide)) hold⟩, fun h => absurd h hn12, (HB.out.kept hkg hne0 hold).other _ _ _ hn14, H14.out⟩
    · skip
      refine wpOp_shut rfl (fun K hS => ?_)
      go_simp
      have hka : Kept noX W (W.alloc (.cells #[] 3)) := (Kept.refl _ _).alloc _
      have hn : ∀ tag, ∀ g, g < W.heap.size → noX g → T g ≠ tag := fun _ _ _ h => h.elim
      exact hS.out _ _ ⟨HSW.out _ (HK.out.trans hka), tnew T W.heap.size 3, b0, b3, b4, b7, true, b11, b12, b13, b14, u3, u6, u9, u10, u13, _, u17, u18, rfl, rfl, HK.out.trans hka, HTB.out.new hks _, ⟨HE1.out.kept hka (hn _) tnew_old, HE2.out.kept hka (hn _) tnew_old, fun _ _ => EmpQ.fresh⟩, ⟨HQ1.out.kept hka (hn 1) tnew_old, HQ2.out.kept hka (hn 2) tnew_old, HQ3.out.kept hka (hn 3) tnew_old⟩, H12.out, HB.out.kept hka (hn 0) tnew_old, H14.out⟩
    · cases hl
    · cases hl
    · have hd' : b8 = true ∧ b7 = true := by simpa [Region.binds] using hd
      have hbf : b11 = false := hl
      have hn12 : ¬ b12 = true := fun h => by rw [(H12.out h).1.2.2] at hbf; cases hbf
      have hn14 : ¬ b14 = true := fun h => hn12 (H14.out h).1
      obtain ⟨g, rfl, hC, hTg⟩ := HE3.out hd'.1 hbf
      have hle : tk.length ≤ 1000000000 := by have := hbt; (try simp only [List.length_map]); omega
      obtain ⟨v', W', hr, hown, hkg, hloc⟩ := append_row Try.underlying22 infoI hC (Rep.keep (show Rep w noX [_] _ from H4.out) (HK0.out.trans HK.out)) hle 22
      have hold := tgrow_old (W := W) (v := v') hTg hloc
      have hne : ∀ tag, 3 ≠ tag → ∀ k, k < W.heap.size → k = g → T k ≠ tag := fun tag h k _ e => by rw [e, hTg]; exact h
      have hne0 : ∀ k, k < W.heap.size → k = g → T k ≠ 0 := fun k _ e => by rw [e, hTg]; decide
      have hgB := (HTB.out g (by rw [hTg]; decide)).1
      have hkw : Kept noX w1 W' := HK.out.own hkg hgB
      have htb : TBd W' (tgrow T v' 3) w1.heap.size := HTB.out.grow hgB hks hloc (fun b hb => own_lt hown hb) hkg.size
      have hQA : QAt W' (tgrow T v' 3) 3 3 v' tk := ⟨hown, fun b hb => if_pos hb, hle⟩
      refine wpOp_shut rfl (fun K hS => ?_)
      refine step_append_row rfl (.tmp 14) (.tmp 16) 22 rfl _ _ rfl rfl _ _ hr ?_
      (try simp only [Act.put, List.getElem_toArray, List.getElem_cons_succ, List.getElem_cons_zero, List.setIfInBounds_toArray, List.set_cons_zero, List.set_cons_succ])
      exact hS.out _ _ ⟨HSW.out _ hkw, tgrow T v' 3, b0, b3, b4, b7, b8, true, b12, b13, b14, u3, u6, u9, u10, u13, _, _, u18, rfl, rfl, hkw, htb, ⟨HE1.out.kept hkg (hne 1 (by decide)) hold, HE2.out.kept hkg (hne 2 (by decide)) hold, (fun _ h => by cases h)⟩, ⟨HQ1.out.kept hkg (hne 1 (by decide)) hold, HQ2.out.kept hkg (hne 2 (by decide)) hold, fun _ => hQA⟩, fun h => absurd h hn12, (HB.out.kept hkg hne0 hold).other _ _ _ hn14, H14.out⟩
    · have hd' : b3 = true ∧ b7 = true ∧ b11 = true := by simpa [Region.binds] using hd
      obtain ⟨A1', n1', hf1⟩ := (HQ1.out hd'.1).form
      obtain ⟨A2', n2', hf2⟩ := (HQ2.out hd'.2.1).form
      obtain ⟨A3', n3', hf3⟩ := (HQ3.out hd'.2.2).form
      subst hf1 hf2 hf3
      refine wpOp_shut rfl (fun K hS => ?_)
      go_simp
      exact hS.out _ _ ⟨HSW.out _ HK.out, T, b0, b3, b4, b7, b8, b11, true, b13, b14, u3, u6, _, u10, _, u14, _, _, rfl, rfl, HK.out, HTB.out, ⟨HE1.out, HE2.out, HE3.out⟩, ⟨HQ1.out, HQ2.out, HQ3.out⟩, fun _ => ⟨hd', rfl⟩, HB.out, fun h => ⟨rfl, (H14.out h).2⟩⟩
    · have hb13 : b13 = false := hl
      have hn14 : ¬ b14 = true := fun h => by rw [(H14.out h).2] at hb13; cases hb13
      refine wpOp_shut rfl (fun K hS => ?_)
      go_simp
      have hka : Kept noX W (W.alloc (.cells #[.slice none 0 0, .slice none 0 0, .slice none 0 0, .slice none 0 0, .slice none 0 0] 33)) := (Kept.refl _ _).alloc _
      have hn : ∀ tag, ∀ g, g < W.heap.size → noX g → T g ≠ tag := fun _ _ _ h => h.elim
      have hT0 : T W.heap.size = 0 := Classical.byContradiction fun h => by have := HTB.out _ h; omega
      exact hS.out _ _ ⟨HSW.out _ (HK.out.trans hka), T, b0, b3, b4, b7, b8, b11, b12, true, b14, _, u6, u9, u10, u13, u14, u17, u18, rfl, rfl, HK.out.trans hka, fun g hg => by have := HTB.out g hg; rw [World.size_alloc]; omega, ⟨HE1.out.kept hka (hn 1) (fun _ _ => rfl), HE2.out.kept hka (hn 2) (fun _ _ => rfl), HE3.out.kept hka (hn 3) (fun _ _ => rfl)⟩, ⟨HQ1.out.kept hka (hn 1) (fun _ _ => rfl), HQ2.out.kept hka (hn 2) (fun _ _ => rfl), HQ3.out.kept hka (hn 3) (fun _ _ => rfl)⟩, H12.out, fun _ => ⟨_, rfl, hks, hT0, _, Cells.fresh W 33 z5, rfl, fun h => absurd h hn14⟩, fun h => absurd h hn14⟩
    · have hd3 : b13 = true ∧ b12 = true := by
        have hd' := hd
        simp [Region.binds] at hd'
        exact ⟨hd'.1, hd'.2.1⟩
      obtain ⟨⟨hb3, hb7, hb11⟩, rfl⟩ := H12.out hd3.2
      obtain ⟨A1', n1', hf1⟩ := (HQ1.out hb3).form
      obtain ⟨A2', n2', hf2⟩ := (HQ2.out hb7).form
      obtain ⟨A3', n3', hf3⟩ := (HQ3.out hb11).form
      subst hf1 hf2 hf3
      obtain ⟨g, rfl, hg, hTg, cs, hC, hcl, _⟩ := HB.out hd3.1
      obtain ⟨x0, x1, x2, x3, x4, rfl⟩ : ∃ x0 x1 x2 x3 x4, cs = [x0, x1, x2, x3, x4] := by
        match cs, hcl with
        | [x0, x1, x2, x3, x4], _ => exact ⟨x0, x1, x2, x3, x4, rfl⟩
      have p0 := hC.cell 0
      have p1 := hC.cell 1
      have p2 := hC.cell 2
      have p3 := hC.cell 3
      have p4 := hC.cell 4
      have q0 := hC.free 0
      have q1 := hC.free 1
      have q2 := hC.free 2
      have q3 := hC.free 3
      have q4 := hC.free 4
      simp only [List.getElem?_cons_zero, List.getElem?_cons_succ] at p0 p1 p2 p3 p4
      have HC := Lib.hid hC
      clear hC
      refine wpOp_shut rfl (fun K hS => ?_)
      go_simp
      have hka : Kept (· = g) W (((((W.setCell ⟨g, 0, none⟩ (.slice A1' R.ow.length n1')).setCell ⟨g, 1, none⟩ (.slice none 0 0)).setCell ⟨g, 2, none⟩ (.slice A2' R.rm.length n2')).setCell ⟨g, 3, none⟩ (.slice none 0 0)).setCell ⟨g, 4, none⟩ (.slice A3' tk.length n3')) :=
        (((((Kept.refl (· = g) W).setCell (p := ⟨g, 0, none⟩) (fun _ => rfl) _).setCell (p := ⟨g, 1, none⟩) (fun _ => rfl) _).setCell (p := ⟨g, 2, none⟩) (fun _ => rfl) _).setCell (p := ⟨g, 3, none⟩) (fun _ => rfl) _).setCell (p := ⟨g, 4, none⟩) (fun _ => rfl) _
      have hn : ∀ tag, 0 ≠ tag → ∀ k, k < W.heap.size → k = g → T k ≠ tag := fun tag h k _ e => by rw [e, hTg]; exact h
      exact hS.out _ _ ⟨HSW.out _ (HK.out.own hka hg), T, b0, b3, b4, b7, b8, b11, b12, b13, true, _, u6, _, u10, _, u14, _, _, rfl, rfl, HK.out.own hka hg, fun k hk => by have := HTB.out k hk; have := hka.size; omega, ⟨HE1.out.kept hka (hn 1 (by decide)) (fun _ _ => rfl), HE2.out.kept hka (hn 2 (by decide)) (fun _ _ => rfl), HE3.out.kept hka (hn 3 (by decide)) (fun _ _ => rfl)⟩, ⟨HQ1.out.kept hka (hn 1 (by decide)) (fun _ _ => rfl), HQ2.out.kept hka (hn 2 (by decide)) (fun _ _ => rfl), HQ3.out.kept hka (hn 3 (by decide)) (fun _ _ => rfl)⟩, fun _ => ⟨⟨hb3, hb7, hb11⟩, rfl⟩, fun _ => ⟨g, rfl, hg, hTg, _, ((((HC.out.put 0 _).put 1 _).put 2 _).put 3 _).put 4 _, rfl, fun _ => rfl⟩, fun _ => ⟨hd3.2, hd3.1⟩⟩
  case h0 =>
    refine ⟨fun _ => 0, false, false, false, false, false, false, false, false, false, undef, undef, undef, undef, undef, undef, undef, undef, rfl, by rw [← hagg], Kept.refl _ _, fun g h => absurd rfl h, ⟨?_, ?_, ?_⟩, ⟨?_, ?_, ?_⟩, ?_, ?_, ?_⟩
    all_goals (intro h; cases h)
  case hend =>
    rintro l a W ⟨T, b0, b3, b4, b7, b8, b11, b12, b13, b14, u3, u6, u9, u10, u13, u14, u17, u18, rfl, rfl, hk, hTB, -, ⟨hq1, hq2, hq3⟩, -, hB, -⟩ hr0
    have hb0 : b0 = true := by
      cases b0 with
      | true => rfl
      | false => exact absurd (hr0 ▸ ready_iff.2 ⟨by decide, rfl, by simp [Region.binds]⟩ : 0 ∈ ([] : List Nat)) (by simp)
    subst hb0
    have hb3 : b3 = true := by
      cases b3 with
      | true => rfl
      | false => exact absurd (hr0 ▸ ready_iff.2 ⟨by decide, rfl, by simp [Region.binds]⟩ : 3 ∈ ([] : List Nat)) (by simp)
    subst hb3
    have hb4 : b4 = true := by
      cases b4 with
      | true => rfl
      | false => exact absurd (hr0 ▸ ready_iff.2 ⟨by decide, rfl, by simp [Region.binds]⟩ : 4 ∈ ([] : List Nat)) (by simp)
    subst hb4
    have hb7 : b7 = true := by
      cases b7 with
      | true => rfl
      | false => exact absurd (hr0 ▸ ready_iff.2 ⟨by decide, rfl, by simp [Region.binds]⟩ : 7 ∈ ([] : List Nat)) (by simp)
    subst hb7
    have hb8 : b8 = true := by
      cases b8 with
      | true => rfl
      | false => exact absurd (hr0 ▸ ready_iff.2 ⟨by decide, rfl, by simp [Region.binds]⟩ : 8 ∈ ([] : List Nat)) (by simp)
    subst hb8
    have hb11 : b11 = true := by
      cases b11 with
      | true => rfl
      | false => exact absurd (hr0 ▸ ready_iff.2 ⟨by decide, rfl, by simp [Region.binds]⟩ : 11 ∈ ([] : List Nat)) (by simp)
    subst hb11
    have hb12 : b12 = true := by
      cases b12 with
      | true => rfl
      | false => exact absurd (hr0 ▸ ready_iff.2 ⟨by decide, rfl, by simp [Region.binds]⟩ : 12 ∈ ([] : List Nat)) (by simp)
    subst hb12
    have hb13 : b13 = true := by
      cases b13 with
      | true => rfl
      | false => exact absurd (hr0 ▸ ready_iff.2 ⟨by decide, rfl, by simp [Region.binds]⟩ : 13 ∈ ([] : List Nat)) (by simp)
    subst hb13
    have hb14 : b14 = true := by
      cases b14 with
      | true => rfl
      | false => exact absurd (hr0 ▸ ready_iff.2 ⟨by decide, rfl, by simp [Region.binds]⟩ : 14 ∈ ([] : List Nat)) (by simp)
    subst hb14
    obtain ⟨gb, rfl, hgb, hTg, cs, hC, -, hcs⟩ := hB rfl
    obtain rfl := hcs rfl
    have hq1 := hq1 rfl
    have hq2 := hq2 rfl
    have hq3 := hq3 rfl
    have hI : LpC w1 gb u9 u13 u17 R 0 W := ⟨T, _, [], hC, ⟨⟨hq1, hq2, by rw [← HTK.out]; exact hq3⟩, ⟨World.ownsRow_nil _ _ _ _, fun g h => by cases h⟩, ⟨World.ownsRow_nil _ _ _ _, fun g h => by cases h⟩, fun i h => by simp at h, fun i h => by simp at h⟩, hTB, hTg, hk⟩
    obtain ⟨A9, n9, hf9⟩ := hq1.form
    obtain ⟨A13, n13, hf13⟩ := hq2.form
    obtain ⟨A17, n17, hf17⟩ := hq3.form
    subst hf9 hf13 hf17
    have HI := Lib.hid hI
    have HSZ := Lib.hid (show w.heap.size + 1 < w1.heap.size from HX2.out.lt)
    clear hk hTB hB hTg hC hcs hI hr0 hq1 hq2 hq3 HSW
    dsimp only
    go_wp2_with fail
    go_loopw [4] (fun i wr => ∃ k : Nat, k ≤ R.cs.length ∧ i = .int .i64 k ∧ LpC w1 gb (.slice A9 R.ow.length n9) (.slice A13 R.rm.length n13) (.slice A17 tk.length n17) R k wr) (fun i _ => R.cs.length - (intOf i).toNat)
    case atStart => exact ⟨0, Nat.zero_le _, rfl, HI.out⟩
    case round =>
      obtain ⟨k, hk, rfl, T1, v1, l1, hC, hZ, hTB, hTg, hkr⟩ := hrel
      have s1 := (hkr.cell (HX.out.cell 1))
      (try simp only [List.getElem?_cons_zero, List.getElem?_cons_succ] at s1)
      by_cases hlt : k < R.cs.length
      · have hdl : decide ((k : Int) < (R.cs.length : Int)) = true := by simpa using hlt
        obtain ⟨b, o, c, A, n, ci, hveq, hcell, hn, hrow⟩ := rowL_at H1.out hlt
        injection hveq with hA _ hcq
        subst hA hcq hn
        have hbl := block_lt_of_cell hcell
        have q0 := (HK0.out.trans hkr).cell hcell
        have HROW := Lib.hid (Rep.keep (Rep.mono (show Rep w noX [_] _ from hrow) (Z' := fun g => w1.heap.size ≤ g) (fun g hg h => by have := HK0.out.size; omega)) (HK0.out.trans hkr))
        have hxl := hb.ci k hlt
        have HXS := Lib.hid (show R.cs.take (k + 1) = R.cs.take k ++ [R.cs[k]] by rw [List.take_succ_eq_append_getElem hlt])
        have hlen : (R.cs.take k).length = k := by simp; omega
        generalize R.cs[k] = xs at *
        have hlen' : ({ R with cs := R.cs.take k, st := [] } : RS).cs.length = k := hlen
        obtain ⟨Av, cv, rfl, hkc, _⟩ := own_formN hZ.2.1.1
        rw [hlen'] at hZ hC hkc
        have HOB := Lib.hid hZ.2.1.2
        have HGB := Lib.hid hgb
        have HFAR : Hid (∀ g', g' < wr.heap.size → ((Value.slice Av k cv).ownBlock = some g' ∨ g' = gb) → w1.heap.size ≤ g') := Lib.hid (fun g' _ h => h.elim (fun h => (hTB g' (by rw [hZ.2.1.2 g' h]; decide)).1) (fun h => by omega))
        have HZ := Lib.hid hZ
        have HTB := Lib.hid hTB
        have HTG := Lib.hid hTg
        have HKR := Lib.hid hkr
        have HC := Lib.hid hC
        have HLEN := Lib.hid hlen
        clear hZ hTB hTg hkr hC hlen hrow hcell
        go_wp2_with fail
        have hoX : ∀ b', (Value.slice Av k cv).ownBlock = some b' ∨ b' = gb → w1.heap.size ≤ b' := fun b' h => by
          rcases h with h | rfl
          · exact (HTB.out b' (by rw [HOB.out b' h]; decide)).1
          · exact HGB.out
        have HSW : Hid (∀ W', Kept (fun b' => (Value.slice Av k cv).ownBlock = some b' ∨ b' = gb) wr.drew W' → (fun w' : World => w'.cell? ⟨w.heap.size, 1, none⟩ = some (.slice (some ⟨b, o, none⟩) R.cs.length c1) ∧ w'.cell? ⟨b, o + k, none⟩ = some (.slice A xs.length ci)) W') := Lib.hid (fun W' hk' => ⟨hk'.cell_far s1 (fun h => by have := hoX _ h; have := HSZ.out; omega), hk'.cell_far q0 (fun h => by have := hoX _ h; have := HSZ.out; omega)⟩)
        refine wp_region_held_drew (S := (fun w' => w'.cell? ⟨w.heap.size, 1, none⟩ = some (.slice (some ⟨b, o, none⟩) R.cs.length c1) ∧ w'.cell? ⟨b, o + k, none⟩ = some (.slice A xs.length ci))) (by kernel_rfl) ⟨s1, q0⟩ (fun hHeld => ?_)
        refine wpAnyH_take (i := 0) (v := ?_) rfl (by kernel_rfl) (by kernel_rfl) (by kernel_rfl) (fun _ _ _ h => h) (Or.inl ⟨by rfl, ?_⟩) (by assumption) ?_
        rotate_left
        · intro wS hSw
          (try dsimp only at hSw)
          go_simp
          (try with_reducible rfl)
        refine wpAnyH_take (i := 3) (v := ?_) rfl (by kernel_rfl) (by kernel_rfl) (by kernel_rfl) (fun _ _ _ h => h) (Or.inl ⟨by rfl, ?_⟩) (by assumption) ?_
        rotate_left
        · intro wS hSw
          (try dsimp only at hSw)
          go_simp
          (try with_reducible rfl)
        refine wpAnyH_take (i := 4) (v := ?_) rfl (by kernel_rfl) (by kernel_rfl) (by kernel_rfl) (fun _ _ _ h => h) (Or.inl ⟨by rfl, ?_⟩) (by assumption) ?_
        rotate_left
        · intro wS hSw
          (try dsimp only at hSw)
          go_simp
          (try with_reducible rfl)
        refine wpAnyH_take (i := 5) (v := ?_) rfl (by kernel_rfl) (by kernel_rfl) (by kernel_rfl) (fun _ _ _ h => h) (Or.inl ⟨by rfl, ?_⟩) (by assumption) ?_
        rotate_left
        · intro wS hSw
          (try dsimp only at hSw)
          go_simp
          (try with_reducible rfl)
        (try simp only [Act.put, List.getElem_toArray, List.getElem_cons_succ, List.getElem_cons_zero, List.setIfInBounds_toArray, List.set_cons_zero, List.set_cons_succ])
        refine wpAnyH_take (i := 6) (v := ?_) rfl (by kernel_rfl) (by kernel_rfl) (by kernel_rfl) (fun _ _ _ h => h) (Or.inl ⟨by rfl, ?_⟩) (by assumption) ?_
        rotate_left
        · intro wS hSw
          (try dsimp only at hSw)
          go_simp
          (try with_reducible rfl)
        refine wpAnyH_take (i := 7) (v := ?_) rfl (by kernel_rfl) (by kernel_rfl) (by kernel_rfl) (fun _ _ _ h => h) (Or.inl ⟨by rfl, ?_⟩) (by assumption) ?_
        rotate_left
        · intro wS hSw
          (try dsimp only at hSw)
          go_simp
          (try with_reducible rfl)
        (try simp only [Act.put, List.getElem_toArray, List.getElem_cons_succ, List.getElem_cons_zero, List.setIfInBounds_toArray, List.set_cons_zero, List.set_cons_succ])
        clear hHeld
        generalize (fun w' : World => w'.cell? ⟨w.heap.size, 1, none⟩ = some (.slice (some ⟨b, o, none⟩) R.cs.length c1) ∧ w'.cell? ⟨b, o + k, none⟩ = some (.slice A xs.length ci)) = SH' at HSW ⊢
        have HZ2 := Lib.hid (HZ.out.keep ((Kept.refl _ _).drew))
        have HC2 := Lib.hid HC.out.drew
        have HROW2 := Lib.hid (Rep.keep HROW.out ((Kept.refl _ _).drew))
        have HSZ2 := Lib.hid (show wr.drew.heap.size = wr.heap.size from rfl)
        have HK2 := Lib.hid (show Kept noX wr wr.drew from (Kept.refl _ _).drew)
        generalize wr.drew = w2 at HSW HZ2 HC2 HROW2 HSZ2 HK2 ⊢
        obtain ⟨i0, hi0, hz0, hz1, hz2⟩ := info_parts infoL
        have hne4 : ∀ b', b' ≠ gb → (Value.slice Av k cv).ownBlock ≠ some b' → ¬ ((Value.slice Av k cv).ownBlock = some b' ∨ b' = gb) := fun b' h1 h2 h => h.elim h2 h1
        have hgbv : (Value.slice Av k cv).ownBlock ≠ some gb := fun h => by have := HOB.out gb h; rw [HTG.out] at this; cases this
        have hk64 : k ≤ 64 := by have := hb.cs; omega
        refine wpAnyH_invS (CiJ w2 gb 3 22 (.slice Av k cv) k l1 xs 1 (fun v => [.slice A9 R.ow.length n9, v, .slice A13 R.rm.length n13, .slice none 0 0, .slice A17 tk.length n17]) (fun U27 U28 U34 U35 U36 U37 : Value => ({ tmps := #[agg, .pointer (some ⟨w.heap.size, 0, none⟩), .pointer (some ⟨w.heap.size + 1, 0, none⟩), .pointer (some ⟨gb, 0, none⟩), .int .i64 k, undef, u6, .pointer (some ⟨w.heap.size, 0, none⟩), .slice A0 R.ow.length c0, .slice A9 R.ow.length n9, u10, .pointer (some ⟨w.heap.size, 2, none⟩), .slice A2 R.rm.length c2, .slice A13 R.rm.length n13, u14, .pointer (some ⟨w.heap.size, 4, none⟩), .slice A4 tk.length c4, .slice A17 tk.length n17, u18, .int .i64 k, .pointer (some ⟨w.heap.size, 1, none⟩), .slice (some ⟨b, o, none⟩) R.cs.length c1, .int .i64 R.cs.length, .bool true, u24, u25, .pointer (some ⟨gb, 1, none⟩), U27, U28, .pointer (some ⟨w.heap.size, 1, none⟩), .slice (some ⟨b, o, none⟩) R.cs.length c1, .int .i64 k, .pointer (some ⟨b, o + k, none⟩), .slice A xs.length ci, U34, U35, U36, U37, undef, undef, undef, undef, undef, undef, undef, undef, undef, undef, undef, undef, undef, undef, undef, undef, undef, undef, undef, undef], defers := [] } : Act))) ?hstep ?hend 7 _ _ _ ?h0 (by decide)
        case hstep =>
          clear HI s1 q0
          rintro l a W3 ⟨b1, b2, b8, b9, b10, b11, b12, U27, U28, U34, U35, U36, U37, rfl, rfl, hk3, hv, hbx, h1, h2, h8, h9, h10, h11, h12⟩ i hi
          obtain ⟨hi, hl, hd⟩ := ready_iff.1 hi
          have hi13 : i < 13 := hi
          have hcase : i = 0 ∨ i = 1 ∨ i = 2 ∨ i = 3 ∨ i = 4 ∨ i = 5 ∨ i = 6 ∨ i = 7 ∨ i = 8 ∨ i = 9 ∨ i = 10 ∨ i = 11 ∨ i = 12 := by omega
          have HK3 := Lib.hid hk3
          have HV := Lib.hid hv
          have HBX := Lib.hid hbx
          have G1 := Lib.hid h1
          have G2 := Lib.hid h2
          have G8 := Lib.hid h8
          have G9 := Lib.hid h9
          have G10 := Lib.hid h10
          have G11 := Lib.hid h11
          have G12 := Lib.hid h12
          have hks := hk3.size
          clear hk3 hv hbx h1 h2 h8 h9 h10 h11 h12 hi hi13
          rcases hcase with rfl | rfl | rfl | rfl | rfl | rfl | rfl | rfl | rfl | rfl | rfl | rfl | rfl
          · cases hl
          · have hb1 : b1 = false := hl
            have hb10 : b10 = false := by cases b10 with | false => rfl | true => exact absurd ((G10.out rfl).1.2.symm.trans hb1) (by decide)
            have hb12 : b12 = false := by cases b12 with | false => rfl | true => exact absurd ((G11.out (G12.out rfl)).2.symm.trans hb10) (by decide)
            have x1 := HBX.out.cell 1
            rw [hb12] at x1
            simp only [List.getElem?_cons_zero, List.getElem?_cons_succ, Bool.false_eq_true, if_false] at x1
            refine wpOp_shut rfl (fun K hS => ?_)
            go_simp
            exact hS.out _ _ ⟨HSW.out _ HK3.out, true, b2, b8, b9, b10, b11, b12, _, U28, U34, U35, U36, U37, rfl, rfl, HK3.out, HV.out, HBX.out, fun _ => rfl, G2.out, G8.out, G9.out, fun h => ⟨⟨(G10.out h).1.1, rfl⟩, (G10.out h).2⟩, G11.out, G12.out⟩
          · have hb2 : b2 = false := hl
            have hka : Kept noX W3 (W3.alloc (.cells #[] 3)) := (Kept.refl _ _).alloc _
            refine wpOp_shut rfl (fun K hS => ?_)
            go_simp
            exact hS.out _ _ ⟨HSW.out _ (HK3.out.trans hka.any), b1, true, b8, b9, b10, b11, b12, U27, _, U34, U35, U36, U37, rfl, rfl, HK3.out.trans hka.any, fun h => (HV.out h).alloc _, HBX.out.keep hka, G1.out, fun _ _ => ⟨_, rfl, Cells.fresh W3 3 [], hks⟩, fun h => ⟨((G8.out h).1).alloc _, (G8.out h).2⟩, fun h => ⟨(G9.out h).1, fun h' => by obtain ⟨g, e1, e2, e3⟩ := (G9.out h).2 h'; exact ⟨g, e1, e2.keep hka, e3⟩⟩, fun h => ⟨(G10.out h).1, ((G10.out h).2.1).alloc _, (G10.out h).2.2⟩, G11.out, G12.out⟩
          · cases hl
          · cases hl
          · cases hl
          · cases hl
          · cases hl
          · have hd' : b2 = true := by simpa [Region.binds] using hd
            have hb8 : b8 = false := hl
            have hb9 : b9 = false := by cases b9 with | false => rfl | true => exact absurd ((G9.out rfl).1.symm.trans hb8) (by decide)
            have hb10 : b10 = false := by cases b10 with | false => rfl | true => exact absurd ((G10.out rfl).1.1.symm.trans hb9) (by decide)
            have hb11 : b11 = false := by cases b11 with | false => rfl | true => exact absurd ((G11.out rfl).2.symm.trans hb10) (by decide)
            have hb12 : b12 = false := by cases b12 with | false => rfl | true => exact absurd ((G12.out rfl).symm.trans hb11) (by decide)
            subst hb8 hb9 hb10 hb11 hb12
            obtain ⟨g, rfl, hC2, hg2⟩ := G2.out hd' rfl
            have hrw : RowV W3 noX (.slice A xs.length ci) (dI xs) := (Rep.mono HROW2.out (Z' := fun b' => (Value.slice Av k cv).ownBlock = some b' ∨ b' = gb) (fun g' hg' h' => HFAR.out g' (by have := HSZ2.out; omega) h')).kept HK3.out (fun _ _ h => h) |>.any
            obtain ⟨v', W4, hr, hown, hkg, hloc⟩ := append_row Try.underlying22 infoI hC2 hrw hxl 22
            have hgv : (Value.slice Av k cv).ownBlock ≠ some g := fun h => own_ne (HV.out rfl) hC2 (by decide) h
            have hgg : gb ≠ g := cells_ne HBX.out hC2 (by decide)
            refine wpOp_shut rfl (fun K hS => ?_)
            refine step_append_row rfl (.tmp 28) (.tmp 33) 22 rfl _ _ rfl rfl _ _ hr ?_
            (try simp only [Act.put, List.getElem_toArray, List.getElem_cons_succ, List.getElem_cons_zero, List.setIfInBounds_toArray, List.set_cons_zero, List.set_cons_succ])
            have hk4 : Kept (fun b' => (Value.slice Av k cv).ownBlock = some b' ∨ b' = gb) w2 W4 := HK3.out.own hkg hg2
            exact hS.out _ _ ⟨HSW.out _ hk4, b1, b2, true, false, false, false, false, U27, _, _, U35, U36, U37, rfl, rfl, hk4, fun h => own_kept (HV.out h) hkg (fun g' h' e => hgv (by rw [h', e])), HBX.out.kept hkg hgg, G1.out, fun _ h => (by cases h), fun _ => ⟨hown, fun b' h => by rcases hloc b' h with h | h <;> omega⟩, fun h => (by cases h), fun h => (by cases h), fun h => (by cases h), fun h => (by cases h)⟩
          · have hd' : b8 = true := by simpa [Region.binds] using hd
            have hb9 : b9 = false := hl
            have hb10 : b10 = false := by cases b10 with | false => rfl | true => exact absurd ((G10.out rfl).1.1.symm.trans hb9) (by decide)
            have hb11 : b11 = false := by cases b11 with | false => rfl | true => exact absurd ((G11.out rfl).2.symm.trans hb10) (by decide)
            have hb12 : b12 = false := by cases b12 with | false => rfl | true => exact absurd ((G12.out rfl).symm.trans hb11) (by decide)
            subst hb9 hb10 hb11 hb12
            obtain ⟨A8, c8, hf8, _, _⟩ := own_formN (G8.out hd').1
            subst hf8
            have hka : Kept noX W3 (W3.alloc (.cells #[.slice A8 xs.length c8] 22)) := (Kept.refl _ _).alloc _
            refine wpOp_shut rfl (fun K hS => ?_)
            go_simp
            exact hS.out _ _ ⟨HSW.out _ (HK3.out.trans hka.any), b1, b2, b8, true, false, false, false, U27, U28, _, _, U36, U37, rfl, rfl, HK3.out.trans hka.any, fun h => (HV.out h).alloc _, HBX.out.keep hka, G1.out, fun h h' => by obtain ⟨g, e1, e2, e3⟩ := G2.out h h'; exact ⟨g, e1, e2.keep hka, e3⟩, fun h => ⟨((G8.out h).1).alloc _, (G8.out h).2⟩, fun _ => ⟨hd', fun _ => ⟨_, rfl, Cells.fresh W3 22 [.slice A8 xs.length c8], hks⟩⟩, fun h => (by cases h), fun h => (by cases h), fun h => (by cases h)⟩
          · have hd' : b1 = true ∧ b9 = true := by
              have hd2 := hd
              simp [Region.binds] at hd2
              exact ⟨hd2.1, hd2.2.1⟩
            have hb10 : b10 = false := hl
            have hb11 : b11 = false := by cases b11 with | false => rfl | true => exact absurd ((G11.out rfl).2.symm.trans hb10) (by decide)
            have hb12 : b12 = false := by cases b12 with | false => rfl | true => exact absurd ((G12.out rfl).symm.trans hb11) (by decide)
            subst hb10 hb11 hb12
            obtain ⟨h8, h9⟩ := G9.out hd'.2
            obtain ⟨g, rfl, hC9, hg9⟩ := h9 rfl
            obtain rfl := G1.out hd'.1
            obtain ⟨A8, c8, hf8, _, _⟩ := own_formN (G8.out h8).1
            subst hf8
            refine wpOp_shut rfl (fun K hS => ?_)
            refine step_append_at rfl (.tmp 27) (.tmp 35) 30 rfl 0 22 i0 (.slice none 0 0) 1 24 Try.underlying30 hi0 hz0 hz1 hz2 rfl (by decide) (.slice Av k cv) k l1 rfl (HV.out rfl) ⟨g, 0, none⟩ 1 1 [.slice A8 xs.length c8] rfl rfl (fun j u hj => by rw [Addr.add_lit, Nat.zero_add, hC9.cell]; exact hj) (by intro u hu; obtain rfl := List.mem_singleton.1 hu; rfl) (by unfold maxLen; omega) (by omega) (Nat.zero_le _) ?_
            intro v' W4 hown' hgrow hat
            (try simp only [Act.put, List.getElem_toArray, List.getElem_cons_succ, List.getElem_cons_zero, List.setIfInBounds_toArray, List.set_cons_zero, List.set_cons_succ])
            have hk34 : Kept (fun b' => (Value.slice Av k cv).ownBlock = some b') W3 W4 := (Kept.refl _ _).grown hgrow (fun b' h _ => h)
            have hk4 : Kept (fun b' => (Value.slice Av k cv).ownBlock = some b' ∨ b' = gb) w2 W4 := HK3.out.trans (hk34.mono (fun b' _ h => .inl h))
            have hbl4 : ∀ b', v'.ownBlock = some b' → (Value.slice Av k cv).ownBlock = some b' ∨ w2.heap.size ≤ b' := fun b' h => by
              rcases hat with h1 | h1
              · exact .inl (h1.symm.trans h)
              · right; have := Option.some.inj (h1.symm.trans h); omega
            exact hS.out _ _ ⟨HSW.out _ hk4, b1, b2, b8, b9, true, false, false, _, U28, _, _, _, U37, rfl, rfl, hk4, fun h => (by cases h), HBX.out.kept hk34 hgbv, fun _ => rfl, fun h h' => absurd h8 (by rw [h']; decide), fun h => ⟨own_kept (G8.out h).1 hk34 (fun g' h' e => own_types (G8.out h).1 (HV.out rfl) h' e (by decide)), (G8.out h).2⟩, fun h => ⟨h8, fun h' => (by cases h')⟩, fun _ => ⟨⟨hd'.2, hd'.1⟩, hown', hbl4⟩, fun h => (by cases h), fun h => (by cases h)⟩
          · have hd' : b10 = true := by
              have hd2 := hd
              simp [Region.binds] at hd2
              exact hd2.2.2.2.2
            have hb11 : b11 = false := hl
            have hb12 : b12 = false := by cases b12 with | false => rfl | true => exact absurd ((G12.out rfl).symm.trans hb11) (by decide)
            subst hb12
            refine wpOp_shut rfl (fun K hS => ?_)
            go_simp
            exact hS.out _ _ ⟨HSW.out _ HK3.out, b1, b2, b8, b9, b10, true, false, U27, U28, U34, U35, U36, _, rfl, rfl, HK3.out, HV.out, HBX.out, G1.out, G2.out, G8.out, G9.out, G10.out, fun _ => ⟨rfl, hd'⟩, fun h => (by cases h)⟩
          · have hd' : b11 = true := by
              have hd2 := hd
              simp [Region.binds] at hd2
              exact hd2.1
            have hb12 : b12 = false := hl
            subst hb12
            obtain ⟨rfl, hb10⟩ := G11.out hd'
            obtain ⟨hb91, hown', hbl4⟩ := G10.out hb10
            obtain ⟨A8, c8, hf8, _, _⟩ := own_formN hown'
            subst hf8
            have x1 := HBX.out.cell 1
            have f1 := HBX.out.free 1
            simp only [List.getElem?_cons_zero, List.getElem?_cons_succ, Bool.false_eq_true, if_false] at x1
            have HOWN := Lib.hid hown'
            have hkc : Kept (· = gb) W3 (W3.setCell ⟨gb, 1, none⟩ (.slice A8 (k + 1) c8)) := (Kept.refl (· = gb) _).setCell (p := ⟨gb, 1, none⟩) (fun _ => rfl) _
            have hk4 : Kept (fun b' => (Value.slice Av k cv).ownBlock = some b' ∨ b' = gb) w2 (W3.setCell ⟨gb, 1, none⟩ (.slice A8 (k + 1) c8)) := HK3.out.trans (hkc.mono (fun b' _ h => .inr h))
            have hng : ∀ {v : Value} {n : Nat} {t : TypeId} {ys : List Value}, W3.ownsRow 0 t 1 v n ys → t ≠ 33 → ∀ g', v.ownBlock = some g' → ¬ g' = gb := fun h1 h2 g' h3 e => own_ne h1 HBX.out h2 (by rw [h3, e])
            clear hown'
            refine wpOp_shut rfl (fun K hS => ?_)
            go_simp
            exact hS.out _ _ ⟨HSW.out _ hk4, b1, b2, b8, b9, b10, b11, true, U27, U28, U34, U35, _, _, rfl, rfl, hk4, fun h => (by rw [h] at hb10; cases hb10), HBX.out.put 1 _, G1.out, fun h h' => absurd (G9.out hb91.1).1 (by rw [h']; decide), fun h => ⟨own_kept (G8.out h).1 hkc (hng (G8.out h).1 (by decide)), (G8.out h).2⟩, fun h => ⟨(G9.out h).1, fun h' => (by rw [h'] at hb10; cases hb10)⟩, fun _ => ⟨hb91, own_kept HOWN.out hkc (hng HOWN.out (by decide)), hbl4⟩, fun h => ⟨rfl, hb10⟩, fun _ => hd'⟩
        case h0 =>
          refine ⟨false, false, false, false, false, false, false, _, _, _, _, _, _, rfl, rfl, Kept.refl _ _, fun _ => by have h := HZ2.out.2.1.1; have e := HLEN.out; simp only [] at h; rw [e] at h; exact h, HC2.out, ?_, ?_, ?_, ?_, ?_, ?_, ?_⟩
          all_goals (intro h; cases h)
        case hend =>
          rintro l a W3 ⟨b1, b2, b8, b9, b10, b11, b12, U27, U28, U34, U35, U36, U37, rfl, rfl, hk3, hv, hbx, h1, h2, h8, h9, h10, h11, h12⟩ hr3
          have hb1 : b1 = true := by
            cases b1 with
            | true => rfl
            | false => exact absurd (hr3 ▸ ready_iff.2 ⟨by decide, rfl, by simp [Region.binds]⟩ : 1 ∈ ([] : List Nat)) (by simp)
          subst hb1
          have hb2 : b2 = true := by
            cases b2 with
            | true => rfl
            | false => exact absurd (hr3 ▸ ready_iff.2 ⟨by decide, rfl, by simp [Region.binds]⟩ : 2 ∈ ([] : List Nat)) (by simp)
          subst hb2
          have hb8 : b8 = true := by
            cases b8 with
            | true => rfl
            | false => exact absurd (hr3 ▸ ready_iff.2 ⟨by decide, rfl, by simp [Region.binds]⟩ : 8 ∈ ([] : List Nat)) (by simp)
          subst hb8
          have hb9 : b9 = true := by
            cases b9 with
            | true => rfl
            | false => exact absurd (hr3 ▸ ready_iff.2 ⟨by decide, rfl, by simp [Region.binds]⟩ : 9 ∈ ([] : List Nat)) (by simp)
          subst hb9
          have hb10 : b10 = true := by
            cases b10 with
            | true => rfl
            | false => exact absurd (hr3 ▸ ready_iff.2 ⟨by decide, rfl, by simp [Region.binds]⟩ : 10 ∈ ([] : List Nat)) (by simp)
          subst hb10
          have hb11 : b11 = true := by
            cases b11 with
            | true => rfl
            | false => exact absurd (hr3 ▸ ready_iff.2 ⟨by decide, rfl, by simp [Region.binds]⟩ : 11 ∈ ([] : List Nat)) (by simp)
          subst hb11
          have hb12 : b12 = true := by
            cases b12 with
            | true => rfl
            | false => exact absurd (hr3 ▸ ready_iff.2 ⟨by decide, rfl, by simp [Region.binds]⟩ : 12 ∈ ([] : List Nat)) (by simp)
          subst hb12
          obtain ⟨-, hown', hbl4⟩ := h10 rfl
          obtain ⟨hu1, hu2⟩ := h8 rfl
          have hL4 := HLEN.out
          have hadd := HZ2.out.addC hk3 HTG.out hu1 hxl hu2 (by simp only []; rw [hL4]; exact hown') hbl4
          obtain ⟨T', hZ', hT1, hT2⟩ := hadd
          simp only [] at hZ'
          rw [← HXS.out] at hZ'
          have hks3 := hk3.size
          have hrel : LpC w1 gb (.slice A9 R.ow.length n9) (.slice A13 R.rm.length n13) (.slice A17 tk.length n17) R (k + 1) W3 :=
            ⟨T', _, _, hbx, hZ', fun g' h' => (by
              rcases hT2 g' h' with h | h
              · have := HTB.out g' h; have := HSZ2.out; omega
              · have := HKR.out.size; have := HSZ2.out; omega), (hT1 gb HC2.out.lt).trans HTG.out, (HKR.out.trans HK2.out).join hk3 (fun g' h' hl' => by have := hoX g' h'; omega)⟩
          have HREL := Lib.hid hrel
          clear hrel hZ' hT1 hT2 hk3 hv hbx h1 h2 h8 h9 h10 h11 h12 hown' hbl4 hu1 hu2 hL4 HI
          dsimp only
          go_wp2_with fail
          go_roundw
          case rel => exact ⟨k + 1, hlt, by go_num, HREL.out⟩
          case measure => simp [intOf]; omega
      · have hdl : decide ((k : Int) < (R.cs.length : Int)) = false := by simpa using hlt
        obtain rfl : k = R.cs.length := by omega
        rw [List.take_length] at hZ
        have hI : LpS w1 gb (.slice A9 R.ow.length n9) v1 (.slice A13 R.rm.length n13) (.slice A17 tk.length n17) l1 R 0 wr := ⟨T1, _, [], hC, hZ, hTB, hTg, hkr⟩
        obtain ⟨Av1, cv1, rfl, _, _⟩ := own_formN hZ.2.1.1
        have HI := Lib.hid hI
        clear hI hZ hC hTB hTg hkr
        go_wp2_with fail
        clear s1
        go_loopw [5] (fun i wr => ∃ k : Nat, k ≤ R.st.length ∧ i = .int .i64 k ∧ LpS w1 gb (.slice A9 R.ow.length n9) (.slice Av1 R.cs.length cv1) (.slice A13 R.rm.length n13) (.slice A17 tk.length n17) l1 R k wr) (fun i _ => R.st.length - (intOf i).toNat)
        case atStart => exact ⟨0, Nat.zero_le _, rfl, HI.out⟩
        case round =>
          obtain ⟨k, hk, rfl, T1, v3, l3, hC, hZ, hTB, hTg, hkr⟩ := hrel
          have s1 := (hkr.cell (HX.out.cell 3))
          by_cases hlt : k < R.st.length
          · have hdl : decide ((k : Int) < (R.st.length : Int)) = true := by simpa using hlt
            obtain ⟨b, o, c, A, n, ci, hveq, hcell, hn, hrow⟩ := rowL_at H3.out hlt
            injection hveq with hA _ hcq
            subst hA hcq hn
            have hbl := block_lt_of_cell hcell
            have q0 := (HK0.out.trans hkr).cell hcell
            have HROW := Lib.hid (Rep.keep (Rep.mono (show Rep w noX [_] _ from hrow) (Z' := fun g => w1.heap.size ≤ g) (fun g hg h => by have := HK0.out.size; omega)) (HK0.out.trans hkr))
            have hxl := hb.si k hlt
            have HXS := Lib.hid (show R.st.take (k + 1) = R.st.take k ++ [R.st[k]] by rw [List.take_succ_eq_append_getElem hlt])
            have hlen : (R.st.take k).length = k := by simp; omega
            generalize R.st[k] = xs at *
            have hlen' : ({ R with st := R.st.take k } : RS).st.length = k := hlen
            obtain ⟨Av, cv, rfl, hkc, _⟩ := own_formN hZ.2.2.1.1
            rw [hlen'] at hZ hC hkc
            have HOB := Lib.hid hZ.2.2.1.2
            have HGB := Lib.hid hgb
            have HFAR : Hid (∀ g', g' < wr.heap.size → ((Value.slice Av k cv).ownBlock = some g' ∨ g' = gb) → w1.heap.size ≤ g') := Lib.hid (fun g' _ h => h.elim (fun h => (hTB g' (by rw [hZ.2.2.1.2 g' h]; decide)).1) (fun h => by omega))
            have HZ := Lib.hid hZ
            have HTB := Lib.hid hTB
            have HTG := Lib.hid hTg
            have HKR := Lib.hid hkr
            have HC := Lib.hid hC
            have HLEN := Lib.hid hlen
            clear hZ hTB hTg hkr hC hlen hrow hcell
            go_wp2_with fail
            have hoX : ∀ b', (Value.slice Av k cv).ownBlock = some b' ∨ b' = gb → w1.heap.size ≤ b' := fun b' h => by
              rcases h with h | rfl
              · exact (HTB.out b' (by rw [HOB.out b' h]; decide)).1
              · exact HGB.out
            have HSW : Hid (∀ W', Kept (fun b' => (Value.slice Av k cv).ownBlock = some b' ∨ b' = gb) wr.drew W' → (fun w' : World => w'.cell? ⟨w.heap.size, 3, none⟩ = some (.slice (some ⟨b, o, none⟩) R.st.length c3) ∧ w'.cell? ⟨b, o + k, none⟩ = some (.slice A xs.length ci)) W') := Lib.hid (fun W' hk' => ⟨hk'.cell_far s1 (fun h => by have := hoX _ h; have := HSZ.out; omega), hk'.cell_far q0 (fun h => by have := hoX _ h; have := HSZ.out; omega)⟩)
            refine wp_region_held_drew (S := (fun w' => w'.cell? ⟨w.heap.size, 3, none⟩ = some (.slice (some ⟨b, o, none⟩) R.st.length c3) ∧ w'.cell? ⟨b, o + k, none⟩ = some (.slice A xs.length ci))) (by kernel_rfl) ⟨s1, q0⟩ (fun hHeld => ?_)
            refine wpAnyH_take (i := 0) (v := ?_) rfl (by kernel_rfl) (by kernel_rfl) (by kernel_rfl) (fun _ _ _ h => h) (Or.inl ⟨by rfl, ?_⟩) (by assumption) ?_
            rotate_left
            · intro wS hSw
              (try dsimp only at hSw)
              go_simp
              (try with_reducible rfl)
            refine wpAnyH_take (i := 3) (v := ?_) rfl (by kernel_rfl) (by kernel_rfl) (by kernel_rfl) (fun _ _ _ h => h) (Or.inl ⟨by rfl, ?_⟩) (by assumption) ?_
            rotate_left
            · intro wS hSw
              (try dsimp only at hSw)
              go_simp
              (try with_reducible rfl)
            refine wpAnyH_take (i := 4) (v := ?_) rfl (by kernel_rfl) (by kernel_rfl) (by kernel_rfl) (fun _ _ _ h => h) (Or.inl ⟨by rfl, ?_⟩) (by assumption) ?_
            rotate_left
            · intro wS hSw
              (try dsimp only at hSw)
              go_simp
              (try with_reducible rfl)
            refine wpAnyH_take (i := 5) (v := ?_) rfl (by kernel_rfl) (by kernel_rfl) (by kernel_rfl) (fun _ _ _ h => h) (Or.inl ⟨by rfl, ?_⟩) (by assumption) ?_
            rotate_left
            · intro wS hSw
              (try dsimp only at hSw)
              go_simp
              (try with_reducible rfl)
            (try simp only [Act.put, List.getElem_toArray, List.getElem_cons_succ, List.getElem_cons_zero, List.setIfInBounds_toArray, List.set_cons_zero, List.set_cons_succ])
            refine wpAnyH_take (i := 6) (v := ?_) rfl (by kernel_rfl) (by kernel_rfl) (by kernel_rfl) (fun _ _ _ h => h) (Or.inl ⟨by rfl, ?_⟩) (by assumption) ?_
            rotate_left
            · intro wS hSw
              (try dsimp only at hSw)
              go_simp
              (try with_reducible rfl)
            refine wpAnyH_take (i := 7) (v := ?_) rfl (by kernel_rfl) (by kernel_rfl) (by kernel_rfl) (fun _ _ _ h => h) (Or.inl ⟨by rfl, ?_⟩) (by assumption) ?_
            rotate_left
            · intro wS hSw
              (try dsimp only at hSw)
              go_simp
              (try with_reducible rfl)
            (try simp only [Act.put, List.getElem_toArray, List.getElem_cons_succ, List.getElem_cons_zero, List.setIfInBounds_toArray, List.set_cons_zero, List.set_cons_succ])
            clear hHeld
            generalize (fun w' : World => w'.cell? ⟨w.heap.size, 3, none⟩ = some (.slice (some ⟨b, o, none⟩) R.st.length c3) ∧ w'.cell? ⟨b, o + k, none⟩ = some (.slice A xs.length ci)) = SH' at HSW ⊢
            have HZ2 := Lib.hid (HZ.out.keep ((Kept.refl _ _).drew))
            have HC2 := Lib.hid HC.out.drew
            have HROW2 := Lib.hid (Rep.keep HROW.out ((Kept.refl _ _).drew))
            have HSZ2 := Lib.hid (show wr.drew.heap.size = wr.heap.size from rfl)
            have HK2 := Lib.hid (show Kept noX wr wr.drew from (Kept.refl _ _).drew)
            generalize wr.drew = w2 at HSW HZ2 HC2 HROW2 HSZ2 HK2 ⊢
            obtain ⟨i0, hi0, hz0, hz1, hz2⟩ := info_parts infoL64
            have hne4 : ∀ b', b' ≠ gb → (Value.slice Av k cv).ownBlock ≠ some b' → ¬ ((Value.slice Av k cv).ownBlock = some b' ∨ b' = gb) := fun b' h1 h2 h => h.elim h2 h1
            have hgbv : (Value.slice Av k cv).ownBlock ≠ some gb := fun h => by have := HOB.out gb h; rw [HTG.out] at this; cases this
            have hk64 : k ≤ 64 := by have := hb.st; omega
            refine wpAnyH_invS (CiJ w2 gb 2 47 (.slice Av k cv) k l3 xs 3 (fun v => [.slice A9 R.ow.length n9, .slice Av1 R.cs.length cv1, .slice A13 R.rm.length n13, v, .slice A17 tk.length n17]) (fun U27 U28 U34 U35 U36 U37 : Value => ({ tmps := #[agg, .pointer (some ⟨w.heap.size, 0, none⟩), .pointer (some ⟨w.heap.size + 1, 0, none⟩), .pointer (some ⟨gb, 0, none⟩), .int .i64 R.cs.length, .int .i64 k, u6, .pointer (some ⟨w.heap.size, 0, none⟩), .slice A0 R.ow.length c0, .slice A9 R.ow.length n9, u10, .pointer (some ⟨w.heap.size, 2, none⟩), .slice A2 R.rm.length c2, .slice A13 R.rm.length n13, u14, .pointer (some ⟨w.heap.size, 4, none⟩), .slice A4 tk.length c4, .slice A17 tk.length n17, u18, .int .i64 R.cs.length, .pointer (some ⟨w.heap.size, 1, none⟩), .slice A1 R.cs.length c1, .int .i64 R.cs.length, .bool false, u24, u25, u26, u27, u28, u29, u30, u31, u32, u33, u34, u35, u36, u37, .int .i64 k, .pointer (some ⟨w.heap.size, 3, none⟩), .slice (some ⟨b, o, none⟩) R.st.length c3, .int .i64 R.st.length, .bool true, u43, u44, .pointer (some ⟨gb, 3, none⟩), U27, U28, .pointer (some ⟨w.heap.size, 3, none⟩), .slice (some ⟨b, o, none⟩) R.st.length c3, .int .i64 k, .pointer (some ⟨b, o + k, none⟩), .slice A xs.length ci, U34, U35, U36, U37, undef], defers := [] } : Act))) ?hstep ?hend 7 _ _ _ ?h0 (by decide)
            case hstep =>
              clear HI s1 q0
              rintro l a W3 ⟨b1, b2, b8, b9, b10, b11, b12, U27, U28, U34, U35, U36, U37, rfl, rfl, hk3, hv, hbx, h1, h2, h8, h9, h10, h11, h12⟩ i hi
              obtain ⟨hi, hl, hd⟩ := ready_iff.1 hi
              have hi13 : i < 13 := hi
              have hcase : i = 0 ∨ i = 1 ∨ i = 2 ∨ i = 3 ∨ i = 4 ∨ i = 5 ∨ i = 6 ∨ i = 7 ∨ i = 8 ∨ i = 9 ∨ i = 10 ∨ i = 11 ∨ i = 12 := by omega
              have HK3 := Lib.hid hk3
              have HV := Lib.hid hv
              have HBX := Lib.hid hbx
              have G1 := Lib.hid h1
              have G2 := Lib.hid h2
              have G8 := Lib.hid h8
              have G9 := Lib.hid h9
              have G10 := Lib.hid h10
              have G11 := Lib.hid h11
              have G12 := Lib.hid h12
              have hks := hk3.size
              clear hk3 hv hbx h1 h2 h8 h9 h10 h11 h12 hi hi13
              rcases hcase with rfl | rfl | rfl | rfl | rfl | rfl | rfl | rfl | rfl | rfl | rfl | rfl | rfl
              · cases hl
              · have hb1 : b1 = false := hl
                have hb10 : b10 = false := by cases b10 with | false => rfl | true => exact absurd ((G10.out rfl).1.2.symm.trans hb1) (by decide)
                have hb12 : b12 = false := by cases b12 with | false => rfl | true => exact absurd ((G11.out (G12.out rfl)).2.symm.trans hb10) (by decide)
                have x1 := HBX.out.cell 3
                rw [hb12] at x1
                simp only [List.getElem?_cons_zero, List.getElem?_cons_succ, Bool.false_eq_true, if_false] at x1
                refine wpOp_shut rfl (fun K hS => ?_)
                go_simp
                exact hS.out _ _ ⟨HSW.out _ HK3.out, true, b2, b8, b9, b10, b11, b12, _, U28, U34, U35, U36, U37, rfl, rfl, HK3.out, HV.out, HBX.out, fun _ => rfl, G2.out, G8.out, G9.out, fun h => ⟨⟨(G10.out h).1.1, rfl⟩, (G10.out h).2⟩, G11.out, G12.out⟩
              · have hb2 : b2 = false := hl
                have hka : Kept noX W3 (W3.alloc (.cells #[] 2)) := (Kept.refl _ _).alloc _
                refine wpOp_shut rfl (fun K hS => ?_)
                go_simp
                exact hS.out _ _ ⟨HSW.out _ (HK3.out.trans hka.any), b1, true, b8, b9, b10, b11, b12, U27, _, U34, U35, U36, U37, rfl, rfl, HK3.out.trans hka.any, fun h => (HV.out h).alloc _, HBX.out.keep hka, G1.out, fun _ _ => ⟨_, rfl, Cells.fresh W3 2 [], hks⟩, fun h => ⟨((G8.out h).1).alloc _, (G8.out h).2⟩, fun h => ⟨(G9.out h).1, fun h' => by obtain ⟨g, e1, e2, e3⟩ := (G9.out h).2 h'; exact ⟨g, e1, e2.keep hka, e3⟩⟩, fun h => ⟨(G10.out h).1, ((G10.out h).2.1).alloc _, (G10.out h).2.2⟩, G11.out, G12.out⟩
              · cases hl
              · cases hl
              · cases hl
              · cases hl
              · cases hl
              · have hd' : b2 = true := by simpa [Region.binds] using hd
                have hb8 : b8 = false := hl
                have hb9 : b9 = false := by cases b9 with | false => rfl | true => exact absurd ((G9.out rfl).1.symm.trans hb8) (by decide)
                have hb10 : b10 = false := by cases b10 with | false => rfl | true => exact absurd ((G10.out rfl).1.1.symm.trans hb9) (by decide)
                have hb11 : b11 = false := by cases b11 with | false => rfl | true => exact absurd ((G11.out rfl).2.symm.trans hb10) (by decide)
                have hb12 : b12 = false := by cases b12 with | false => rfl | true => exact absurd ((G12.out rfl).symm.trans hb11) (by decide)
                subst hb8 hb9 hb10 hb11 hb12
                obtain ⟨g, rfl, hC2, hg2⟩ := G2.out hd' rfl
                have hrw : RowV W3 noX (.slice A xs.length ci) (dI xs) := (Rep.mono HROW2.out (Z' := fun b' => (Value.slice Av k cv).ownBlock = some b' ∨ b' = gb) (fun g' hg' h' => HFAR.out g' (by have := HSZ2.out; omega) h')).kept HK3.out (fun _ _ h => h) |>.any
                obtain ⟨v', W4, hr, hown, hkg, hloc⟩ := append_row Try.underlying47 infoI64 hC2 hrw hxl 47
                have hgv : (Value.slice Av k cv).ownBlock ≠ some g := fun h => own_ne (HV.out rfl) hC2 (by decide) h
                have hgg : gb ≠ g := cells_ne HBX.out hC2 (by decide)
                refine wpOp_shut rfl (fun K hS => ?_)
                refine step_append_row rfl (.tmp 47) (.tmp 52) 47 rfl _ _ rfl rfl _ _ hr ?_
                (try simp only [Act.put, List.getElem_toArray, List.getElem_cons_succ, List.getElem_cons_zero, List.setIfInBounds_toArray, List.set_cons_zero, List.set_cons_succ])
                have hk4 : Kept (fun b' => (Value.slice Av k cv).ownBlock = some b' ∨ b' = gb) w2 W4 := HK3.out.own hkg hg2
                exact hS.out _ _ ⟨HSW.out _ hk4, b1, b2, true, false, false, false, false, U27, _, _, U35, U36, U37, rfl, rfl, hk4, fun h => own_kept (HV.out h) hkg (fun g' h' e => hgv (by rw [h', e])), HBX.out.kept hkg hgg, G1.out, fun _ h => (by cases h), fun _ => ⟨hown, fun b' h => by rcases hloc b' h with h | h <;> omega⟩, fun h => (by cases h), fun h => (by cases h), fun h => (by cases h), fun h => (by cases h)⟩
              · have hd' : b8 = true := by simpa [Region.binds] using hd
                have hb9 : b9 = false := hl
                have hb10 : b10 = false := by cases b10 with | false => rfl | true => exact absurd ((G10.out rfl).1.1.symm.trans hb9) (by decide)
                have hb11 : b11 = false := by cases b11 with | false => rfl | true => exact absurd ((G11.out rfl).2.symm.trans hb10) (by decide)
                have hb12 : b12 = false := by cases b12 with | false => rfl | true => exact absurd ((G12.out rfl).symm.trans hb11) (by decide)
                subst hb9 hb10 hb11 hb12
                obtain ⟨A8, c8, hf8, _, _⟩ := own_formN (G8.out hd').1
                subst hf8
                have hka : Kept noX W3 (W3.alloc (.cells #[.slice A8 xs.length c8] 47)) := (Kept.refl _ _).alloc _
                refine wpOp_shut rfl (fun K hS => ?_)
                go_simp
                exact hS.out _ _ ⟨HSW.out _ (HK3.out.trans hka.any), b1, b2, b8, true, false, false, false, U27, U28, _, _, U36, U37, rfl, rfl, HK3.out.trans hka.any, fun h => (HV.out h).alloc _, HBX.out.keep hka, G1.out, fun h h' => by obtain ⟨g, e1, e2, e3⟩ := G2.out h h'; exact ⟨g, e1, e2.keep hka, e3⟩, fun h => ⟨((G8.out h).1).alloc _, (G8.out h).2⟩, fun _ => ⟨hd', fun _ => ⟨_, rfl, Cells.fresh W3 47 [.slice A8 xs.length c8], hks⟩⟩, fun h => (by cases h), fun h => (by cases h), fun h => (by cases h)⟩
              · have hd' : b1 = true ∧ b9 = true := by
                  have hd2 := hd
                  simp [Region.binds] at hd2
                  exact ⟨hd2.1, hd2.2.1⟩
                have hb10 : b10 = false := hl
                have hb11 : b11 = false := by cases b11 with | false => rfl | true => exact absurd ((G11.out rfl).2.symm.trans hb10) (by decide)
                have hb12 : b12 = false := by cases b12 with | false => rfl | true => exact absurd ((G12.out rfl).symm.trans hb11) (by decide)
                subst hb10 hb11 hb12
                obtain ⟨h8, h9⟩ := G9.out hd'.2
                obtain ⟨g, rfl, hC9, hg9⟩ := h9 rfl
                obtain rfl := G1.out hd'.1
                obtain ⟨A8, c8, hf8, _, _⟩ := own_formN (G8.out h8).1
                subst hf8
                refine wpOp_shut rfl (fun K hS => ?_)
                refine step_append_at rfl (.tmp 46) (.tmp 54) 31 rfl 0 47 i0 (.slice none 0 0) 1 24 Try.underlying31 hi0 hz0 hz1 hz2 rfl (by decide) (.slice Av k cv) k l3 rfl (HV.out rfl) ⟨g, 0, none⟩ 1 1 [.slice A8 xs.length c8] rfl rfl (fun j u hj => by rw [Addr.add_lit, Nat.zero_add, hC9.cell]; exact hj) (by intro u hu; obtain rfl := List.mem_singleton.1 hu; rfl) (by unfold maxLen; omega) (by omega) (Nat.zero_le _) ?_
                intro v' W4 hown' hgrow hat
                (try simp only [Act.put, List.getElem_toArray, List.getElem_cons_succ, List.getElem_cons_zero, List.setIfInBounds_toArray, List.set_cons_zero, List.set_cons_succ])
                have hk34 : Kept (fun b' => (Value.slice Av k cv).ownBlock = some b') W3 W4 := (Kept.refl _ _).grown hgrow (fun b' h _ => h)
                have hk4 : Kept (fun b' => (Value.slice Av k cv).ownBlock = some b' ∨ b' = gb) w2 W4 := HK3.out.trans (hk34.mono (fun b' _ h => .inl h))
                have hbl4 : ∀ b', v'.ownBlock = some b' → (Value.slice Av k cv).ownBlock = some b' ∨ w2.heap.size ≤ b' := fun b' h => by
                  rcases hat with h1 | h1
                  · exact .inl (h1.symm.trans h)
                  · right; have := Option.some.inj (h1.symm.trans h); omega
                exact hS.out _ _ ⟨HSW.out _ hk4, b1, b2, b8, b9, true, false, false, _, U28, _, _, _, U37, rfl, rfl, hk4, fun h => (by cases h), HBX.out.kept hk34 hgbv, fun _ => rfl, fun h h' => absurd h8 (by rw [h']; decide), fun h => ⟨own_kept (G8.out h).1 hk34 (fun g' h' e => own_types (G8.out h).1 (HV.out rfl) h' e (by decide)), (G8.out h).2⟩, fun h => ⟨h8, fun h' => (by cases h')⟩, fun _ => ⟨⟨hd'.2, hd'.1⟩, hown', hbl4⟩, fun h => (by cases h), fun h => (by cases h)⟩
              · have hd' : b10 = true := by
                  have hd2 := hd
                  simp [Region.binds] at hd2
                  exact hd2.2.2.2.2
                have hb11 : b11 = false := hl
                have hb12 : b12 = false := by cases b12 with | false => rfl | true => exact absurd ((G12.out rfl).symm.trans hb11) (by decide)
                subst hb12
                refine wpOp_shut rfl (fun K hS => ?_)
                go_simp
                exact hS.out _ _ ⟨HSW.out _ HK3.out, b1, b2, b8, b9, b10, true, false, U27, U28, U34, U35, U36, _, rfl, rfl, HK3.out, HV.out, HBX.out, G1.out, G2.out, G8.out, G9.out, G10.out, fun _ => ⟨rfl, hd'⟩, fun h => (by cases h)⟩
              · have hd' : b11 = true := by
                  have hd2 := hd
                  simp [Region.binds] at hd2
                  exact hd2.1
                have hb12 : b12 = false := hl
                subst hb12
                obtain ⟨rfl, hb10⟩ := G11.out hd'
                obtain ⟨hb91, hown', hbl4⟩ := G10.out hb10
                obtain ⟨A8, c8, hf8, _, _⟩ := own_formN hown'
                subst hf8
                have x1 := HBX.out.cell 3
                have f1 := HBX.out.free 3
                simp only [List.getElem?_cons_zero, List.getElem?_cons_succ, Bool.false_eq_true, if_false] at x1
                have HOWN := Lib.hid hown'
                have hkc : Kept (· = gb) W3 (W3.setCell ⟨gb, 3, none⟩ (.slice A8 (k + 1) c8)) := (Kept.refl (· = gb) _).setCell (p := ⟨gb, 3, none⟩) (fun _ => rfl) _
                have hk4 : Kept (fun b' => (Value.slice Av k cv).ownBlock = some b' ∨ b' = gb) w2 (W3.setCell ⟨gb, 3, none⟩ (.slice A8 (k + 1) c8)) := HK3.out.trans (hkc.mono (fun b' _ h => .inr h))
                have hng : ∀ {v : Value} {n : Nat} {t : TypeId} {ys : List Value}, W3.ownsRow 0 t 1 v n ys → t ≠ 33 → ∀ g', v.ownBlock = some g' → ¬ g' = gb := fun h1 h2 g' h3 e => own_ne h1 HBX.out h2 (by rw [h3, e])
                clear hown'
                refine wpOp_shut rfl (fun K hS => ?_)
                go_simp
                exact hS.out _ _ ⟨HSW.out _ hk4, b1, b2, b8, b9, b10, b11, true, U27, U28, U34, U35, _, _, rfl, rfl, hk4, fun h => (by rw [h] at hb10; cases hb10), HBX.out.put 3 _, G1.out, fun h h' => absurd (G9.out hb91.1).1 (by rw [h']; decide), fun h => ⟨own_kept (G8.out h).1 hkc (hng (G8.out h).1 (by decide)), (G8.out h).2⟩, fun h => ⟨(G9.out h).1, fun h' => (by rw [h'] at hb10; cases hb10)⟩, fun _ => ⟨hb91, own_kept HOWN.out hkc (hng HOWN.out (by decide)), hbl4⟩, fun h => ⟨rfl, hb10⟩, fun _ => hd'⟩
            case h0 =>
              refine ⟨false, false, false, false, false, false, false, _, _, _, _, _, _, rfl, rfl, Kept.refl _ _, fun _ => by have h := HZ2.out.2.2.1.1; have e := HLEN.out; simp only [] at h; rw [e] at h; exact h, HC2.out, ?_, ?_, ?_, ?_, ?_, ?_, ?_⟩
              all_goals (intro h; cases h)
            case hend =>
              rintro l a W3 ⟨b1, b2, b8, b9, b10, b11, b12, U27, U28, U34, U35, U36, U37, rfl, rfl, hk3, hv, hbx, h1, h2, h8, h9, h10, h11, h12⟩ hr3
              have hb1 : b1 = true := by
                cases b1 with
                | true => rfl
                | false => exact absurd (hr3 ▸ ready_iff.2 ⟨by decide, rfl, by simp [Region.binds]⟩ : 1 ∈ ([] : List Nat)) (by simp)
              subst hb1
              have hb2 : b2 = true := by
                cases b2 with
                | true => rfl
                | false => exact absurd (hr3 ▸ ready_iff.2 ⟨by decide, rfl, by simp [Region.binds]⟩ : 2 ∈ ([] : List Nat)) (by simp)
              subst hb2
              have hb8 : b8 = true := by
                cases b8 with
                | true => rfl
                | false => exact absurd (hr3 ▸ ready_iff.2 ⟨by decide, rfl, by simp [Region.binds]⟩ : 8 ∈ ([] : List Nat)) (by simp)
              subst hb8
              have hb9 : b9 = true := by
                cases b9 with
                | true => rfl
                | false => exact absurd (hr3 ▸ ready_iff.2 ⟨by decide, rfl, by simp [Region.binds]⟩ : 9 ∈ ([] : List Nat)) (by simp)
              subst hb9
              have hb10 : b10 = true := by
                cases b10 with
                | true => rfl
                | false => exact absurd (hr3 ▸ ready_iff.2 ⟨by decide, rfl, by simp [Region.binds]⟩ : 10 ∈ ([] : List Nat)) (by simp)
              subst hb10
              have hb11 : b11 = true := by
                cases b11 with
                | true => rfl
                | false => exact absurd (hr3 ▸ ready_iff.2 ⟨by decide, rfl, by simp [Region.binds]⟩ : 11 ∈ ([] : List Nat)) (by simp)
              subst hb11
              have hb12 : b12 = true := by
                cases b12 with
                | true => rfl
                | false => exact absurd (hr3 ▸ ready_iff.2 ⟨by decide, rfl, by simp [Region.binds]⟩ : 12 ∈ ([] : List Nat)) (by simp)
              subst hb12
              obtain ⟨-, hown', hbl4⟩ := h10 rfl
              obtain ⟨hu1, hu2⟩ := h8 rfl
              have hL4 := HLEN.out
              have hadd := HZ2.out.addS hk3 HTG.out hu1 hxl hu2 (by simp only []; rw [hL4]; exact hown') hbl4
              obtain ⟨T', hZ', hT1, hT2⟩ := hadd
              simp only [] at hZ'
              rw [← HXS.out] at hZ'
              have hks3 := hk3.size
              have hrel : LpS w1 gb (.slice A9 R.ow.length n9) (.slice Av1 R.cs.length cv1) (.slice A13 R.rm.length n13) (.slice A17 tk.length n17) l1 R (k + 1) W3 :=
                ⟨T', _, _, hbx, hZ', fun g' h' => (by
                  rcases hT2 g' h' with h | h
                  · have := HTB.out g' h; have := HSZ2.out; omega
                  · have := HKR.out.size; have := HSZ2.out; omega), (hT1 gb HC2.out.lt).trans HTG.out, (HKR.out.trans HK2.out).join hk3 (fun g' h' hl' => by have := hoX g' h'; omega)⟩
              have HREL := Lib.hid hrel
              clear hrel hZ' hT1 hT2 hk3 hv hbx h1 h2 h8 h9 h10 h11 h12 hown' hbl4 hu1 hu2 hL4 HI
              dsimp only
              go_wp2_with fail
              go_roundw
              case rel => exact ⟨k + 1, hlt, by go_num, HREL.out⟩
              case measure => simp [intOf]; omega
          · have hdl : decide ((k : Int) < (R.st.length : Int)) = false := by simpa using hlt
            obtain rfl : k = R.st.length := by omega
            rw [List.take_length] at hZ
            obtain ⟨Av3, cv3, rfl, _, _⟩ := own_formN hZ.2.2.1.1
            have HZ := Lib.hid hZ
            have a0 := hC.cell 0
            have a1 := hC.cell 1
            have a2 := hC.cell 2
            have a3 := hC.cell 3
            have a4 := hC.cell 4
            have hX2 := HX2.out.keep hkr
            have d0 := hX2.free 0
            have d1 := hX2.free 1
            have d2 := hX2.free 2
            have d3 := hX2.free 3
            have d4 := hX2.free 4
            have b0 := hX2.cell 0
            have b1 := hX2.cell 1
            have b2 := hX2.cell 2
            have b3 := hX2.cell 3
            have b4 := hX2.cell 4
            simp only [z5, List.getElem?_cons_zero, List.getElem?_cons_succ] at a0 a1 a2 a3 a4 b0 b1 b2 b3 b4
            have HX2 := Lib.hid hX2
            have HKW := Lib.hid (HK0.out.trans hkr)
            have HTB := Lib.hid hTB
            have HNE := Lib.hid (show gb ≠ w.heap.size + 1 by have := HSZ.out; omega)
            clear hX2 hZ hC hTB hTg hkr HI
            go_wp2_with fail
            have hka : Kept (· = w.heap.size + 1) wr (((((wr.setCell ⟨w.heap.size + 1, 0, none⟩ (.slice A9 R.ow.length n9)).setCell ⟨w.heap.size + 1, 1, none⟩ (.slice Av1 R.cs.length cv1)).setCell ⟨w.heap.size + 1, 2, none⟩ (.slice A13 R.rm.length n13)).setCell ⟨w.heap.size + 1, 3, none⟩ (.slice Av3 R.st.length cv3)).setCell ⟨w.heap.size + 1, 4, none⟩ (.slice A17 tk.length n17)) :=
              (((((Kept.refl (· = w.heap.size + 1) wr).setCell (p := ⟨w.heap.size + 1, 0, none⟩) (fun _ => rfl) _).setCell (p := ⟨w.heap.size + 1, 1, none⟩) (fun _ => rfl) _).setCell (p := ⟨w.heap.size + 1, 2, none⟩) (fun _ => rfl) _).setCell (p := ⟨w.heap.size + 1, 3, none⟩) (fun _ => rfl) _).setCell (p := ⟨w.heap.size + 1, 4, none⟩) (fun _ => rfl) _
            refine ret_1c Try.results87 rfl (resVal.box rfl (((((HX2.out.put 0 _).put 1 _).put 2 _).put 3 _).put 4 _) Try.underlying33 rfl (by kernel_rfl)) ?_
            have hT0 : ∀ g, g < wr.heap.size → g = w.heap.size + 1 → T1 g = 0 := fun g _ h => Classical.byContradiction fun h2 => by have := HTB.out g h2; have := HSZ.out; omega
            refine ⟨T1, _, _, _, _, _, rfl, ⟨l1, l3, HZ.out.kept hka hT0 (fun _ _ => rfl)⟩, fun g hg => by have := HTB.out g hg; have := hka.size; have := HSZ.out; omega, HKW.out.own hka (by omega)⟩
end Go.Proofs.Ytehcfahfbdphpaa
