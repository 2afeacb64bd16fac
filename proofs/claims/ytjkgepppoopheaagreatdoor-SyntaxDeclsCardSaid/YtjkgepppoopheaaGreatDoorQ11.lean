/- The document's reader of layer 2 at a statement: while, if (conditions: at most 1000000 words). -/
import Derived.Test.YtjkgepppoopheaaGreatDoorAbb
import Derived.Test.YtjkgepppoopheaaGreatDoorQ6
set_option maxRecDepth 100000
set_option maxHeartbeats 1000000
namespace Go.Proofs.YtjkgepppoopheaaGreatDoor
open Go.RowKit Go.Shelf
section
variable {R : Nat} {v : Value} {n : Nat} {T : Nat → TokD} {st : RS} {w : World}
theorem stmt_while (h : RAt w R v n T st) (hK : kindR n T st = 5) {f : Nat} (hB : BlkC n T f) (hf : (n - st.1) * 3 ≤ f) : Calls Tryz.prog 138 #[.pointer (some ⟨R, 0, none⟩)] w (ReadsS w R v n T ((stR n T st 5 ⟨#[]⟩ ⟨#[]⟩ (exR n T (nextR st)).1 zeroT (blockR n T f (exR n T (nextR st)).2).1 [], (blockR n T f (exR n T (nextR st)).2).2))) := by
 have hlt : st.1 < n := (kindUp_lt (j := 15) (by rw [show kindUp n T st 15 = kindR n T st from rfl, hK]; decide)).1
 have ho1 : st.1 + 1 ≤ (exR n T (nextR st)).2.1 := (exR_on (n := n) (T := T) (nextR st)).1
 have hn1 : (exR n T (nextR st)).2.1 ≤ n := (exR_on (n := n) (T := T) (nextR st)).2 hlt
 have ho2 : (exR n T (nextR st)).2.1 ≤ (blockR n T f (exR n T (nextR st)).2).2.1 := ((stmts_on f).2.1 _).1
 have hfew := h.few
 have hRw := h.is.lt
 have HVB := aP h.own_lt
 have hkA : Kept noX w (w.alloc (.cells zeroSt.toArray 63)) := (Kept.refl _ _).alloc _
 have hszA : (w.alloc (.cells zeroSt.toArray 63)).heap.size = w.heap.size + 1 := by simp
 have HB := aP (Cells.fresh w 63 zeroSt)
 have HA := aP (h.keep hkA)
 have HKA := aP hkA
 have HKI := aP hK
 clear h hkA hK
 go_enter Tryz.func138, Tryz.ntmps138
 go_wp2_with fail
 refine (pos_any HA.out).mono ?_
 rintro e W1 ⟨rfl, hk1⟩
 have hs1 := hk1.size
 rw [hszA] at hs1
 obtain ⟨LI, hLI⟩ : ∃ x, x = lineOf n T st.1 := ⟨_, rfl⟩
 obtain ⟨CO, hCO⟩ : ∃ x, x = colOf n T st.1 := ⟨_, rfl⟩
 have HLI := aP hLI
 have HCO := aP hCO
 rw [← hLI, ← hCO]
 clear hLI hCO
 go_wp2_with ((with_reducible refine ats ?_); (refine wpList_store_all rfl rfl 63 (.tmp 3) (.tmp 9) rfl (W1.heap.size) rfl [.int .i64 0, .int .i64 LI, .int .i64 CO, .string ⟨#[]⟩, .string ⟨#[]⟩, .int .i64 0, .int .i64 0, .string ⟨#[]⟩, .int .i64 0, .bool false, .int .i64 0, .slice none 0 0, .int .i64 0, .int .i64 0, .string ⟨#[]⟩, .int .i64 0, .bool false, .int .i64 0, .slice none 0 0, .slice none 0 0, .slice none 0 0, .int .i64 0, .int .i64 0, .int .i64 0, .bool false] rfl (Cells.fresh W1 63 zeroSt) (by rfl) krf k1c ?_; intro W2 hB2 hk2; have HB2 := aP hB2; clear hB2))
 replace hk2 : Kept noX W1 W2 := ((Kept.refl noX W1).alloc _).own hk2 (Nat.le_refl _)
 have HE2 : Hid (Cells W2 W1.heap.size 63 (hdSt 0 LI CO)) := HB2
 have hs2 := hk2.size
 have hl2 := HB2.out.lt
 clear HB2
 refine (rkinds_any W2).mono ?_
 rintro e Wl ⟨rfl, hG, hk3⟩
 have hs3 := hk3.size
 obtain ⟨G, hGe⟩ : ∃ G, G = W2.heap.size := ⟨_, rfl⟩
 rw [← hGe] at hG ⊢
 have lG := hG.lt
 obtain ⟨E, hEe⟩ : ∃ E, E = W1.heap.size := ⟨_, rfl⟩
 rw [← hEe] at HE2 ⊢
 have hE1 : w.heap.size < E := by omega
 have hEG : E < G := by omega
 clear hl2
 have HKL := aP (((HKA.out.trans hk1).trans hk2).trans hk3)
 have HI0 := aP (show KdI R v n T st w.heap.size E G Wl (.int .i64 1) Wl from ⟨1, Nat.le_refl _, by decide, rfl, by rw [← HLI.out, ← HCO.out]; exact HE2.out.keep hk3, ((HB.out.keep hk1).keep hk2).keep hk3, hG, ((HA.out.keep hk1).keep hk2).keep hk3, Kept.refl _ _⟩)
 clear hk1 hk2 hk3 hG HE2 HB HA HKA hGe hEe hs1 hs2 hs3
 go_wp2_with fail
 go_loopw [5] (fun i wr => KdI R v n T st w.heap.size E G Wl i wr) (fun i _ => 16 - (intOf i).toNat)
 case atStart => exact HI0.out
 case round =>
  obtain ⟨j, hj1, hj16, rfl, hcE, hcB, hcG, hr, hkr⟩ := hrel
  rw [← HLI.out, ← HCO.out] at hcE
  by_cases hj : j < 16
  ·exact k_1
  ·obtain rfl : j = 16 := by omega
   have hjd : decide (((16 : Nat) : Int) < 16) = false := by simp
   have hcE : Cells wr E 63 (hdSt 5 LI CO) := by rw [show kindUp n T st (16 - 1) = 5 from HKI.out] at hcE; exact hcE
   have e0 := hcE.cell 0
   simp only [hdSt, List.cons_append, aZ] at e0
   have HCE := aP hcE; have HCB := aP hcB; have HR := aP hr
   have HK := aP (HKL.out.join hkr (fun i hi hlt2 => by have hi : i = E := hi; omega))
   have lE := hcE.lt
   clear hcE hcB hcG hr hkr hjd
   have HCE0 := aP (show Cells wr E 63 [.int .i64 5, .int .i64 LI, .int .i64 CO, .string ⟨#[]⟩, .string ⟨#[]⟩, .int .i64 0, .int .i64 0, .string ⟨#[]⟩, .int .i64 0, .bool false, .int .i64 0, .slice none 0 0, .int .i64 0, .int .i64 0, .string ⟨#[]⟩, .int .i64 0, .bool false, .int .i64 0, .slice none 0 0, .slice none 0 0, .slice none 0 0, .int .i64 0, .int .i64 0, .int .i64 0, .bool false] from HCE.out)
   have HCB0 := HCB
   have HR0 := HR
   have HK0 := aP (show Kept (· = R) w wr from HK.out.any)
   clear HCE HCB HR HK
   have c1 := HR0.out.is.cell 1; have f1 := HR0.out.is.free 1
   simp only [aZ, aS] at c1
   go_wp2_with fail
   obtain ⟨Wx1, hW1⟩ : ∃ W, W = wr.setCell ⟨R, 1, none⟩ (.int .i64 ((st.1 + 1 : Nat) : Int)) := ⟨_, rfl⟩
   have hnx := RAt.next HR0.out
   rw [← hW1] at hnx
   have e1 : Value.int .i64 ((st.1 : Int) + 1) = .int .i64 ((st.1 + 1 : Nat) : Int) := rfl
   rw [e1, ← hW1]
   have hz1 := hnx.2.size
   have HR1 := aP hnx.1
   have HCE1 := aP (HCE0.out.kept hnx.2 kom)
   have HCB1 := aP (HCB0.out.kept hnx.2 kom)
   have HK1 := aP (HK0.out.trans hnx.2)
   clear hW1 hnx e1 c1 f1 HCE0 HCB0 HK0 HR0
   have lw2 : E < Wx1.heap.size := HCE1.out.lt
   refine (exR_any HR1.out (by exact hlt)).mono ?_
   rintro e W2 ⟨cs2, rfl, hev2, hr2, hk2⟩
   have hz2 := hk2.size
   obtain ⟨ka, ma, sa, sla, loa, oa, Aa, Na, Ca, rfl⟩ := hev2.form
   have HTa_2 := aP (show EV W2 (fun g => g < E + 1) _ (exR n T (nextR st)).1 from hev2.mono (fun g _ h => by have h : g < E + 1 := h; show g < Wx1.heap.size; omega))
   clear hev2
   have HR2 := aP hr2
   have HCE2 := aP (HCE1.out.kept hk2 kom)
   have HCB2 := aP (HCB1.out.kept hk2 kom)
   have HK2 := aP (HK1.out.trans hk2)
   clear hr2 hk2 HCE1 HCB1 HK1 HR1
   go_wp2_with ((with_reducible refine ats ?_); (refine wpList_store_part rfl rfl 44 (.tmp 51) (.tmp 50) rfl (E) 5 rfl [.int .i64 ka, .int .i64 ma, .string sa, .int .i64 sla, .bool loa, .int .i64 oa, .slice Aa Na Ca] rfl HCE2.out kle krf k1c ?_; intro W300 hB300 hk300; replace hB300 : Cells W300 (E) 63 [.int .i64 5, .int .i64 LI, .int .i64 CO, .string ⟨#[]⟩, .string ⟨#[]⟩, .int .i64 ka, .int .i64 ma, .string sa, .int .i64 sla, .bool loa, .int .i64 oa, .slice Aa Na Ca, .int .i64 0, .int .i64 0, .string ⟨#[]⟩, .int .i64 0, .bool false, .int .i64 0, .slice none 0 0, .slice none 0 0, .slice none 0 0, .int .i64 0, .int .i64 0, .int .i64 0, .bool false] := (by simpa using hB300); have HB300 := aP hB300; clear hB300))
   have HCE3 := HB300
   have hz3 := hk300.size
   have HR3 := aP (R2.other HR2.out hk300 kom (fun g hg => by have := HVB.out g hg; omega))
   have HCB3 := aP (HCB2.out.kept hk300 kom)
   have HK3 := aP (HK2.out.join hk300 (fun i hi hlt2 => by have hi : i = E := hi; omega))
   have HTa_3 := aP (HTa_2.out.kept hk300 (fun g _ h => by have h : g = E := h; show g < E + 1; omega))
   clear HB300 hk300 HCE2 HCB2 HK2 HR2 HTa_2
   have lw4 : E < W300.heap.size := HCE3.out.lt
   refine (hB R v _ _ HR3.out hn1 kom).mono ?_
   rintro e W4 ⟨ub, rfl, hrow4, hr4, hk4⟩
   have hz4 := hk4.size
   obtain ⟨Ab, Nb, Cb, rfl, hNl, hNx⟩ := hrow4.form
   clear hNl hNx
   have HTb_4 := aP (show RowV W4 (fun g => g < E + 1) (.slice Ab Nb Cb) (ST.ds (blockR n T f (exR n T (nextR st)).2).1) from RowV.mono hrow4 (fun g _ h => by have h : g < E + 1 := h; show g < W300.heap.size; omega))
   clear hrow4
   have HR4 := aP hr4
   have HCE4 := aP (HCE3.out.kept hk4 kom)
   have HCB4 := aP (HCB3.out.kept hk4 kom)
   have HK4 := aP (HK3.out.trans hk4)
   have HTa_4 := aP (HTa_3.out.kept hk4 (fun g _ h => by have h : g = R := h; show g < E + 1; omega))
   clear hr4 hk4 HCE3 HCB3 HK3 HR3 HTa_3
   have d19 := HCE4.out.cell 19; have f19 := HCE4.out.free 19
   simp only [aZ, aS] at d19
   have hq5 : Kept (· = E) W4 (W4.setCell ⟨E, 19, none⟩ (.slice Ab Nb Cb)) := (Kept.refl _ _).setCell (fun _ => by rfl) _
   have HCE5 := aP (show Cells (W4.setCell ⟨E, 19, none⟩ (.slice Ab Nb Cb)) E 63 [.int .i64 5, .int .i64 LI, .int .i64 CO, .string ⟨#[]⟩, .string ⟨#[]⟩, .int .i64 ka, .int .i64 ma, .string sa, .int .i64 sla, .bool loa, .int .i64 oa, .slice Aa Na Ca, .int .i64 0, .int .i64 0, .string ⟨#[]⟩, .int .i64 0, .bool false, .int .i64 0, .slice none 0 0, .slice Ab Nb Cb, .slice none 0 0, .int .i64 0, .int .i64 0, .int .i64 0, .bool false] from HCE4.out.put 19 _)
   have HR5 := aP (R2.other HR4.out hq5 kom (fun g hg => by have := HVB.out g hg; omega))
   have HCB5 := aP (HCB4.out.kept hq5 kom)
   have HK5 := aP (HK4.out.join hq5 (fun i hi hlt2 => by have hi : i = E := hi; omega))
   have HTa_5 := aP (HTa_4.out.kept hq5 (fun g _ h => by have h : g = E := h; show g < E + 1; omega))
   have HTb_5 := aP (HTb_4.out.kept hq5 (fun g _ h => by have h : g = E := h; show g < E + 1; omega))
   clear hq5 HCE4 HCB4 HK4 HR4 HTa_4 HTb_4
   go_wp2_with (first | ((with_reducible refine atl ?_); (refine wpList_load_cells rfl 63 (.tmp 3) rfl (E) rfl _ Tryz.underlying63 rfl HCE5.out krf ?_)) | ((with_reducible refine ats ?_); (refine wpList_store_all rfl rfl 63 (.tmp 2) (.tmp 64) rfl (w.heap.size) rfl [.int .i64 5, .int .i64 LI, .int .i64 CO, .string ⟨#[]⟩, .string ⟨#[]⟩, .int .i64 ka, .int .i64 ma, .string sa, .int .i64 sla, .bool loa, .int .i64 oa, .slice Aa Na Ca, .int .i64 0, .int .i64 0, .string ⟨#[]⟩, .int .i64 0, .bool false, .int .i64 0, .slice none 0 0, .slice Ab Nb Cb, .slice none 0 0, .int .i64 0, .int .i64 0, .int .i64 0, .bool false] rfl HCB5.out (by rfl) krf k1c ?_; intro W9 hB9 hk9; have HB9 := aP hB9; clear hB9)))
   have HTa_9 := (HTa_5.out.kept hk9 (fun g _ h => by have h : g = w.heap.size := h; show g < E + 1; omega)).mono (Z' := fun g => g < w.heap.size) (fun g _ h => by have h : g < w.heap.size := h; show g < E + 1; omega)
   have HTb_9 := (HTb_5.out.kept hk9 (fun g _ h => by have h : g = w.heap.size := h; show g < E + 1; omega)).mono (Z' := fun g => g < w.heap.size) (fun g _ h => by have h : g < w.heap.size := h; show g < E + 1; omega)
   have hR9 := R2.other HR5.out hk9 kom (fun g hg => by have := HVB.out g hg; omega)
   refine ret_box Tryz.results138 rfl HB9.out Tryz.underlying63 rfl krf rfl ⟨_, rfl, ?_, hR9, HK5.out.join hk9 (fun i hi hlt2 => by have hi : i = w.heap.size := hi; omega)⟩
   rw [HLI.out, HCO.out]
   exact SV.iff.2 ⟨_, _, _, _, rfl, HTa_9, (EV.leaf _ _ 0 0 ⟨#[]⟩ 0), HTb_9, (RowV.nil _ _)⟩
theorem stmt_if (h : RAt w R v n T st) (hK : kindR n T st = 4) {f : Nat} (hB : BlkC n T f) (hf : (n - st.1) * 3 ≤ f) (h2 : isR n T (blockR n T f (exR n T (nextR st)).2).2 kElse = false) : Calls Tryz.prog 138 #[.pointer (some ⟨R, 0, none⟩)] w (ReadsS w R v n T ((stR n T st 4 ⟨#[]⟩ ⟨#[]⟩ (exR n T (nextR st)).1 zeroT (blockR n T f (exR n T (nextR st)).2).1 [], (blockR n T f (exR n T (nextR st)).2).2))) := by
 have hlt : st.1 < n := (kindUp_lt (j := 15) (by rw [show kindUp n T st 15 = kindR n T st from rfl, hK]; decide)).1
 have ho1 : st.1 + 1 ≤ (exR n T (nextR st)).2.1 := (exR_on (n := n) (T := T) (nextR st)).1
 have hn1 : (exR n T (nextR st)).2.1 ≤ n := (exR_on (n := n) (T := T) (nextR st)).2 hlt
 have ho2 : (exR n T (nextR st)).2.1 ≤ (blockR n T f (exR n T (nextR st)).2).2.1 := ((stmts_on f).2.1 _).1
 have hfew := h.few
 have hRw := h.is.lt
 have HVB := aP h.own_lt
 have hkA : Kept noX w (w.alloc (.cells zeroSt.toArray 63)) := (Kept.refl _ _).alloc _
 have hszA : (w.alloc (.cells zeroSt.toArray 63)).heap.size = w.heap.size + 1 := by simp
 have HB := aP (Cells.fresh w 63 zeroSt)
 have HA := aP (h.keep hkA)
 have HKA := aP hkA
 have HKI := aP hK
 clear h hkA hK
 go_enter Tryz.func138, Tryz.ntmps138
 go_wp2_with fail
 refine (pos_any HA.out).mono ?_
 rintro e W1 ⟨rfl, hk1⟩
 have hs1 := hk1.size
 rw [hszA] at hs1
 obtain ⟨LI, hLI⟩ : ∃ x, x = lineOf n T st.1 := ⟨_, rfl⟩
 obtain ⟨CO, hCO⟩ : ∃ x, x = colOf n T st.1 := ⟨_, rfl⟩
 have HLI := aP hLI
 have HCO := aP hCO
 rw [← hLI, ← hCO]
 clear hLI hCO
 go_wp2_with ((with_reducible refine ats ?_); (refine wpList_store_all rfl rfl 63 (.tmp 3) (.tmp 9) rfl (W1.heap.size) rfl [.int .i64 0, .int .i64 LI, .int .i64 CO, .string ⟨#[]⟩, .string ⟨#[]⟩, .int .i64 0, .int .i64 0, .string ⟨#[]⟩, .int .i64 0, .bool false, .int .i64 0, .slice none 0 0, .int .i64 0, .int .i64 0, .string ⟨#[]⟩, .int .i64 0, .bool false, .int .i64 0, .slice none 0 0, .slice none 0 0, .slice none 0 0, .int .i64 0, .int .i64 0, .int .i64 0, .bool false] rfl (Cells.fresh W1 63 zeroSt) (by rfl) krf k1c ?_; intro W2 hB2 hk2; have HB2 := aP hB2; clear hB2))
 replace hk2 : Kept noX W1 W2 := ((Kept.refl noX W1).alloc _).own hk2 (Nat.le_refl _)
 have HE2 : Hid (Cells W2 W1.heap.size 63 (hdSt 0 LI CO)) := HB2
 have hs2 := hk2.size
 have hl2 := HB2.out.lt
 clear HB2
 refine (rkinds_any W2).mono ?_
 rintro e Wl ⟨rfl, hG, hk3⟩
 have hs3 := hk3.size
 obtain ⟨G, hGe⟩ : ∃ G, G = W2.heap.size := ⟨_, rfl⟩
 rw [← hGe] at hG ⊢
 have lG := hG.lt
 obtain ⟨E, hEe⟩ : ∃ E, E = W1.heap.size := ⟨_, rfl⟩
 rw [← hEe] at HE2 ⊢
 have hE1 : w.heap.size < E := by omega
 have hEG : E < G := by omega
 clear hl2
 have HKL := aP (((HKA.out.trans hk1).trans hk2).trans hk3)
 have HI0 := aP (show KdI R v n T st w.heap.size E G Wl (.int .i64 1) Wl from ⟨1, Nat.le_refl _, by decide, rfl, by rw [← HLI.out, ← HCO.out]; exact HE2.out.keep hk3, ((HB.out.keep hk1).keep hk2).keep hk3, hG, ((HA.out.keep hk1).keep hk2).keep hk3, Kept.refl _ _⟩)
 clear hk1 hk2 hk3 hG HE2 HB HA HKA hGe hEe hs1 hs2 hs3
 go_wp2_with fail
 go_loopw [5] (fun i wr => KdI R v n T st w.heap.size E G Wl i wr) (fun i _ => 16 - (intOf i).toNat)
 case atStart => exact HI0.out
 case round =>
  obtain ⟨j, hj1, hj16, rfl, hcE, hcB, hcG, hr, hkr⟩ := hrel
  rw [← HLI.out, ← HCO.out] at hcE
  by_cases hj : j < 16
  ·exact k_1
  ·obtain rfl : j = 16 := by omega
   have hjd : decide (((16 : Nat) : Int) < 16) = false := by simp
   have hcE : Cells wr E 63 (hdSt 4 LI CO) := by rw [show kindUp n T st (16 - 1) = 4 from HKI.out] at hcE; exact hcE
   have e0 := hcE.cell 0
   simp only [hdSt, List.cons_append, aZ] at e0
   have HCE := aP hcE; have HCB := aP hcB; have HR := aP hr
   have HK := aP (HKL.out.join hkr (fun i hi hlt2 => by have hi : i = E := hi; omega))
   have lE := hcE.lt
   clear hcE hcB hcG hr hkr hjd
   have HCE0 := aP (show Cells wr E 63 [.int .i64 4, .int .i64 LI, .int .i64 CO, .string ⟨#[]⟩, .string ⟨#[]⟩, .int .i64 0, .int .i64 0, .string ⟨#[]⟩, .int .i64 0, .bool false, .int .i64 0, .slice none 0 0, .int .i64 0, .int .i64 0, .string ⟨#[]⟩, .int .i64 0, .bool false, .int .i64 0, .slice none 0 0, .slice none 0 0, .slice none 0 0, .int .i64 0, .int .i64 0, .int .i64 0, .bool false] from HCE.out)
   have HCB0 := HCB
   have HR0 := HR
   have HK0 := aP (show Kept (· = R) w wr from HK.out.any)
   clear HCE HCB HR HK
   have c1 := HR0.out.is.cell 1; have f1 := HR0.out.is.free 1
   simp only [aZ, aS] at c1
   go_wp2_with fail
   obtain ⟨Wx1, hW1⟩ : ∃ W, W = wr.setCell ⟨R, 1, none⟩ (.int .i64 ((st.1 + 1 : Nat) : Int)) := ⟨_, rfl⟩
   have hnx := RAt.next HR0.out
   rw [← hW1] at hnx
   have e1 : Value.int .i64 ((st.1 : Int) + 1) = .int .i64 ((st.1 + 1 : Nat) : Int) := rfl
   rw [e1, ← hW1]
   have hz1 := hnx.2.size
   have HR1 := aP hnx.1
   have HCE1 := aP (HCE0.out.kept hnx.2 kom)
   have HCB1 := aP (HCB0.out.kept hnx.2 kom)
   have HK1 := aP (HK0.out.trans hnx.2)
   clear hW1 hnx e1 c1 f1 HCE0 HCB0 HK0 HR0
   have lw2 : E < Wx1.heap.size := HCE1.out.lt
   refine (exR_any HR1.out (by exact hlt)).mono ?_
   rintro e W2 ⟨cs2, rfl, hev2, hr2, hk2⟩
   have hz2 := hk2.size
   obtain ⟨ka, ma, sa, sla, loa, oa, Aa, Na, Ca, rfl⟩ := hev2.form
   have HTa_2 := aP (show EV W2 (fun g => g < E + 1) _ (exR n T (nextR st)).1 from hev2.mono (fun g _ h => by have h : g < E + 1 := h; show g < Wx1.heap.size; omega))
   clear hev2
   have HR2 := aP hr2
   have HCE2 := aP (HCE1.out.kept hk2 kom)
   have HCB2 := aP (HCB1.out.kept hk2 kom)
   have HK2 := aP (HK1.out.trans hk2)
   clear hr2 hk2 HCE1 HCB1 HK1 HR1
   go_wp2_with ((with_reducible refine ats ?_); (refine wpList_store_part rfl rfl 44 (.tmp 51) (.tmp 50) rfl (E) 5 rfl [.int .i64 ka, .int .i64 ma, .string sa, .int .i64 sla, .bool loa, .int .i64 oa, .slice Aa Na Ca] rfl HCE2.out kle krf k1c ?_; intro W300 hB300 hk300; replace hB300 : Cells W300 (E) 63 [.int .i64 4, .int .i64 LI, .int .i64 CO, .string ⟨#[]⟩, .string ⟨#[]⟩, .int .i64 ka, .int .i64 ma, .string sa, .int .i64 sla, .bool loa, .int .i64 oa, .slice Aa Na Ca, .int .i64 0, .int .i64 0, .string ⟨#[]⟩, .int .i64 0, .bool false, .int .i64 0, .slice none 0 0, .slice none 0 0, .slice none 0 0, .int .i64 0, .int .i64 0, .int .i64 0, .bool false] := (by simpa using hB300); have HB300 := aP hB300; clear hB300))
   have HCE3 := HB300
   have hz3 := hk300.size
   have HR3 := aP (R2.other HR2.out hk300 kom (fun g hg => by have := HVB.out g hg; omega))
   have HCB3 := aP (HCB2.out.kept hk300 kom)
   have HK3 := aP (HK2.out.join hk300 (fun i hi hlt2 => by have hi : i = E := hi; omega))
   have HTa_3 := aP (HTa_2.out.kept hk300 (fun g _ h => by have h : g = E := h; show g < E + 1; omega))
   clear HB300 hk300 HCE2 HCB2 HK2 HR2 HTa_2
   have lw4 : E < W300.heap.size := HCE3.out.lt
   refine (hB R v _ _ HR3.out hn1 kom).mono ?_
   rintro e W4 ⟨ub, rfl, hrow4, hr4, hk4⟩
   have hz4 := hk4.size
   obtain ⟨Ab, Nb, Cb, rfl, hNl, hNx⟩ := hrow4.form
   clear hNl hNx
   have HTb_4 := aP (show RowV W4 (fun g => g < E + 1) (.slice Ab Nb Cb) (ST.ds (blockR n T f (exR n T (nextR st)).2).1) from RowV.mono hrow4 (fun g _ h => by have h : g < E + 1 := h; show g < W300.heap.size; omega))
   clear hrow4
   have HR4 := aP hr4
   have HCE4 := aP (HCE3.out.kept hk4 kom)
   have HCB4 := aP (HCB3.out.kept hk4 kom)
   have HK4 := aP (HK3.out.trans hk4)
   have HTa_4 := aP (HTa_3.out.kept hk4 (fun g _ h => by have h : g = R := h; show g < E + 1; omega))
   clear hr4 hk4 HCE3 HCB3 HK3 HR3 HTa_3
   have d19 := HCE4.out.cell 19; have f19 := HCE4.out.free 19
   simp only [aZ, aS] at d19
   go_wp2_with fail
   clear d19 f19
   obtain ⟨Wx5, hW5⟩ : ∃ W, W = W4.setCell ⟨E, 19, none⟩ (.slice Ab Nb Cb) := ⟨_, rfl⟩
   have hq5 : Kept (· = E) W4 Wx5 := by rw [hW5]; exact (Kept.refl _ _).setCell (fun _ => by rfl) _
   have HCE5 := aP (show Cells Wx5 E 63 [.int .i64 4, .int .i64 LI, .int .i64 CO, .string ⟨#[]⟩, .string ⟨#[]⟩, .int .i64 ka, .int .i64 ma, .string sa, .int .i64 sla, .bool loa, .int .i64 oa, .slice Aa Na Ca, .int .i64 0, .int .i64 0, .string ⟨#[]⟩, .int .i64 0, .bool false, .int .i64 0, .slice none 0 0, .slice Ab Nb Cb, .slice none 0 0, .int .i64 0, .int .i64 0, .int .i64 0, .bool false] from by rw [hW5]; exact HCE4.out.put 19 _)
   rw [← hW5]
   have hz5 := hq5.size
   have HR5 := aP (R2.other HR4.out hq5 kom (fun g hg => by have := HVB.out g hg; omega))
   have HCB5 := aP (HCB4.out.kept hq5 kom)
   have HK5 := aP (HK4.out.join hq5 (fun i hi hlt2 => by have hi : i = E := hi; omega))
   have HTa_5 := aP (HTa_4.out.kept hq5 (fun g _ h => by have h : g = E := h; show g < E + 1; omega))
   have HTb_5 := aP (HTb_4.out.kept hq5 (fun g _ h => by have h : g = E := h; show g < E + 1; omega))
   clear hW5 hq5 HCE4 HCB4 HK4 HR4 HTa_4 HTb_4
   refine (tkR_no HR5.out h2).mono ?_
   rintro e W6 ⟨rfl, hr6, hk6⟩
   have hz6 := hk6.size
   have HR6 := aP hr6
   have HCE6 := aP (HCE5.out.kept hk6 kom)
   have HCB6 := aP (HCB5.out.kept hk6 kom)
   have HK6 := aP (HK5.out.trans hk6)
   have HTa_6 := aP (HTa_5.out.kept hk6 (fun g _ h => by have h : g = R := h; show g < E + 1; omega))
   have HTb_6 := aP (HTb_5.out.kept hk6 (fun g _ h => by have h : g = R := h; show g < E + 1; omega))
   clear hr6 hk6 HCE5 HCB5 HK5 HR5 HTa_5 HTb_5
   go_wp2_with (first | ((with_reducible refine atl ?_); (refine wpList_load_cells rfl 63 (.tmp 3) rfl (E) rfl _ Tryz.underlying63 rfl HCE6.out krf ?_)) | ((with_reducible refine ats ?_); (refine wpList_store_all rfl rfl 63 (.tmp 2) (.tmp 64) rfl (w.heap.size) rfl [.int .i64 4, .int .i64 LI, .int .i64 CO, .string ⟨#[]⟩, .string ⟨#[]⟩, .int .i64 ka, .int .i64 ma, .string sa, .int .i64 sla, .bool loa, .int .i64 oa, .slice Aa Na Ca, .int .i64 0, .int .i64 0, .string ⟨#[]⟩, .int .i64 0, .bool false, .int .i64 0, .slice none 0 0, .slice Ab Nb Cb, .slice none 0 0, .int .i64 0, .int .i64 0, .int .i64 0, .bool false] rfl HCB6.out (by rfl) krf k1c ?_; intro W9 hB9 hk9; have HB9 := aP hB9; clear hB9)))
   have HTa_9 := (HTa_6.out.kept hk9 (fun g _ h => by have h : g = w.heap.size := h; show g < E + 1; omega)).mono (Z' := fun g => g < w.heap.size) (fun g _ h => by have h : g < w.heap.size := h; show g < E + 1; omega)
   have HTb_9 := (HTb_6.out.kept hk9 (fun g _ h => by have h : g = w.heap.size := h; show g < E + 1; omega)).mono (Z' := fun g => g < w.heap.size) (fun g _ h => by have h : g < w.heap.size := h; show g < E + 1; omega)
   have hR9 := R2.other HR6.out hk9 kom (fun g hg => by have := HVB.out g hg; omega)
   refine ret_box Tryz.results138 rfl HB9.out Tryz.underlying63 rfl krf rfl ⟨_, rfl, ?_, hR9, HK6.out.join hk9 (fun i hi hlt2 => by have hi : i = w.heap.size := hi; omega)⟩
   rw [HLI.out, HCO.out]
   exact SV.iff.2 ⟨_, _, _, _, rfl, HTa_9, (EV.leaf _ _ 0 0 ⟨#[]⟩ 0), HTb_9, (RowV.nil _ _)⟩
theorem stmt_else (h : RAt w R v n T st) (hK : kindR n T st = 4) {f : Nat} (hB : BlkC n T f) (hf : (n - st.1) * 3 ≤ f) (h2 : isR n T (blockR n T f (exR n T (nextR st)).2).2 kElse = true) : Calls Tryz.prog 138 #[.pointer (some ⟨R, 0, none⟩)] w (ReadsS w R v n T ((stR n T st 4 ⟨#[]⟩ ⟨#[]⟩ (exR n T (nextR st)).1 zeroT (blockR n T f (exR n T (nextR st)).2).1 (blockR n T f (nextR (blockR n T f (exR n T (nextR st)).2).2)).1, (blockR n T f (nextR (blockR n T f (exR n T (nextR st)).2).2)).2))) := by
 have hlt : st.1 < n := (kindUp_lt (j := 15) (by rw [show kindUp n T st 15 = kindR n T st from rfl, hK]; decide)).1
 have ho1 : st.1 + 1 ≤ (exR n T (nextR st)).2.1 := (exR_on (n := n) (T := T) (nextR st)).1
 have hn1 : (exR n T (nextR st)).2.1 ≤ n := (exR_on (n := n) (T := T) (nextR st)).2 hlt
 have ho2 : (exR n T (nextR st)).2.1 ≤ (blockR n T f (exR n T (nextR st)).2).2.1 := ((stmts_on f).2.1 _).1
 have hlt2 := (isR_lt h2).1
 have hfew := h.few
 have hRw := h.is.lt
 have HVB := aP h.own_lt
 have hkA : Kept noX w (w.alloc (.cells zeroSt.toArray 63)) := (Kept.refl _ _).alloc _
 have hszA : (w.alloc (.cells zeroSt.toArray 63)).heap.size = w.heap.size + 1 := by simp
 have HB := aP (Cells.fresh w 63 zeroSt)
 have HA := aP (h.keep hkA)
 have HKA := aP hkA
 have HKI := aP hK
 clear h hkA hK
 go_enter Tryz.func138, Tryz.ntmps138
 go_wp2_with fail
 refine (pos_any HA.out).mono ?_
 rintro e W1 ⟨rfl, hk1⟩
 have hs1 := hk1.size
 rw [hszA] at hs1
 obtain ⟨LI, hLI⟩ : ∃ x, x = lineOf n T st.1 := ⟨_, rfl⟩
 obtain ⟨CO, hCO⟩ : ∃ x, x = colOf n T st.1 := ⟨_, rfl⟩
 have HLI := aP hLI
 have HCO := aP hCO
 rw [← hLI, ← hCO]
 clear hLI hCO
 go_wp2_with ((with_reducible refine ats ?_); (refine wpList_store_all rfl rfl 63 (.tmp 3) (.tmp 9) rfl (W1.heap.size) rfl [.int .i64 0, .int .i64 LI, .int .i64 CO, .string ⟨#[]⟩, .string ⟨#[]⟩, .int .i64 0, .int .i64 0, .string ⟨#[]⟩, .int .i64 0, .bool false, .int .i64 0, .slice none 0 0, .int .i64 0, .int .i64 0, .string ⟨#[]⟩, .int .i64 0, .bool false, .int .i64 0, .slice none 0 0, .slice none 0 0, .slice none 0 0, .int .i64 0, .int .i64 0, .int .i64 0, .bool false] rfl (Cells.fresh W1 63 zeroSt) (by rfl) krf k1c ?_; intro W2 hB2 hk2; have HB2 := aP hB2; clear hB2))
 replace hk2 : Kept noX W1 W2 := ((Kept.refl noX W1).alloc _).own hk2 (Nat.le_refl _)
 have HE2 : Hid (Cells W2 W1.heap.size 63 (hdSt 0 LI CO)) := HB2
 have hs2 := hk2.size
 have hl2 := HB2.out.lt
 clear HB2
 refine (rkinds_any W2).mono ?_
 rintro e Wl ⟨rfl, hG, hk3⟩
 have hs3 := hk3.size
 obtain ⟨G, hGe⟩ : ∃ G, G = W2.heap.size := ⟨_, rfl⟩
 rw [← hGe] at hG ⊢
 have lG := hG.lt
 obtain ⟨E, hEe⟩ : ∃ E, E = W1.heap.size := ⟨_, rfl⟩
 rw [← hEe] at HE2 ⊢
 have hE1 : w.heap.size < E := by omega
 have hEG : E < G := by omega
 clear hl2
 have HKL := aP (((HKA.out.trans hk1).trans hk2).trans hk3)
 have HI0 := aP (show KdI R v n T st w.heap.size E G Wl (.int .i64 1) Wl from ⟨1, Nat.le_refl _, by decide, rfl, by rw [← HLI.out, ← HCO.out]; exact HE2.out.keep hk3, ((HB.out.keep hk1).keep hk2).keep hk3, hG, ((HA.out.keep hk1).keep hk2).keep hk3, Kept.refl _ _⟩)
 clear hk1 hk2 hk3 hG HE2 HB HA HKA hGe hEe hs1 hs2 hs3
 go_wp2_with fail
 go_loopw [5] (fun i wr => KdI R v n T st w.heap.size E G Wl i wr) (fun i _ => 16 - (intOf i).toNat)
 case atStart => exact HI0.out
 case round =>
  obtain ⟨j, hj1, hj16, rfl, hcE, hcB, hcG, hr, hkr⟩ := hrel
  rw [← HLI.out, ← HCO.out] at hcE
  by_cases hj : j < 16
  ·exact k_1
  ·obtain rfl : j = 16 := by omega
   have hjd : decide (((16 : Nat) : Int) < 16) = false := by simp
   have hcE : Cells wr E 63 (hdSt 4 LI CO) := by rw [show kindUp n T st (16 - 1) = 4 from HKI.out] at hcE; exact hcE
   have e0 := hcE.cell 0
   simp only [hdSt, List.cons_append, aZ] at e0
   have HCE := aP hcE; have HCB := aP hcB; have HR := aP hr
   have HK := aP (HKL.out.join hkr (fun i hi hlt2 => by have hi : i = E := hi; omega))
   have lE := hcE.lt
   clear hcE hcB hcG hr hkr hjd
   have HCE0 := aP (show Cells wr E 63 [.int .i64 4, .int .i64 LI, .int .i64 CO, .string ⟨#[]⟩, .string ⟨#[]⟩, .int .i64 0, .int .i64 0, .string ⟨#[]⟩, .int .i64 0, .bool false, .int .i64 0, .slice none 0 0, .int .i64 0, .int .i64 0, .string ⟨#[]⟩, .int .i64 0, .bool false, .int .i64 0, .slice none 0 0, .slice none 0 0, .slice none 0 0, .int .i64 0, .int .i64 0, .int .i64 0, .bool false] from HCE.out)
   have HCB0 := HCB
   have HR0 := HR
   have HK0 := aP (show Kept (· = R) w wr from HK.out.any)
   clear HCE HCB HR HK
   have c1 := HR0.out.is.cell 1; have f1 := HR0.out.is.free 1
   simp only [aZ, aS] at c1
   go_wp2_with fail
   obtain ⟨Wx1, hW1⟩ : ∃ W, W = wr.setCell ⟨R, 1, none⟩ (.int .i64 ((st.1 + 1 : Nat) : Int)) := ⟨_, rfl⟩
   have hnx := RAt.next HR0.out
   rw [← hW1] at hnx
   have e1 : Value.int .i64 ((st.1 : Int) + 1) = .int .i64 ((st.1 + 1 : Nat) : Int) := rfl
   rw [e1, ← hW1]
   have hz1 := hnx.2.size
   have HR1 := aP hnx.1
   have HCE1 := aP (HCE0.out.kept hnx.2 kom)
   have HCB1 := aP (HCB0.out.kept hnx.2 kom)
   have HK1 := aP (HK0.out.trans hnx.2)
   clear hW1 hnx e1 c1 f1 HCE0 HCB0 HK0 HR0
   have lw2 : E < Wx1.heap.size := HCE1.out.lt
   refine (exR_any HR1.out (by exact hlt)).mono ?_
   rintro e W2 ⟨cs2, rfl, hev2, hr2, hk2⟩
   have hz2 := hk2.size
   obtain ⟨ka, ma, sa, sla, loa, oa, Aa, Na, Ca, rfl⟩ := hev2.form
   have HTa_2 := aP (show EV W2 (fun g => g < E + 1) _ (exR n T (nextR st)).1 from hev2.mono (fun g _ h => by have h : g < E + 1 := h; show g < Wx1.heap.size; omega))
   clear hev2
   have HR2 := aP hr2
   have HCE2 := aP (HCE1.out.kept hk2 kom)
   have HCB2 := aP (HCB1.out.kept hk2 kom)
   have HK2 := aP (HK1.out.trans hk2)
   clear hr2 hk2 HCE1 HCB1 HK1 HR1
   go_wp2_with ((with_reducible refine ats ?_); (refine wpList_store_part rfl rfl 44 (.tmp 51) (.tmp 50) rfl (E) 5 rfl [.int .i64 ka, .int .i64 ma, .string sa, .int .i64 sla, .bool loa, .int .i64 oa, .slice Aa Na Ca] rfl HCE2.out kle krf k1c ?_; intro W300 hB300 hk300; replace hB300 : Cells W300 (E) 63 [.int .i64 4, .int .i64 LI, .int .i64 CO, .string ⟨#[]⟩, .string ⟨#[]⟩, .int .i64 ka, .int .i64 ma, .string sa, .int .i64 sla, .bool loa, .int .i64 oa, .slice Aa Na Ca, .int .i64 0, .int .i64 0, .string ⟨#[]⟩, .int .i64 0, .bool false, .int .i64 0, .slice none 0 0, .slice none 0 0, .slice none 0 0, .int .i64 0, .int .i64 0, .int .i64 0, .bool false] := (by simpa using hB300); have HB300 := aP hB300; clear hB300))
   have HCE3 := HB300
   have hz3 := hk300.size
   have HR3 := aP (R2.other HR2.out hk300 kom (fun g hg => by have := HVB.out g hg; omega))
   have HCB3 := aP (HCB2.out.kept hk300 kom)
   have HK3 := aP (HK2.out.join hk300 (fun i hi hlt2 => by have hi : i = E := hi; omega))
   have HTa_3 := aP (HTa_2.out.kept hk300 (fun g _ h => by have h : g = E := h; show g < E + 1; omega))
   clear HB300 hk300 HCE2 HCB2 HK2 HR2 HTa_2
   have lw4 : E < W300.heap.size := HCE3.out.lt
   refine (hB R v _ _ HR3.out hn1 kom).mono ?_
   rintro e W4 ⟨ub, rfl, hrow4, hr4, hk4⟩
   have hz4 := hk4.size
   obtain ⟨Ab, Nb, Cb, rfl, hNl, hNx⟩ := hrow4.form
   clear hNl hNx
   have HTb_4 := aP (show RowV W4 (fun g => g < E + 1) (.slice Ab Nb Cb) (ST.ds (blockR n T f (exR n T (nextR st)).2).1) from RowV.mono hrow4 (fun g _ h => by have h : g < E + 1 := h; show g < W300.heap.size; omega))
   clear hrow4
   have HR4 := aP hr4
   have HCE4 := aP (HCE3.out.kept hk4 kom)
   have HCB4 := aP (HCB3.out.kept hk4 kom)
   have HK4 := aP (HK3.out.trans hk4)
   have HTa_4 := aP (HTa_3.out.kept hk4 (fun g _ h => by have h : g = R := h; show g < E + 1; omega))
   clear hr4 hk4 HCE3 HCB3 HK3 HR3 HTa_3
   have d19 := HCE4.out.cell 19; have f19 := HCE4.out.free 19
   simp only [aZ, aS] at d19
   go_wp2_with fail
   clear d19 f19
   obtain ⟨Wx5, hW5⟩ : ∃ W, W = W4.setCell ⟨E, 19, none⟩ (.slice Ab Nb Cb) := ⟨_, rfl⟩
   have hq5 : Kept (· = E) W4 Wx5 := by rw [hW5]; exact (Kept.refl _ _).setCell (fun _ => by rfl) _
   have HCE5 := aP (show Cells Wx5 E 63 [.int .i64 4, .int .i64 LI, .int .i64 CO, .string ⟨#[]⟩, .string ⟨#[]⟩, .int .i64 ka, .int .i64 ma, .string sa, .int .i64 sla, .bool loa, .int .i64 oa, .slice Aa Na Ca, .int .i64 0, .int .i64 0, .string ⟨#[]⟩, .int .i64 0, .bool false, .int .i64 0, .slice none 0 0, .slice Ab Nb Cb, .slice none 0 0, .int .i64 0, .int .i64 0, .int .i64 0, .bool false] from by rw [hW5]; exact HCE4.out.put 19 _)
   rw [← hW5]
   have hz5 := hq5.size
   have HR5 := aP (R2.other HR4.out hq5 kom (fun g hg => by have := HVB.out g hg; omega))
   have HCB5 := aP (HCB4.out.kept hq5 kom)
   have HK5 := aP (HK4.out.join hq5 (fun i hi hlt2 => by have hi : i = E := hi; omega))
   have HTa_5 := aP (HTa_4.out.kept hq5 (fun g _ h => by have h : g = E := h; show g < E + 1; omega))
   have HTb_5 := aP (HTb_4.out.kept hq5 (fun g _ h => by have h : g = E := h; show g < E + 1; omega))
   clear hW5 hq5 HCE4 HCB4 HK4 HR4 HTa_4 HTb_4
   refine (tkR_yes HR5.out h2).mono ?_
   rintro e W6 ⟨rfl, hr6, hk6⟩
   have hz6 := hk6.size
   have HR6 := aP hr6
   have HCE6 := aP (HCE5.out.kept hk6 kom)
   have HCB6 := aP (HCB5.out.kept hk6 kom)
   have HK6 := aP (HK5.out.trans hk6)
   have HTa_6 := aP (HTa_5.out.kept hk6 (fun g _ h => by have h : g = R := h; show g < E + 1; omega))
   have HTb_6 := aP (HTb_5.out.kept hk6 (fun g _ h => by have h : g = R := h; show g < E + 1; omega))
   clear hr6 hk6 HCE5 HCB5 HK5 HR5 HTa_5 HTb_5
   go_wp2_with fail
   have lw7 : E < W6.heap.size := HCE6.out.lt
   refine (hB R v _ _ HR6.out (by exact hlt2) (by show (n - (_ + 1)) * 3 + 3 ≤ f; omega)).mono ?_
   rintro e W7 ⟨uc, rfl, hrow7, hr7, hk7⟩
   have hz7 := hk7.size
   obtain ⟨Ac, Nc, Cc, rfl, hNl, hNx⟩ := hrow7.form
   clear hNl hNx
   have HTc_7 := aP (show RowV W7 (fun g => g < E + 1) (.slice Ac Nc Cc) (ST.ds (blockR n T f (nextR (blockR n T f (exR n T (nextR st)).2).2)).1) from RowV.mono hrow7 (fun g _ h => by have h : g < E + 1 := h; show g < W6.heap.size; omega))
   clear hrow7
   have HR7 := aP hr7
   have HCE7 := aP (HCE6.out.kept hk7 kom)
   have HCB7 := aP (HCB6.out.kept hk7 kom)
   have HK7 := aP (HK6.out.trans hk7)
   have HTa_7 := aP (HTa_6.out.kept hk7 (fun g _ h => by have h : g = R := h; show g < E + 1; omega))
   have HTb_7 := aP (HTb_6.out.kept hk7 (fun g _ h => by have h : g = R := h; show g < E + 1; omega))
   clear hr7 hk7 HCE6 HCB6 HK6 HR6 HTa_6 HTb_6
   have d20 := HCE7.out.cell 20; have f20 := HCE7.out.free 20
   simp only [aZ, aS] at d20
   have hq8 : Kept (· = E) W7 (W7.setCell ⟨E, 20, none⟩ (.slice Ac Nc Cc)) := (Kept.refl _ _).setCell (fun _ => by rfl) _
   have HCE8 := aP (show Cells (W7.setCell ⟨E, 20, none⟩ (.slice Ac Nc Cc)) E 63 [.int .i64 4, .int .i64 LI, .int .i64 CO, .string ⟨#[]⟩, .string ⟨#[]⟩, .int .i64 ka, .int .i64 ma, .string sa, .int .i64 sla, .bool loa, .int .i64 oa, .slice Aa Na Ca, .int .i64 0, .int .i64 0, .string ⟨#[]⟩, .int .i64 0, .bool false, .int .i64 0, .slice none 0 0, .slice Ab Nb Cb, .slice Ac Nc Cc, .int .i64 0, .int .i64 0, .int .i64 0, .bool false] from HCE7.out.put 20 _)
   have HR8 := aP (R2.other HR7.out hq8 kom (fun g hg => by have := HVB.out g hg; omega))
   have HCB8 := aP (HCB7.out.kept hq8 kom)
   have HK8 := aP (HK7.out.join hq8 (fun i hi hlt2 => by have hi : i = E := hi; omega))
   have HTa_8 := aP (HTa_7.out.kept hq8 (fun g _ h => by have h : g = E := h; show g < E + 1; omega))
   have HTb_8 := aP (HTb_7.out.kept hq8 (fun g _ h => by have h : g = E := h; show g < E + 1; omega))
   have HTc_8 := aP (HTc_7.out.kept hq8 (fun g _ h => by have h : g = E := h; show g < E + 1; omega))
   clear hq8 HCE7 HCB7 HK7 HR7 HTa_7 HTb_7 HTc_7
   go_wp2_with (first | ((with_reducible refine atl ?_); (refine wpList_load_cells rfl 63 (.tmp 3) rfl (E) rfl _ Tryz.underlying63 rfl HCE8.out krf ?_)) | ((with_reducible refine ats ?_); (refine wpList_store_all rfl rfl 63 (.tmp 2) (.tmp 64) rfl (w.heap.size) rfl [.int .i64 4, .int .i64 LI, .int .i64 CO, .string ⟨#[]⟩, .string ⟨#[]⟩, .int .i64 ka, .int .i64 ma, .string sa, .int .i64 sla, .bool loa, .int .i64 oa, .slice Aa Na Ca, .int .i64 0, .int .i64 0, .string ⟨#[]⟩, .int .i64 0, .bool false, .int .i64 0, .slice none 0 0, .slice Ab Nb Cb, .slice Ac Nc Cc, .int .i64 0, .int .i64 0, .int .i64 0, .bool false] rfl HCB8.out (by rfl) krf k1c ?_; intro W9 hB9 hk9; have HB9 := aP hB9; clear hB9)))
   have HTa_9 := (HTa_8.out.kept hk9 (fun g _ h => by have h : g = w.heap.size := h; show g < E + 1; omega)).mono (Z' := fun g => g < w.heap.size) (fun g _ h => by have h : g < w.heap.size := h; show g < E + 1; omega)
   have HTb_9 := (HTb_8.out.kept hk9 (fun g _ h => by have h : g = w.heap.size := h; show g < E + 1; omega)).mono (Z' := fun g => g < w.heap.size) (fun g _ h => by have h : g < w.heap.size := h; show g < E + 1; omega)
   have HTc_9 := (HTc_8.out.kept hk9 (fun g _ h => by have h : g = w.heap.size := h; show g < E + 1; omega)).mono (Z' := fun g => g < w.heap.size) (fun g _ h => by have h : g < w.heap.size := h; show g < E + 1; omega)
   have hR9 := R2.other HR8.out hk9 kom (fun g hg => by have := HVB.out g hg; omega)
   refine ret_box Tryz.results138 rfl HB9.out Tryz.underlying63 rfl krf rfl ⟨_, rfl, ?_, hR9, HK8.out.join hk9 (fun i hi hlt2 => by have hi : i = w.heap.size := hi; omega)⟩
   rw [HLI.out, HCO.out]
   exact SV.iff.2 ⟨_, _, _, _, rfl, HTa_9, (EV.leaf _ _ 0 0 ⟨#[]⟩ 0), HTb_9, HTc_9⟩
end
end Go.Proofs.YtjkgepppoopheaaGreatDoor
