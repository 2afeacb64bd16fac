/- The document's reader of layer 2 at a statement: those with a name (conditions: at most 1000000 words). -/
import Derived.Test.YtjkgepppoopheaaGreatDoorAbb
import Derived.Test.YtjkgepppoopheaaGreatDoorQ6
set_option maxRecDepth 100000
set_option maxHeartbeats 1000000
namespace Go.Proofs.YtjkgepppoopheaaGreatDoor
open Go.RowKit Go.Shelf
section
variable {R : Nat} {v : Value} {n : Nat} {T : Nat → TokD} {st : RS} {w : World}
theorem stmt_lock (h : RAt w R v n T st) (hK : kindR n T st = 6) : Calls Tryz.prog 138 #[.pointer (some ⟨R, 0, none⟩)] w (ReadsS w R v n T (nameR n T st 6 (naR n T (nextR st)))) := by
 have hlt : st.1 < n := (kindUp_lt (j := 15) (by rw [show kindUp n T st 15 = kindR n T st from rfl, hK]; decide)).1
 have hfew := h.few
 have hRw := h.is.lt
 have HVB := aP h.own_lt
 have hkA : Kept noX w (w.alloc (.cells zeroSt.toArray 63)) := (Kept.refl _ _).alloc _
 have hszA : (w.alloc (.cells zeroSt.toArray 63)).heap.size = w.heap.size + 1 := by simp
 have HB := aP (Cells.fresh w 63 zeroSt)
 have HA := aP (h.keep hkA)
 have HKA := aP hkA
 have HKI := aP hK
 clear h hkA hK
 go_enter Tryz.func138, Tryz.ntmps138
 go_wp2_with fail
 refine (pos_any HA.out).mono ?_
 rintro e W1 ⟨rfl, hk1⟩
 have hs1 := hk1.size
 rw [hszA] at hs1
 obtain ⟨LI, hLI⟩ : ∃ x, x = lineOf n T st.1 := ⟨_, rfl⟩
 obtain ⟨CO, hCO⟩ : ∃ x, x = colOf n T st.1 := ⟨_, rfl⟩
 have HLI := aP hLI
 have HCO := aP hCO
 rw [← hLI, ← hCO]
 clear hLI hCO
 go_wp2_with ((with_reducible refine ats ?_); (refine wpList_store_all rfl rfl 63 (.tmp 3) (.tmp 9) rfl (W1.heap.size) rfl [.int .i64 0, .int .i64 LI, .int .i64 CO, .string ⟨#[]⟩, .string ⟨#[]⟩, .int .i64 0, .int .i64 0, .string ⟨#[]⟩, .int .i64 0, .bool false, .int .i64 0, .slice none 0 0, .int .i64 0, .int .i64 0, .string ⟨#[]⟩, .int .i64 0, .bool false, .int .i64 0, .slice none 0 0, .slice none 0 0, .slice none 0 0, .int .i64 0, .int .i64 0, .int .i64 0, .bool false] rfl (Cells.fresh W1 63 zeroSt) (by rfl) krf k1c ?_; intro W2 hB2 hk2; have HB2 := aP hB2; clear hB2))
 replace hk2 : Kept noX W1 W2 := ((Kept.refl noX W1).alloc _).own hk2 (Nat.le_refl _)
 have HE2 : Hid (Cells W2 W1.heap.size 63 (hdSt 0 LI CO)) := HB2
 have hs2 := hk2.size
 have hl2 := HB2.out.lt
 clear HB2
 refine (rkinds_any W2).mono ?_
 rintro e Wl ⟨rfl, hG, hk3⟩
 have hs3 := hk3.size
 obtain ⟨G, hGe⟩ : ∃ G, G = W2.heap.size := ⟨_, rfl⟩
 rw [← hGe] at hG ⊢
 have lG := hG.lt
 obtain ⟨E, hEe⟩ : ∃ E, E = W1.heap.size := ⟨_, rfl⟩
 rw [← hEe] at HE2 ⊢
 have hE1 : w.heap.size < E := by omega
 have hEG : E < G := by omega
 clear hl2
 have HKL := aP (((HKA.out.trans hk1).trans hk2).trans hk3)
 have HI0 := aP (show KdI R v n T st w.heap.size E G Wl (.int .i64 1) Wl from ⟨1, Nat.le_refl _, by decide, rfl, by rw [← HLI.out, ← HCO.out]; exact HE2.out.keep hk3, ((HB.out.keep hk1).keep hk2).keep hk3, hG, ((HA.out.keep hk1).keep hk2).keep hk3, Kept.refl _ _⟩)
 clear hk1 hk2 hk3 hG HE2 HB HA HKA hGe hEe hs1 hs2 hs3
 go_wp2_with fail
 go_loopw [5] (fun i wr => KdI R v n T st w.heap.size E G Wl i wr) (fun i _ => 16 - (intOf i).toNat)
 case atStart => exact HI0.out
 case round =>
  obtain ⟨j, hj1, hj16, rfl, hcE, hcB, hcG, hr, hkr⟩ := hrel
  rw [← HLI.out, ← HCO.out] at hcE
  by_cases hj : j < 16
  ·exact k_1
  ·obtain rfl : j = 16 := by omega
   have hjd : decide (((16 : Nat) : Int) < 16) = false := by simp
   have hcE : Cells wr E 63 (hdSt 6 LI CO) := by rw [show kindUp n T st (16 - 1) = 6 from HKI.out] at hcE; exact hcE
   have e0 := hcE.cell 0
   simp only [hdSt, List.cons_append, aZ] at e0
   have HCE := aP hcE; have HCB := aP hcB; have HR := aP hr
   have HK := aP (HKL.out.join hkr (fun i hi hlt2 => by have hi : i = E := hi; omega))
   have lE := hcE.lt
   clear hcE hcB hcG hr hkr hjd
   have HCE0 := aP (show Cells wr E 63 [.int .i64 6, .int .i64 LI, .int .i64 CO, .string ⟨#[]⟩, .string ⟨#[]⟩, .int .i64 0, .int .i64 0, .string ⟨#[]⟩, .int .i64 0, .bool false, .int .i64 0, .slice none 0 0, .int .i64 0, .int .i64 0, .string ⟨#[]⟩, .int .i64 0, .bool false, .int .i64 0, .slice none 0 0, .slice none 0 0, .slice none 0 0, .int .i64 0, .int .i64 0, .int .i64 0, .bool false] from HCE.out)
   have HCB0 := HCB
   have HR0 := HR
   have HK0 := aP (show Kept (· = R) w wr from HK.out.any)
   clear HCE HCB HR HK
   have c1 := HR0.out.is.cell 1; have f1 := HR0.out.is.free 1
   simp only [aZ, aS] at c1
   go_wp2_with fail
   obtain ⟨Wx1, hW1⟩ : ∃ W, W = wr.setCell ⟨R, 1, none⟩ (.int .i64 ((st.1 + 1 : Nat) : Int)) := ⟨_, rfl⟩
   have hnx := RAt.next HR0.out
   rw [← hW1] at hnx
   have e1 : Value.int .i64 ((st.1 : Int) + 1) = .int .i64 ((st.1 + 1 : Nat) : Int) := rfl
   rw [e1, ← hW1]
   have hz1 := hnx.2.size
   have HR1 := aP hnx.1
   have HCE1 := aP (HCE0.out.kept hnx.2 kom)
   have HCB1 := aP (HCB0.out.kept hnx.2 kom)
   have HK1 := aP (HK0.out.trans hnx.2)
   clear hW1 hnx e1 c1 f1 HCE0 HCB0 HK0 HR0
   refine (naR_any HR1.out).mono ?_
   rintro e W2 ⟨rfl, hr2, hk2⟩
   have hz2 := hk2.size
   have HR2 := aP hr2
   have HCE2 := aP (HCE1.out.kept hk2 kom)
   have HCB2 := aP (HCB1.out.kept hk2 kom)
   have HK2 := aP (HK1.out.trans hk2)
   clear hr2 hk2 HCE1 HCB1 HK1 HR1
   have d3 := HCE2.out.cell 3; have f3 := HCE2.out.free 3
   simp only [aZ, aS] at d3
   go_wp2_with fail
   clear d3 f3
   obtain ⟨Wx3, hW3⟩ : ∃ W, W = W2.setCell ⟨E, 3, none⟩ (.string (naR n T (nextR st)).1) := ⟨_, rfl⟩
   have hq3 : Kept (· = E) W2 Wx3 := by rw [hW3]; exact (Kept.refl _ _).setCell (fun _ => by rfl) _
   have HCE3 := aP (show Cells Wx3 E 63 [.int .i64 6, .int .i64 LI, .int .i64 CO, .string (naR n T (nextR st)).1, .string ⟨#[]⟩, .int .i64 0, .int .i64 0, .string ⟨#[]⟩, .int .i64 0, .bool false, .int .i64 0, .slice none 0 0, .int .i64 0, .int .i64 0, .string ⟨#[]⟩, .int .i64 0, .bool false, .int .i64 0, .slice none 0 0, .slice none 0 0, .slice none 0 0, .int .i64 0, .int .i64 0, .int .i64 0, .bool false] from by rw [hW3]; exact HCE2.out.put 3 _)
   rw [← hW3]
   have hz3 := hq3.size
   have HR3 := aP (R2.other HR2.out hq3 kom (fun g hg => by have := HVB.out g hg; omega))
   have HCB3 := aP (HCB2.out.kept hq3 kom)
   have HK3 := aP (HK2.out.join hq3 (fun i hi hlt2 => by have hi : i = E := hi; omega))
   clear hW3 hq3 HCE2 HCB2 HK2 HR2
   refine (muR_any HR3.out ⟨#[59]⟩).mono ?_
   rintro e W4 ⟨rfl, hr4, hk4⟩
   have hz4 := hk4.size
   have HR4 := aP hr4
   have HCE4 := aP (HCE3.out.kept hk4 kom)
   have HCB4 := aP (HCB3.out.kept hk4 kom)
   have HK4 := aP (HK3.out.trans hk4)
   clear hr4 hk4 HCE3 HCB3 HK3 HR3
   go_wp2_with (first | ((with_reducible refine atl ?_); (refine wpList_load_cells rfl 63 (.tmp 3) rfl (E) rfl _ Tryz.underlying63 rfl HCE4.out krf ?_)) | ((with_reducible refine ats ?_); (refine wpList_store_all rfl rfl 63 (.tmp 2) (.tmp 112) rfl (w.heap.size) rfl [.int .i64 6, .int .i64 LI, .int .i64 CO, .string (naR n T (nextR st)).1, .string ⟨#[]⟩, .int .i64 0, .int .i64 0, .string ⟨#[]⟩, .int .i64 0, .bool false, .int .i64 0, .slice none 0 0, .int .i64 0, .int .i64 0, .string ⟨#[]⟩, .int .i64 0, .bool false, .int .i64 0, .slice none 0 0, .slice none 0 0, .slice none 0 0, .int .i64 0, .int .i64 0, .int .i64 0, .bool false] rfl HCB4.out (by rfl) krf k1c ?_; intro W9 hB9 hk9; have HB9 := aP hB9; clear hB9)))
   have hR9 := R2.other HR4.out hk9 kom (fun g hg => by have := HVB.out g hg; omega)
   refine ret_box Tryz.results138 rfl HB9.out Tryz.underlying63 rfl krf rfl ⟨_, rfl, ?_, hR9, HK4.out.join hk9 (fun i hi hlt2 => by have hi : i = w.heap.size := hi; omega)⟩
   rw [HLI.out, HCO.out]
   exact SV.iff.2 ⟨_, _, _, _, rfl, (EV.leaf _ _ 0 0 ⟨#[]⟩ 0), (EV.leaf _ _ 0 0 ⟨#[]⟩ 0), (RowV.nil _ _), (RowV.nil _ _)⟩
theorem stmt_unlock (h : RAt w R v n T st) (hK : kindR n T st = 7) : Calls Tryz.prog 138 #[.pointer (some ⟨R, 0, none⟩)] w (ReadsS w R v n T (nameR n T st 7 (naR n T (nextR st)))) := by
 have hlt : st.1 < n := (kindUp_lt (j := 15) (by rw [show kindUp n T st 15 = kindR n T st from rfl, hK]; decide)).1
 have hfew := h.few
 have hRw := h.is.lt
 have HVB := aP h.own_lt
 have hkA : Kept noX w (w.alloc (.cells zeroSt.toArray 63)) := (Kept.refl _ _).alloc _
 have hszA : (w.alloc (.cells zeroSt.toArray 63)).heap.size = w.heap.size + 1 := by simp
 have HB := aP (Cells.fresh w 63 zeroSt)
 have HA := aP (h.keep hkA)
 have HKA := aP hkA
 have HKI := aP hK
 clear h hkA hK
 go_enter Tryz.func138, Tryz.ntmps138
 go_wp2_with fail
 refine (pos_any HA.out).mono ?_
 rintro e W1 ⟨rfl, hk1⟩
 have hs1 := hk1.size
 rw [hszA] at hs1
 obtain ⟨LI, hLI⟩ : ∃ x, x = lineOf n T st.1 := ⟨_, rfl⟩
 obtain ⟨CO, hCO⟩ : ∃ x, x = colOf n T st.1 := ⟨_, rfl⟩
 have HLI := aP hLI
 have HCO := aP hCO
 rw [← hLI, ← hCO]
 clear hLI hCO
 go_wp2_with ((with_reducible refine ats ?_); (refine wpList_store_all rfl rfl 63 (.tmp 3) (.tmp 9) rfl (W1.heap.size) rfl [.int .i64 0, .int .i64 LI, .int .i64 CO, .string ⟨#[]⟩, .string ⟨#[]⟩, .int .i64 0, .int .i64 0, .string ⟨#[]⟩, .int .i64 0, .bool false, .int .i64 0, .slice none 0 0, .int .i64 0, .int .i64 0, .string ⟨#[]⟩, .int .i64 0, .bool false, .int .i64 0, .slice none 0 0, .slice none 0 0, .slice none 0 0, .int .i64 0, .int .i64 0, .int .i64 0, .bool false] rfl (Cells.fresh W1 63 zeroSt) (by rfl) krf k1c ?_; intro W2 hB2 hk2; have HB2 := aP hB2; clear hB2))
 replace hk2 : Kept noX W1 W2 := ((Kept.refl noX W1).alloc _).own hk2 (Nat.le_refl _)
 have HE2 : Hid (Cells W2 W1.heap.size 63 (hdSt 0 LI CO)) := HB2
 have hs2 := hk2.size
 have hl2 := HB2.out.lt
 clear HB2
 refine (rkinds_any W2).mono ?_
 rintro e Wl ⟨rfl, hG, hk3⟩
 have hs3 := hk3.size
 obtain ⟨G, hGe⟩ : ∃ G, G = W2.heap.size := ⟨_, rfl⟩
 rw [← hGe] at hG ⊢
 have lG := hG.lt
 obtain ⟨E, hEe⟩ : ∃ E, E = W1.heap.size := ⟨_, rfl⟩
 rw [← hEe] at HE2 ⊢
 have hE1 : w.heap.size < E := by omega
 have hEG : E < G := by omega
 clear hl2
 have HKL := aP (((HKA.out.trans hk1).trans hk2).trans hk3)
 have HI0 := aP (show KdI R v n T st w.heap.size E G Wl (.int .i64 1) Wl from ⟨1, Nat.le_refl _, by decide, rfl, by rw [← HLI.out, ← HCO.out]; exact HE2.out.keep hk3, ((HB.out.keep hk1).keep hk2).keep hk3, hG, ((HA.out.keep hk1).keep hk2).keep hk3, Kept.refl _ _⟩)
 clear hk1 hk2 hk3 hG HE2 HB HA HKA hGe hEe hs1 hs2 hs3
 go_wp2_with fail
 go_loopw [5] (fun i wr => KdI R v n T st w.heap.size E G Wl i wr) (fun i _ => 16 - (intOf i).toNat)
 case atStart => exact HI0.out
 case round =>
  obtain ⟨j, hj1, hj16, rfl, hcE, hcB, hcG, hr, hkr⟩ := hrel
  rw [← HLI.out, ← HCO.out] at hcE
  by_cases hj : j < 16
  ·exact k_1
  ·obtain rfl : j = 16 := by omega
   have hjd : decide (((16 : Nat) : Int) < 16) = false := by simp
   have hcE : Cells wr E 63 (hdSt 7 LI CO) := by rw [show kindUp n T st (16 - 1) = 7 from HKI.out] at hcE; exact hcE
   have e0 := hcE.cell 0
   simp only [hdSt, List.cons_append, aZ] at e0
   have HCE := aP hcE; have HCB := aP hcB; have HR := aP hr
   have HK := aP (HKL.out.join hkr (fun i hi hlt2 => by have hi : i = E := hi; omega))
   have lE := hcE.lt
   clear hcE hcB hcG hr hkr hjd
   have HCE0 := aP (show Cells wr E 63 [.int .i64 7, .int .i64 LI, .int .i64 CO, .string ⟨#[]⟩, .string ⟨#[]⟩, .int .i64 0, .int .i64 0, .string ⟨#[]⟩, .int .i64 0, .bool false, .int .i64 0, .slice none 0 0, .int .i64 0, .int .i64 0, .string ⟨#[]⟩, .int .i64 0, .bool false, .int .i64 0, .slice none 0 0, .slice none 0 0, .slice none 0 0, .int .i64 0, .int .i64 0, .int .i64 0, .bool false] from HCE.out)
   have HCB0 := HCB
   have HR0 := HR
   have HK0 := aP (show Kept (· = R) w wr from HK.out.any)
   clear HCE HCB HR HK
   have c1 := HR0.out.is.cell 1; have f1 := HR0.out.is.free 1
   simp only [aZ, aS] at c1
   go_wp2_with fail
   obtain ⟨Wx1, hW1⟩ : ∃ W, W = wr.setCell ⟨R, 1, none⟩ (.int .i64 ((st.1 + 1 : Nat) : Int)) := ⟨_, rfl⟩
   have hnx := RAt.next HR0.out
   rw [← hW1] at hnx
   have e1 : Value.int .i64 ((st.1 : Int) + 1) = .int .i64 ((st.1 + 1 : Nat) : Int) := rfl
   rw [e1, ← hW1]
   have hz1 := hnx.2.size
   have HR1 := aP hnx.1
   have HCE1 := aP (HCE0.out.kept hnx.2 kom)
   have HCB1 := aP (HCB0.out.kept hnx.2 kom)
   have HK1 := aP (HK0.out.trans hnx.2)
   clear hW1 hnx e1 c1 f1 HCE0 HCB0 HK0 HR0
   refine (naR_any HR1.out).mono ?_
   rintro e W2 ⟨rfl, hr2, hk2⟩
   have hz2 := hk2.size
   have HR2 := aP hr2
   have HCE2 := aP (HCE1.out.kept hk2 kom)
   have HCB2 := aP (HCB1.out.kept hk2 kom)
   have HK2 := aP (HK1.out.trans hk2)
   clear hr2 hk2 HCE1 HCB1 HK1 HR1
   have d3 := HCE2.out.cell 3; have f3 := HCE2.out.free 3
   simp only [aZ, aS] at d3
   go_wp2_with fail
   clear d3 f3
   obtain ⟨Wx3, hW3⟩ : ∃ W, W = W2.setCell ⟨E, 3, none⟩ (.string (naR n T (nextR st)).1) := ⟨_, rfl⟩
   have hq3 : Kept (· = E) W2 Wx3 := by rw [hW3]; exact (Kept.refl _ _).setCell (fun _ => by rfl) _
   have HCE3 := aP (show Cells Wx3 E 63 [.int .i64 7, .int .i64 LI, .int .i64 CO, .string (naR n T (nextR st)).1, .string ⟨#[]⟩, .int .i64 0, .int .i64 0, .string ⟨#[]⟩, .int .i64 0, .bool false, .int .i64 0, .slice none 0 0, .int .i64 0, .int .i64 0, .string ⟨#[]⟩, .int .i64 0, .bool false, .int .i64 0, .slice none 0 0, .slice none 0 0, .slice none 0 0, .int .i64 0, .int .i64 0, .int .i64 0, .bool false] from by rw [hW3]; exact HCE2.out.put 3 _)
   rw [← hW3]
   have hz3 := hq3.size
   have HR3 := aP (R2.other HR2.out hq3 kom (fun g hg => by have := HVB.out g hg; omega))
   have HCB3 := aP (HCB2.out.kept hq3 kom)
   have HK3 := aP (HK2.out.join hq3 (fun i hi hlt2 => by have hi : i = E := hi; omega))
   clear hW3 hq3 HCE2 HCB2 HK2 HR2
   refine (muR_any HR3.out ⟨#[59]⟩).mono ?_
   rintro e W4 ⟨rfl, hr4, hk4⟩
   have hz4 := hk4.size
   have HR4 := aP hr4
   have HCE4 := aP (HCE3.out.kept hk4 kom)
   have HCB4 := aP (HCB3.out.kept hk4 kom)
   have HK4 := aP (HK3.out.trans hk4)
   clear hr4 hk4 HCE3 HCB3 HK3 HR3
   go_wp2_with (first | ((with_reducible refine atl ?_); (refine wpList_load_cells rfl 63 (.tmp 3) rfl (E) rfl _ Tryz.underlying63 rfl HCE4.out krf ?_)) | ((with_reducible refine ats ?_); (refine wpList_store_all rfl rfl 63 (.tmp 2) (.tmp 112) rfl (w.heap.size) rfl [.int .i64 7, .int .i64 LI, .int .i64 CO, .string (naR n T (nextR st)).1, .string ⟨#[]⟩, .int .i64 0, .int .i64 0, .string ⟨#[]⟩, .int .i64 0, .bool false, .int .i64 0, .slice none 0 0, .int .i64 0, .int .i64 0, .string ⟨#[]⟩, .int .i64 0, .bool false, .int .i64 0, .slice none 0 0, .slice none 0 0, .slice none 0 0, .int .i64 0, .int .i64 0, .int .i64 0, .bool false] rfl HCB4.out (by rfl) krf k1c ?_; intro W9 hB9 hk9; have HB9 := aP hB9; clear hB9)))
   have hR9 := R2.other HR4.out hk9 kom (fun g hg => by have := HVB.out g hg; omega)
   refine ret_box Tryz.results138 rfl HB9.out Tryz.underlying63 rfl krf rfl ⟨_, rfl, ?_, hR9, HK4.out.join hk9 (fun i hi hlt2 => by have hi : i = w.heap.size := hi; omega)⟩
   rw [HLI.out, HCO.out]
   exact SV.iff.2 ⟨_, _, _, _, rfl, (EV.leaf _ _ 0 0 ⟨#[]⟩ 0), (EV.leaf _ _ 0 0 ⟨#[]⟩ 0), (RowV.nil _ _), (RowV.nil _ _)⟩
theorem stmt_signal (h : RAt w R v n T st) (hK : kindR n T st = 9) : Calls Tryz.prog 138 #[.pointer (some ⟨R, 0, none⟩)] w (ReadsS w R v n T (nameR n T st 9 (naR n T (nextR st)))) := by
 have hlt : st.1 < n := (kindUp_lt (j := 15) (by rw [show kindUp n T st 15 = kindR n T st from rfl, hK]; decide)).1
 have hfew := h.few
 have hRw := h.is.lt
 have HVB := aP h.own_lt
 have hkA : Kept noX w (w.alloc (.cells zeroSt.toArray 63)) := (Kept.refl _ _).alloc _
 have hszA : (w.alloc (.cells zeroSt.toArray 63)).heap.size = w.heap.size + 1 := by simp
 have HB := aP (Cells.fresh w 63 zeroSt)
 have HA := aP (h.keep hkA)
 have HKA := aP hkA
 have HKI := aP hK
 clear h hkA hK
 go_enter Tryz.func138, Tryz.ntmps138
 go_wp2_with fail
 refine (pos_any HA.out).mono ?_
 rintro e W1 ⟨rfl, hk1⟩
 have hs1 := hk1.size
 rw [hszA] at hs1
 obtain ⟨LI, hLI⟩ : ∃ x, x = lineOf n T st.1 := ⟨_, rfl⟩
 obtain ⟨CO, hCO⟩ : ∃ x, x = colOf n T st.1 := ⟨_, rfl⟩
 have HLI := aP hLI
 have HCO := aP hCO
 rw [← hLI, ← hCO]
 clear hLI hCO
 go_wp2_with ((with_reducible refine ats ?_); (refine wpList_store_all rfl rfl 63 (.tmp 3) (.tmp 9) rfl (W1.heap.size) rfl [.int .i64 0, .int .i64 LI, .int .i64 CO, .string ⟨#[]⟩, .string ⟨#[]⟩, .int .i64 0, .int .i64 0, .string ⟨#[]⟩, .int .i64 0, .bool false, .int .i64 0, .slice none 0 0, .int .i64 0, .int .i64 0, .string ⟨#[]⟩, .int .i64 0, .bool false, .int .i64 0, .slice none 0 0, .slice none 0 0, .slice none 0 0, .int .i64 0, .int .i64 0, .int .i64 0, .bool false] rfl (Cells.fresh W1 63 zeroSt) (by rfl) krf k1c ?_; intro W2 hB2 hk2; have HB2 := aP hB2; clear hB2))
 replace hk2 : Kept noX W1 W2 := ((Kept.refl noX W1).alloc _).own hk2 (Nat.le_refl _)
 have HE2 : Hid (Cells W2 W1.heap.size 63 (hdSt 0 LI CO)) := HB2
 have hs2 := hk2.size
 have hl2 := HB2.out.lt
 clear HB2
 refine (rkinds_any W2).mono ?_
 rintro e Wl ⟨rfl, hG, hk3⟩
 have hs3 := hk3.size
 obtain ⟨G, hGe⟩ : ∃ G, G = W2.heap.size := ⟨_, rfl⟩
 rw [← hGe] at hG ⊢
 have lG := hG.lt
 obtain ⟨E, hEe⟩ : ∃ E, E = W1.heap.size := ⟨_, rfl⟩
 rw [← hEe] at HE2 ⊢
 have hE1 : w.heap.size < E := by omega
 have hEG : E < G := by omega
 clear hl2
 have HKL := aP (((HKA.out.trans hk1).trans hk2).trans hk3)
 have HI0 := aP (show KdI R v n T st w.heap.size E G Wl (.int .i64 1) Wl from ⟨1, Nat.le_refl _, by decide, rfl, by rw [← HLI.out, ← HCO.out]; exact HE2.out.keep hk3, ((HB.out.keep hk1).keep hk2).keep hk3, hG, ((HA.out.keep hk1).keep hk2).keep hk3, Kept.refl _ _⟩)
 clear hk1 hk2 hk3 hG HE2 HB HA HKA hGe hEe hs1 hs2 hs3
 go_wp2_with fail
 go_loopw [5] (fun i wr => KdI R v n T st w.heap.size E G Wl i wr) (fun i _ => 16 - (intOf i).toNat)
 case atStart => exact HI0.out
 case round =>
  obtain ⟨j, hj1, hj16, rfl, hcE, hcB, hcG, hr, hkr⟩ := hrel
  rw [← HLI.out, ← HCO.out] at hcE
  by_cases hj : j < 16
  ·exact k_1
  ·obtain rfl : j = 16 := by omega
   have hjd : decide (((16 : Nat) : Int) < 16) = false := by simp
   have hcE : Cells wr E 63 (hdSt 9 LI CO) := by rw [show kindUp n T st (16 - 1) = 9 from HKI.out] at hcE; exact hcE
   have e0 := hcE.cell 0
   simp only [hdSt, List.cons_append, aZ] at e0
   have HCE := aP hcE; have HCB := aP hcB; have HR := aP hr
   have HK := aP (HKL.out.join hkr (fun i hi hlt2 => by have hi : i = E := hi; omega))
   have lE := hcE.lt
   clear hcE hcB hcG hr hkr hjd
   have HCE0 := aP (show Cells wr E 63 [.int .i64 9, .int .i64 LI, .int .i64 CO, .string ⟨#[]⟩, .string ⟨#[]⟩, .int .i64 0, .int .i64 0, .string ⟨#[]⟩, .int .i64 0, .bool false, .int .i64 0, .slice none 0 0, .int .i64 0, .int .i64 0, .string ⟨#[]⟩, .int .i64 0, .bool false, .int .i64 0, .slice none 0 0, .slice none 0 0, .slice none 0 0, .int .i64 0, .int .i64 0, .int .i64 0, .bool false] from HCE.out)
   have HCB0 := HCB
   have HR0 := HR
   have HK0 := aP (show Kept (· = R) w wr from HK.out.any)
   clear HCE HCB HR HK
   have c1 := HR0.out.is.cell 1; have f1 := HR0.out.is.free 1
   simp only [aZ, aS] at c1
   go_wp2_with fail
   obtain ⟨Wx1, hW1⟩ : ∃ W, W = wr.setCell ⟨R, 1, none⟩ (.int .i64 ((st.1 + 1 : Nat) : Int)) := ⟨_, rfl⟩
   have hnx := RAt.next HR0.out
   rw [← hW1] at hnx
   have e1 : Value.int .i64 ((st.1 : Int) + 1) = .int .i64 ((st.1 + 1 : Nat) : Int) := rfl
   rw [e1, ← hW1]
   have hz1 := hnx.2.size
   have HR1 := aP hnx.1
   have HCE1 := aP (HCE0.out.kept hnx.2 kom)
   have HCB1 := aP (HCB0.out.kept hnx.2 kom)
   have HK1 := aP (HK0.out.trans hnx.2)
   clear hW1 hnx e1 c1 f1 HCE0 HCB0 HK0 HR0
   refine (naR_any HR1.out).mono ?_
   rintro e W2 ⟨rfl, hr2, hk2⟩
   have hz2 := hk2.size
   have HR2 := aP hr2
   have HCE2 := aP (HCE1.out.kept hk2 kom)
   have HCB2 := aP (HCB1.out.kept hk2 kom)
   have HK2 := aP (HK1.out.trans hk2)
   clear hr2 hk2 HCE1 HCB1 HK1 HR1
   have d3 := HCE2.out.cell 3; have f3 := HCE2.out.free 3
   simp only [aZ, aS] at d3
   go_wp2_with fail
   clear d3 f3
   obtain ⟨Wx3, hW3⟩ : ∃ W, W = W2.setCell ⟨E, 3, none⟩ (.string (naR n T (nextR st)).1) := ⟨_, rfl⟩
   have hq3 : Kept (· = E) W2 Wx3 := by rw [hW3]; exact (Kept.refl _ _).setCell (fun _ => by rfl) _
   have HCE3 := aP (show Cells Wx3 E 63 [.int .i64 9, .int .i64 LI, .int .i64 CO, .string (naR n T (nextR st)).1, .string ⟨#[]⟩, .int .i64 0, .int .i64 0, .string ⟨#[]⟩, .int .i64 0, .bool false, .int .i64 0, .slice none 0 0, .int .i64 0, .int .i64 0, .string ⟨#[]⟩, .int .i64 0, .bool false, .int .i64 0, .slice none 0 0, .slice none 0 0, .slice none 0 0, .int .i64 0, .int .i64 0, .int .i64 0, .bool false] from by rw [hW3]; exact HCE2.out.put 3 _)
   rw [← hW3]
   have hz3 := hq3.size
   have HR3 := aP (R2.other HR2.out hq3 kom (fun g hg => by have := HVB.out g hg; omega))
   have HCB3 := aP (HCB2.out.kept hq3 kom)
   have HK3 := aP (HK2.out.join hq3 (fun i hi hlt2 => by have hi : i = E := hi; omega))
   clear hW3 hq3 HCE2 HCB2 HK2 HR2
   refine (muR_any HR3.out ⟨#[59]⟩).mono ?_
   rintro e W4 ⟨rfl, hr4, hk4⟩
   have hz4 := hk4.size
   have HR4 := aP hr4
   have HCE4 := aP (HCE3.out.kept hk4 kom)
   have HCB4 := aP (HCB3.out.kept hk4 kom)
   have HK4 := aP (HK3.out.trans hk4)
   clear hr4 hk4 HCE3 HCB3 HK3 HR3
   go_wp2_with (first | ((with_reducible refine atl ?_); (refine wpList_load_cells rfl 63 (.tmp 3) rfl (E) rfl _ Tryz.underlying63 rfl HCE4.out krf ?_)) | ((with_reducible refine ats ?_); (refine wpList_store_all rfl rfl 63 (.tmp 2) (.tmp 112) rfl (w.heap.size) rfl [.int .i64 9, .int .i64 LI, .int .i64 CO, .string (naR n T (nextR st)).1, .string ⟨#[]⟩, .int .i64 0, .int .i64 0, .string ⟨#[]⟩, .int .i64 0, .bool false, .int .i64 0, .slice none 0 0, .int .i64 0, .int .i64 0, .string ⟨#[]⟩, .int .i64 0, .bool false, .int .i64 0, .slice none 0 0, .slice none 0 0, .slice none 0 0, .int .i64 0, .int .i64 0, .int .i64 0, .bool false] rfl HCB4.out (by rfl) krf k1c ?_; intro W9 hB9 hk9; have HB9 := aP hB9; clear hB9)))
   have hR9 := R2.other HR4.out hk9 kom (fun g hg => by have := HVB.out g hg; omega)
   refine ret_box Tryz.results138 rfl HB9.out Tryz.underlying63 rfl krf rfl ⟨_, rfl, ?_, hR9, HK4.out.join hk9 (fun i hi hlt2 => by have hi : i = w.heap.size := hi; omega)⟩
   rw [HLI.out, HCO.out]
   exact SV.iff.2 ⟨_, _, _, _, rfl, (EV.leaf _ _ 0 0 ⟨#[]⟩ 0), (EV.leaf _ _ 0 0 ⟨#[]⟩ 0), (RowV.nil _ _), (RowV.nil _ _)⟩
theorem stmt_all (h : RAt w R v n T st) (hK : kindR n T st = 10) : Calls Tryz.prog 138 #[.pointer (some ⟨R, 0, none⟩)] w (ReadsS w R v n T (nameR n T st 10 (naR n T (nextR st)))) := by
 have hlt : st.1 < n := (kindUp_lt (j := 15) (by rw [show kindUp n T st 15 = kindR n T st from rfl, hK]; decide)).1
 have hfew := h.few
 have hRw := h.is.lt
 have HVB := aP h.own_lt
 have hkA : Kept noX w (w.alloc (.cells zeroSt.toArray 63)) := (Kept.refl _ _).alloc _
 have hszA : (w.alloc (.cells zeroSt.toArray 63)).heap.size = w.heap.size + 1 := by simp
 have HB := aP (Cells.fresh w 63 zeroSt)
 have HA := aP (h.keep hkA)
 have HKA := aP hkA
 have HKI := aP hK
 clear h hkA hK
 go_enter Tryz.func138, Tryz.ntmps138
 go_wp2_with fail
 refine (pos_any HA.out).mono ?_
 rintro e W1 ⟨rfl, hk1⟩
 have hs1 := hk1.size
 rw [hszA] at hs1
 obtain ⟨LI, hLI⟩ : ∃ x, x = lineOf n T st.1 := ⟨_, rfl⟩
 obtain ⟨CO, hCO⟩ : ∃ x, x = colOf n T st.1 := ⟨_, rfl⟩
 have HLI := aP hLI
 have HCO := aP hCO
 rw [← hLI, ← hCO]
 clear hLI hCO
 go_wp2_with ((with_reducible refine ats ?_); (refine wpList_store_all rfl rfl 63 (.tmp 3) (.tmp 9) rfl (W1.heap.size) rfl [.int .i64 0, .int .i64 LI, .int .i64 CO, .string ⟨#[]⟩, .string ⟨#[]⟩, .int .i64 0, .int .i64 0, .string ⟨#[]⟩, .int .i64 0, .bool false, .int .i64 0, .slice none 0 0, .int .i64 0, .int .i64 0, .string ⟨#[]⟩, .int .i64 0, .bool false, .int .i64 0, .slice none 0 0, .slice none 0 0, .slice none 0 0, .int .i64 0, .int .i64 0, .int .i64 0, .bool false] rfl (Cells.fresh W1 63 zeroSt) (by rfl) krf k1c ?_; intro W2 hB2 hk2; have HB2 := aP hB2; clear hB2))
 replace hk2 : Kept noX W1 W2 := ((Kept.refl noX W1).alloc _).own hk2 (Nat.le_refl _)
 have HE2 : Hid (Cells W2 W1.heap.size 63 (hdSt 0 LI CO)) := HB2
 have hs2 := hk2.size
 have hl2 := HB2.out.lt
 clear HB2
 refine (rkinds_any W2).mono ?_
 rintro e Wl ⟨rfl, hG, hk3⟩
 have hs3 := hk3.size
 obtain ⟨G, hGe⟩ : ∃ G, G = W2.heap.size := ⟨_, rfl⟩
 rw [← hGe] at hG ⊢
 have lG := hG.lt
 obtain ⟨E, hEe⟩ : ∃ E, E = W1.heap.size := ⟨_, rfl⟩
 rw [← hEe] at HE2 ⊢
 have hE1 : w.heap.size < E := by omega
 have hEG : E < G := by omega
 clear hl2
 have HKL := aP (((HKA.out.trans hk1).trans hk2).trans hk3)
 have HI0 := aP (show KdI R v n T st w.heap.size E G Wl (.int .i64 1) Wl from ⟨1, Nat.le_refl _, by decide, rfl, by rw [← HLI.out, ← HCO.out]; exact HE2.out.keep hk3, ((HB.out.keep hk1).keep hk2).keep hk3, hG, ((HA.out.keep hk1).keep hk2).keep hk3, Kept.refl _ _⟩)
 clear hk1 hk2 hk3 hG HE2 HB HA HKA hGe hEe hs1 hs2 hs3
 go_wp2_with fail
 go_loopw [5] (fun i wr => KdI R v n T st w.heap.size E G Wl i wr) (fun i _ => 16 - (intOf i).toNat)
 case atStart => exact HI0.out
 case round =>
  obtain ⟨j, hj1, hj16, rfl, hcE, hcB, hcG, hr, hkr⟩ := hrel
  rw [← HLI.out, ← HCO.out] at hcE
  by_cases hj : j < 16
  ·exact k_1
  ·obtain rfl : j = 16 := by omega
   have hjd : decide (((16 : Nat) : Int) < 16) = false := by simp
   have hcE : Cells wr E 63 (hdSt 10 LI CO) := by rw [show kindUp n T st (16 - 1) = 10 from HKI.out] at hcE; exact hcE
   have e0 := hcE.cell 0
   simp only [hdSt, List.cons_append, aZ] at e0
   have HCE := aP hcE; have HCB := aP hcB; have HR := aP hr
   have HK := aP (HKL.out.join hkr (fun i hi hlt2 => by have hi : i = E := hi; omega))
   have lE := hcE.lt
   clear hcE hcB hcG hr hkr hjd
   have HCE0 := aP (show Cells wr E 63 [.int .i64 10, .int .i64 LI, .int .i64 CO, .string ⟨#[]⟩, .string ⟨#[]⟩, .int .i64 0, .int .i64 0, .string ⟨#[]⟩, .int .i64 0, .bool false, .int .i64 0, .slice none 0 0, .int .i64 0, .int .i64 0, .string ⟨#[]⟩, .int .i64 0, .bool false, .int .i64 0, .slice none 0 0, .slice none 0 0, .slice none 0 0, .int .i64 0, .int .i64 0, .int .i64 0, .bool false] from HCE.out)
   have HCB0 := HCB
   have HR0 := HR
   have HK0 := aP (show Kept (· = R) w wr from HK.out.any)
   clear HCE HCB HR HK
   have c1 := HR0.out.is.cell 1; have f1 := HR0.out.is.free 1
   simp only [aZ, aS] at c1
   go_wp2_with fail
   obtain ⟨Wx1, hW1⟩ : ∃ W, W = wr.setCell ⟨R, 1, none⟩ (.int .i64 ((st.1 + 1 : Nat) : Int)) := ⟨_, rfl⟩
   have hnx := RAt.next HR0.out
   rw [← hW1] at hnx
   have e1 : Value.int .i64 ((st.1 : Int) + 1) = .int .i64 ((st.1 + 1 : Nat) : Int) := rfl
   rw [e1, ← hW1]
   have hz1 := hnx.2.size
   have HR1 := aP hnx.1
   have HCE1 := aP (HCE0.out.kept hnx.2 kom)
   have HCB1 := aP (HCB0.out.kept hnx.2 kom)
   have HK1 := aP (HK0.out.trans hnx.2)
   clear hW1 hnx e1 c1 f1 HCE0 HCB0 HK0 HR0
   refine (naR_any HR1.out).mono ?_
   rintro e W2 ⟨rfl, hr2, hk2⟩
   have hz2 := hk2.size
   have HR2 := aP hr2
   have HCE2 := aP (HCE1.out.kept hk2 kom)
   have HCB2 := aP (HCB1.out.kept hk2 kom)
   have HK2 := aP (HK1.out.trans hk2)
   clear hr2 hk2 HCE1 HCB1 HK1 HR1
   have d3 := HCE2.out.cell 3; have f3 := HCE2.out.free 3
   simp only [aZ, aS] at d3
   go_wp2_with fail
   clear d3 f3
   obtain ⟨Wx3, hW3⟩ : ∃ W, W = W2.setCell ⟨E, 3, none⟩ (.string (naR n T (nextR st)).1) := ⟨_, rfl⟩
   have hq3 : Kept (· = E) W2 Wx3 := by rw [hW3]; exact (Kept.refl _ _).setCell (fun _ => by rfl) _
   have HCE3 := aP (show Cells Wx3 E 63 [.int .i64 10, .int .i64 LI, .int .i64 CO, .string (naR n T (nextR st)).1, .string ⟨#[]⟩, .int .i64 0, .int .i64 0, .string ⟨#[]⟩, .int .i64 0, .bool false, .int .i64 0, .slice none 0 0, .int .i64 0, .int .i64 0, .string ⟨#[]⟩, .int .i64 0, .bool false, .int .i64 0, .slice none 0 0, .slice none 0 0, .slice none 0 0, .int .i64 0, .int .i64 0, .int .i64 0, .bool false] from by rw [hW3]; exact HCE2.out.put 3 _)
   rw [← hW3]
   have hz3 := hq3.size
   have HR3 := aP (R2.other HR2.out hq3 kom (fun g hg => by have := HVB.out g hg; omega))
   have HCB3 := aP (HCB2.out.kept hq3 kom)
   have HK3 := aP (HK2.out.join hq3 (fun i hi hlt2 => by have hi : i = E := hi; omega))
   clear hW3 hq3 HCE2 HCB2 HK2 HR2
   refine (muR_any HR3.out ⟨#[59]⟩).mono ?_
   rintro e W4 ⟨rfl, hr4, hk4⟩
   have hz4 := hk4.size
   have HR4 := aP hr4
   have HCE4 := aP (HCE3.out.kept hk4 kom)
   have HCB4 := aP (HCB3.out.kept hk4 kom)
   have HK4 := aP (HK3.out.trans hk4)
   clear hr4 hk4 HCE3 HCB3 HK3 HR3
   go_wp2_with (first | ((with_reducible refine atl ?_); (refine wpList_load_cells rfl 63 (.tmp 3) rfl (E) rfl _ Tryz.underlying63 rfl HCE4.out krf ?_)) | ((with_reducible refine ats ?_); (refine wpList_store_all rfl rfl 63 (.tmp 2) (.tmp 112) rfl (w.heap.size) rfl [.int .i64 10, .int .i64 LI, .int .i64 CO, .string (naR n T (nextR st)).1, .string ⟨#[]⟩, .int .i64 0, .int .i64 0, .string ⟨#[]⟩, .int .i64 0, .bool false, .int .i64 0, .slice none 0 0, .int .i64 0, .int .i64 0, .string ⟨#[]⟩, .int .i64 0, .bool false, .int .i64 0, .slice none 0 0, .slice none 0 0, .slice none 0 0, .int .i64 0, .int .i64 0, .int .i64 0, .bool false] rfl HCB4.out (by rfl) krf k1c ?_; intro W9 hB9 hk9; have HB9 := aP hB9; clear hB9)))
   have hR9 := R2.other HR4.out hk9 kom (fun g hg => by have := HVB.out g hg; omega)
   refine ret_box Tryz.results138 rfl HB9.out Tryz.underlying63 rfl krf rfl ⟨_, rfl, ?_, hR9, HK4.out.join hk9 (fun i hi hlt2 => by have hi : i = w.heap.size := hi; omega)⟩
   rw [HLI.out, HCO.out]
   exact SV.iff.2 ⟨_, _, _, _, rfl, (EV.leaf _ _ 0 0 ⟨#[]⟩ 0), (EV.leaf _ _ 0 0 ⟨#[]⟩ 0), (RowV.nil _ _), (RowV.nil _ _)⟩
theorem stmt_spawn (h : RAt w R v n T st) (hK : kindR n T st = 13) : Calls Tryz.prog 138 #[.pointer (some ⟨R, 0, none⟩)] w (ReadsS w R v n T (nameR n T st 13 (naR n T (nextR st)))) := by
 have hlt : st.1 < n := (kindUp_lt (j := 15) (by rw [show kindUp n T st 15 = kindR n T st from rfl, hK]; decide)).1
 have hfew := h.few
 have hRw := h.is.lt
 have HVB := aP h.own_lt
 have hkA : Kept noX w (w.alloc (.cells zeroSt.toArray 63)) := (Kept.refl _ _).alloc _
 have hszA : (w.alloc (.cells zeroSt.toArray 63)).heap.size = w.heap.size + 1 := by simp
 have HB := aP (Cells.fresh w 63 zeroSt)
 have HA := aP (h.keep hkA)
 have HKA := aP hkA
 have HKI := aP hK
 clear h hkA hK
 go_enter Tryz.func138, Tryz.ntmps138
 go_wp2_with fail
 refine (pos_any HA.out).mono ?_
 rintro e W1 ⟨rfl, hk1⟩
 have hs1 := hk1.size
 rw [hszA] at hs1
 obtain ⟨LI, hLI⟩ : ∃ x, x = lineOf n T st.1 := ⟨_, rfl⟩
 obtain ⟨CO, hCO⟩ : ∃ x, x = colOf n T st.1 := ⟨_, rfl⟩
 have HLI := aP hLI
 have HCO := aP hCO
 rw [← hLI, ← hCO]
 clear hLI hCO
 go_wp2_with ((with_reducible refine ats ?_); (refine wpList_store_all rfl rfl 63 (.tmp 3) (.tmp 9) rfl (W1.heap.size) rfl [.int .i64 0, .int .i64 LI, .int .i64 CO, .string ⟨#[]⟩, .string ⟨#[]⟩, .int .i64 0, .int .i64 0, .string ⟨#[]⟩, .int .i64 0, .bool false, .int .i64 0, .slice none 0 0, .int .i64 0, .int .i64 0, .string ⟨#[]⟩, .int .i64 0, .bool false, .int .i64 0, .slice none 0 0, .slice none 0 0, .slice none 0 0, .int .i64 0, .int .i64 0, .int .i64 0, .bool false] rfl (Cells.fresh W1 63 zeroSt) (by rfl) krf k1c ?_; intro W2 hB2 hk2; have HB2 := aP hB2; clear hB2))
 replace hk2 : Kept noX W1 W2 := ((Kept.refl noX W1).alloc _).own hk2 (Nat.le_refl _)
 have HE2 : Hid (Cells W2 W1.heap.size 63 (hdSt 0 LI CO)) := HB2
 have hs2 := hk2.size
 have hl2 := HB2.out.lt
 clear HB2
 refine (rkinds_any W2).mono ?_
 rintro e Wl ⟨rfl, hG, hk3⟩
 have hs3 := hk3.size
 obtain ⟨G, hGe⟩ : ∃ G, G = W2.heap.size := ⟨_, rfl⟩
 rw [← hGe] at hG ⊢
 have lG := hG.lt
 obtain ⟨E, hEe⟩ : ∃ E, E = W1.heap.size := ⟨_, rfl⟩
 rw [← hEe] at HE2 ⊢
 have hE1 : w.heap.size < E := by omega
 have hEG : E < G := by omega
 clear hl2
 have HKL := aP (((HKA.out.trans hk1).trans hk2).trans hk3)
 have HI0 := aP (show KdI R v n T st w.heap.size E G Wl (.int .i64 1) Wl from ⟨1, Nat.le_refl _, by decide, rfl, by rw [← HLI.out, ← HCO.out]; exact HE2.out.keep hk3, ((HB.out.keep hk1).keep hk2).keep hk3, hG, ((HA.out.keep hk1).keep hk2).keep hk3, Kept.refl _ _⟩)
 clear hk1 hk2 hk3 hG HE2 HB HA HKA hGe hEe hs1 hs2 hs3
 go_wp2_with fail
 go_loopw [5] (fun i wr => KdI R v n T st w.heap.size E G Wl i wr) (fun i _ => 16 - (intOf i).toNat)
 case atStart => exact HI0.out
 case round =>
  obtain ⟨j, hj1, hj16, rfl, hcE, hcB, hcG, hr, hkr⟩ := hrel
  rw [← HLI.out, ← HCO.out] at hcE
  by_cases hj : j < 16
  ·exact k_1
  ·obtain rfl : j = 16 := by omega
   have hjd : decide (((16 : Nat) : Int) < 16) = false := by simp
   have hcE : Cells wr E 63 (hdSt 13 LI CO) := by rw [show kindUp n T st (16 - 1) = 13 from HKI.out] at hcE; exact hcE
   have e0 := hcE.cell 0
   simp only [hdSt, List.cons_append, aZ] at e0
   have HCE := aP hcE; have HCB := aP hcB; have HR := aP hr
   have HK := aP (HKL.out.join hkr (fun i hi hlt2 => by have hi : i = E := hi; omega))
   have lE := hcE.lt
   clear hcE hcB hcG hr hkr hjd
   have HCE0 := aP (show Cells wr E 63 [.int .i64 13, .int .i64 LI, .int .i64 CO, .string ⟨#[]⟩, .string ⟨#[]⟩, .int .i64 0, .int .i64 0, .string ⟨#[]⟩, .int .i64 0, .bool false, .int .i64 0, .slice none 0 0, .int .i64 0, .int .i64 0, .string ⟨#[]⟩, .int .i64 0, .bool false, .int .i64 0, .slice none 0 0, .slice none 0 0, .slice none 0 0, .int .i64 0, .int .i64 0, .int .i64 0, .bool false] from HCE.out)
   have HCB0 := HCB
   have HR0 := HR
   have HK0 := aP (show Kept (· = R) w wr from HK.out.any)
   clear HCE HCB HR HK
   have c1 := HR0.out.is.cell 1; have f1 := HR0.out.is.free 1
   simp only [aZ, aS] at c1
   go_wp2_with fail
   obtain ⟨Wx1, hW1⟩ : ∃ W, W = wr.setCell ⟨R, 1, none⟩ (.int .i64 ((st.1 + 1 : Nat) : Int)) := ⟨_, rfl⟩
   have hnx := RAt.next HR0.out
   rw [← hW1] at hnx
   have e1 : Value.int .i64 ((st.1 : Int) + 1) = .int .i64 ((st.1 + 1 : Nat) : Int) := rfl
   rw [e1, ← hW1]
   have hz1 := hnx.2.size
   have HR1 := aP hnx.1
   have HCE1 := aP (HCE0.out.kept hnx.2 kom)
   have HCB1 := aP (HCB0.out.kept hnx.2 kom)
   have HK1 := aP (HK0.out.trans hnx.2)
   clear hW1 hnx e1 c1 f1 HCE0 HCB0 HK0 HR0
   refine (naR_any HR1.out).mono ?_
   rintro e W2 ⟨rfl, hr2, hk2⟩
   have hz2 := hk2.size
   have HR2 := aP hr2
   have HCE2 := aP (HCE1.out.kept hk2 kom)
   have HCB2 := aP (HCB1.out.kept hk2 kom)
   have HK2 := aP (HK1.out.trans hk2)
   clear hr2 hk2 HCE1 HCB1 HK1 HR1
   have d3 := HCE2.out.cell 3; have f3 := HCE2.out.free 3
   simp only [aZ, aS] at d3
   go_wp2_with fail
   clear d3 f3
   obtain ⟨Wx3, hW3⟩ : ∃ W, W = W2.setCell ⟨E, 3, none⟩ (.string (naR n T (nextR st)).1) := ⟨_, rfl⟩
   have hq3 : Kept (· = E) W2 Wx3 := by rw [hW3]; exact (Kept.refl _ _).setCell (fun _ => by rfl) _
   have HCE3 := aP (show Cells Wx3 E 63 [.int .i64 13, .int .i64 LI, .int .i64 CO, .string (naR n T (nextR st)).1, .string ⟨#[]⟩, .int .i64 0, .int .i64 0, .string ⟨#[]⟩, .int .i64 0, .bool false, .int .i64 0, .slice none 0 0, .int .i64 0, .int .i64 0, .string ⟨#[]⟩, .int .i64 0, .bool false, .int .i64 0, .slice none 0 0, .slice none 0 0, .slice none 0 0, .int .i64 0, .int .i64 0, .int .i64 0, .bool false] from by rw [hW3]; exact HCE2.out.put 3 _)
   rw [← hW3]
   have hz3 := hq3.size
   have HR3 := aP (R2.other HR2.out hq3 kom (fun g hg => by have := HVB.out g hg; omega))
   have HCB3 := aP (HCB2.out.kept hq3 kom)
   have HK3 := aP (HK2.out.join hq3 (fun i hi hlt2 => by have hi : i = E := hi; omega))
   clear hW3 hq3 HCE2 HCB2 HK2 HR2
   refine (muR_any HR3.out ⟨#[59]⟩).mono ?_
   rintro e W4 ⟨rfl, hr4, hk4⟩
   have hz4 := hk4.size
   have HR4 := aP hr4
   have HCE4 := aP (HCE3.out.kept hk4 kom)
   have HCB4 := aP (HCB3.out.kept hk4 kom)
   have HK4 := aP (HK3.out.trans hk4)
   clear hr4 hk4 HCE3 HCB3 HK3 HR3
   go_wp2_with (first | ((with_reducible refine atl ?_); (refine wpList_load_cells rfl 63 (.tmp 3) rfl (E) rfl _ Tryz.underlying63 rfl HCE4.out krf ?_)) | ((with_reducible refine ats ?_); (refine wpList_store_all rfl rfl 63 (.tmp 2) (.tmp 112) rfl (w.heap.size) rfl [.int .i64 13, .int .i64 LI, .int .i64 CO, .string (naR n T (nextR st)).1, .string ⟨#[]⟩, .int .i64 0, .int .i64 0, .string ⟨#[]⟩, .int .i64 0, .bool false, .int .i64 0, .slice none 0 0, .int .i64 0, .int .i64 0, .string ⟨#[]⟩, .int .i64 0, .bool false, .int .i64 0, .slice none 0 0, .slice none 0 0, .slice none 0 0, .int .i64 0, .int .i64 0, .int .i64 0, .bool false] rfl HCB4.out (by rfl) krf k1c ?_; intro W9 hB9 hk9; have HB9 := aP hB9; clear hB9)))
   have hR9 := R2.other HR4.out hk9 kom (fun g hg => by have := HVB.out g hg; omega)
   refine ret_box Tryz.results138 rfl HB9.out Tryz.underlying63 rfl krf rfl ⟨_, rfl, ?_, hR9, HK4.out.join hk9 (fun i hi hlt2 => by have hi : i = w.heap.size := hi; omega)⟩
   rw [HLI.out, HCO.out]
   exact SV.iff.2 ⟨_, _, _, _, rfl, (EV.leaf _ _ 0 0 ⟨#[]⟩ 0), (EV.leaf _ _ 0 0 ⟨#[]⟩ 0), (RowV.nil _ _), (RowV.nil _ _)⟩
end
end Go.Proofs.YtjkgepppoopheaaGreatDoor
