/- The document's reader of layer 2 at a statement: those with two names, send, let (conditions: at most 1000000 words). -/
import Derived.Test.YtjkgepppoopheaaGreatDoorAbb
import Derived.Test.YtjkgepppoopheaaGreatDoorQ6
set_option maxRecDepth 100000
set_option maxHeartbeats 1000000
namespace Go.Proofs.YtjkgepppoopheaaGreatDoor
open Go.RowKit Go.Shelf
section
variable {R : Nat} {v : Value} {n : Nat} {T : Nat → TokD} {st : RS} {w : World}
theorem stmt_wait (h : RAt w R v n T st) (hK : kindR n T st = 8) : Calls Tryz.prog 138 #[.pointer (some ⟨R, 0, none⟩)] w (ReadsS w R v n T (twoR n T st 8 (naR n T (nextR st)) (naR n T (naR n T (nextR st)).2))) := by
 have hlt : st.1 < n := (kindUp_lt (j := 15) (by rw [show kindUp n T st 15 = kindR n T st from rfl, hK]; decide)).1
 have hfew := h.few
 have hRw := h.is.lt
 have HVB := aP h.own_lt
 have hkA : Kept noX w (w.alloc (.cells zeroSt.toArray 63)) := (Kept.refl _ _).alloc _
 have hszA : (w.alloc (.cells zeroSt.toArray 63)).heap.size = w.heap.size + 1 := by simp
 have HB := aP (Cells.fresh w 63 zeroSt)
 have HA := aP (h.keep hkA)
 have HKA := aP hkA
 have HKI := aP hK
 clear h hkA hK
 go_enter Tryz.func138, Tryz.ntmps138
 go_wp2_with fail
 refine (pos_any HA.out).mono ?_
 rintro e W1 ⟨rfl, hk1⟩
 have hs1 := hk1.size
 rw [hszA] at hs1
 obtain ⟨LI, hLI⟩ : ∃ x, x = lineOf n T st.1 := ⟨_, rfl⟩
 obtain ⟨CO, hCO⟩ : ∃ x, x = colOf n T st.1 := ⟨_, rfl⟩
 have HLI := aP hLI
 have HCO := aP hCO
 rw [← hLI, ← hCO]
 clear hLI hCO
 go_wp2_with ((with_reducible refine ats ?_); (refine wpList_store_all rfl rfl 63 (.tmp 3) (.tmp 9) rfl (W1.heap.size) rfl [.int .i64 0, .int .i64 LI, .int .i64 CO, .string ⟨#[]⟩, .string ⟨#[]⟩, .int .i64 0, .int .i64 0, .string ⟨#[]⟩, .int .i64 0, .bool false, .int .i64 0, .slice none 0 0, .int .i64 0, .int .i64 0, .string ⟨#[]⟩, .int .i64 0, .bool false, .int .i64 0, .slice none 0 0, .slice none 0 0, .slice none 0 0, .int .i64 0, .int .i64 0, .int .i64 0, .bool false] rfl (Cells.fresh W1 63 zeroSt) (by rfl) krf k1c ?_; intro W2 hB2 hk2; have HB2 := aP hB2; clear hB2))
 replace hk2 : Kept noX W1 W2 := ((Kept.refl noX W1).alloc _).own hk2 (Nat.le_refl _)
 have HE2 : Hid (Cells W2 W1.heap.size 63 (hdSt 0 LI CO)) := HB2
 have hs2 := hk2.size
 have hl2 := HB2.out.lt
 clear HB2
 refine (rkinds_any W2).mono ?_
 rintro e Wl ⟨rfl, hG, hk3⟩
 have hs3 := hk3.size
 obtain ⟨G, hGe⟩ : ∃ G, G = W2.heap.size := ⟨_, rfl⟩
 rw [← hGe] at hG ⊢
 have lG := hG.lt
 obtain ⟨E, hEe⟩ : ∃ E, E = W1.heap.size := ⟨_, rfl⟩
 rw [← hEe] at HE2 ⊢
 have hE1 : w.heap.size < E := by omega
 have hEG : E < G := by omega
 clear hl2
 have HKL := aP (((HKA.out.trans hk1).trans hk2).trans hk3)
 have HI0 := aP (show KdI R v n T st w.heap.size E G Wl (.int .i64 1) Wl from ⟨1, Nat.le_refl _, by decide, rfl, by rw [← HLI.out, ← HCO.out]; exact HE2.out.keep hk3, ((HB.out.keep hk1).keep hk2).keep hk3, hG, ((HA.out.keep hk1).keep hk2).keep hk3, Kept.refl _ _⟩)
 clear hk1 hk2 hk3 hG HE2 HB HA HKA hGe hEe hs1 hs2 hs3
 go_wp2_with fail
 go_loopw [5] (fun i wr => KdI R v n T st w.heap.size E G Wl i wr) (fun i _ => 16 - (intOf i).toNat)
 case atStart => exact HI0.out
 case round =>
  obtain ⟨j, hj1, hj16, rfl, hcE, hcB, hcG, hr, hkr⟩ := hrel
  rw [← HLI.out, ← HCO.out] at hcE
  by_cases hj : j < 16
  ·exact k_1
  ·obtain rfl : j = 16 := by omega
   have hjd : decide (((16 : Nat) : Int) < 16) = false := by simp
   have hcE : Cells wr E 63 (hdSt 8 LI CO) := by rw [show kindUp n T st (16 - 1) = 8 from HKI.out] at hcE; exact hcE
   have e0 := hcE.cell 0
   simp only [hdSt, List.cons_append, aZ] at e0
   have HCE := aP hcE; have HCB := aP hcB; have HR := aP hr
   have HK := aP (HKL.out.join hkr (fun i hi hlt2 => by have hi : i = E := hi; omega))
   have lE := hcE.lt
   clear hcE hcB hcG hr hkr hjd
   have HCE0 := aP (show Cells wr E 63 [.int .i64 8, .int .i64 LI, .int .i64 CO, .string ⟨#[]⟩, .string ⟨#[]⟩, .int .i64 0, .int .i64 0, .string ⟨#[]⟩, .int .i64 0, .bool false, .int .i64 0, .slice none 0 0, .int .i64 0, .int .i64 0, .string ⟨#[]⟩, .int .i64 0, .bool false, .int .i64 0, .slice none 0 0, .slice none 0 0, .slice none 0 0, .int .i64 0, .int .i64 0, .int .i64 0, .bool false] from HCE.out)
   have HCB0 := HCB
   have HR0 := HR
   have HK0 := aP (show Kept (· = R) w wr from HK.out.any)
   clear HCE HCB HR HK
   have c1 := HR0.out.is.cell 1; have f1 := HR0.out.is.free 1
   simp only [aZ, aS] at c1
   go_wp2_with fail
   obtain ⟨Wx1, hW1⟩ : ∃ W, W = wr.setCell ⟨R, 1, none⟩ (.int .i64 ((st.1 + 1 : Nat) : Int)) := ⟨_, rfl⟩
   have hnx := RAt.next HR0.out
   rw [← hW1] at hnx
   have e1 : Value.int .i64 ((st.1 : Int) + 1) = .int .i64 ((st.1 + 1 : Nat) : Int) := rfl
   rw [e1, ← hW1]
   have hz1 := hnx.2.size
   have HR1 := aP hnx.1
   have HCE1 := aP (HCE0.out.kept hnx.2 kom)
   have HCB1 := aP (HCB0.out.kept hnx.2 kom)
   have HK1 := aP (HK0.out.trans hnx.2)
   clear hW1 hnx e1 c1 f1 HCE0 HCB0 HK0 HR0
   refine (naR_any HR1.out).mono ?_
   rintro e W2 ⟨rfl, hr2, hk2⟩
   have hz2 := hk2.size
   have HR2 := aP hr2
   have HCE2 := aP (HCE1.out.kept hk2 kom)
   have HCB2 := aP (HCB1.out.kept hk2 kom)
   have HK2 := aP (HK1.out.trans hk2)
   clear hr2 hk2 HCE1 HCB1 HK1 HR1
   have d3 := HCE2.out.cell 3; have f3 := HCE2.out.free 3
   simp only [aZ, aS] at d3
   go_wp2_with fail
   clear d3 f3
   obtain ⟨Wx3, hW3⟩ : ∃ W, W = W2.setCell ⟨E, 3, none⟩ (.string (naR n T (nextR st)).1) := ⟨_, rfl⟩
   have hq3 : Kept (· = E) W2 Wx3 := by rw [hW3]; exact (Kept.refl _ _).setCell (fun _ => by rfl) _
   have HCE3 := aP (show Cells Wx3 E 63 [.int .i64 8, .int .i64 LI, .int .i64 CO, .string (naR n T (nextR st)).1, .string ⟨#[]⟩, .int .i64 0, .int .i64 0, .string ⟨#[]⟩, .int .i64 0, .bool false, .int .i64 0, .slice none 0 0, .int .i64 0, .int .i64 0, .string ⟨#[]⟩, .int .i64 0, .bool false, .int .i64 0, .slice none 0 0, .slice none 0 0, .slice none 0 0, .int .i64 0, .int .i64 0, .int .i64 0, .bool false] from by rw [hW3]; exact HCE2.out.put 3 _)
   rw [← hW3]
   have hz3 := hq3.size
   have HR3 := aP (R2.other HR2.out hq3 kom (fun g hg => by have := HVB.out g hg; omega))
   have HCB3 := aP (HCB2.out.kept hq3 kom)
   have HK3 := aP (HK2.out.join hq3 (fun i hi hlt2 => by have hi : i = E := hi; omega))
   clear hW3 hq3 HCE2 HCB2 HK2 HR2
   refine (naR_any HR3.out).mono ?_
   rintro e W4 ⟨rfl, hr4, hk4⟩
   have hz4 := hk4.size
   have HR4 := aP hr4
   have HCE4 := aP (HCE3.out.kept hk4 kom)
   have HCB4 := aP (HCB3.out.kept hk4 kom)
   have HK4 := aP (HK3.out.trans hk4)
   clear hr4 hk4 HCE3 HCB3 HK3 HR3
   have d4 := HCE4.out.cell 4; have f4 := HCE4.out.free 4
   simp only [aZ, aS] at d4
   go_wp2_with fail
   clear d4 f4
   obtain ⟨Wx5, hW5⟩ : ∃ W, W = W4.setCell ⟨E, 4, none⟩ (.string (naR n T (naR n T (nextR st)).2).1) := ⟨_, rfl⟩
   have hq5 : Kept (· = E) W4 Wx5 := by rw [hW5]; exact (Kept.refl _ _).setCell (fun _ => by rfl) _
   have HCE5 := aP (show Cells Wx5 E 63 [.int .i64 8, .int .i64 LI, .int .i64 CO, .string (naR n T (nextR st)).1, .string (naR n T (naR n T (nextR st)).2).1, .int .i64 0, .int .i64 0, .string ⟨#[]⟩, .int .i64 0, .bool false, .int .i64 0, .slice none 0 0, .int .i64 0, .int .i64 0, .string ⟨#[]⟩, .int .i64 0, .bool false, .int .i64 0, .slice none 0 0, .slice none 0 0, .slice none 0 0, .int .i64 0, .int .i64 0, .int .i64 0, .bool false] from by rw [hW5]; exact HCE4.out.put 4 _)
   rw [← hW5]
   have hz5 := hq5.size
   have HR5 := aP (R2.other HR4.out hq5 kom (fun g hg => by have := HVB.out g hg; omega))
   have HCB5 := aP (HCB4.out.kept hq5 kom)
   have HK5 := aP (HK4.out.join hq5 (fun i hi hlt2 => by have hi : i = E := hi; omega))
   clear hW5 hq5 HCE4 HCB4 HK4 HR4
   refine (muR_any HR5.out ⟨#[59]⟩).mono ?_
   rintro e W6 ⟨rfl, hr6, hk6⟩
   have hz6 := hk6.size
   have HR6 := aP hr6
   have HCE6 := aP (HCE5.out.kept hk6 kom)
   have HCB6 := aP (HCB5.out.kept hk6 kom)
   have HK6 := aP (HK5.out.trans hk6)
   clear hr6 hk6 HCE5 HCB5 HK5 HR5
   go_wp2_with (first | ((with_reducible refine atl ?_); (refine wpList_load_cells rfl 63 (.tmp 3) rfl (E) rfl _ Tryz.underlying63 rfl HCE6.out krf ?_)) | ((with_reducible refine ats ?_); (refine wpList_store_all rfl rfl 63 (.tmp 2) (.tmp 112) rfl (w.heap.size) rfl [.int .i64 8, .int .i64 LI, .int .i64 CO, .string (naR n T (nextR st)).1, .string (naR n T (naR n T (nextR st)).2).1, .int .i64 0, .int .i64 0, .string ⟨#[]⟩, .int .i64 0, .bool false, .int .i64 0, .slice none 0 0, .int .i64 0, .int .i64 0, .string ⟨#[]⟩, .int .i64 0, .bool false, .int .i64 0, .slice none 0 0, .slice none 0 0, .slice none 0 0, .int .i64 0, .int .i64 0, .int .i64 0, .bool false] rfl HCB6.out (by rfl) krf k1c ?_; intro W9 hB9 hk9; have HB9 := aP hB9; clear hB9)))
   have hR9 := R2.other HR6.out hk9 kom (fun g hg => by have := HVB.out g hg; omega)
   refine ret_box Tryz.results138 rfl HB9.out Tryz.underlying63 rfl krf rfl ⟨_, rfl, ?_, hR9, HK6.out.join hk9 (fun i hi hlt2 => by have hi : i = w.heap.size := hi; omega)⟩
   rw [HLI.out, HCO.out]
   exact SV.iff.2 ⟨_, _, _, _, rfl, (EV.leaf _ _ 0 0 ⟨#[]⟩ 0), (EV.leaf _ _ 0 0 ⟨#[]⟩ 0), (RowV.nil _ _), (RowV.nil _ _)⟩
theorem stmt_recv (h : RAt w R v n T st) (hK : kindR n T st = 12) : Calls Tryz.prog 138 #[.pointer (some ⟨R, 0, none⟩)] w (ReadsS w R v n T (twoR n T st 12 (naR n T (nextR st)) (naR n T (naR n T (nextR st)).2))) := by
 have hlt : st.1 < n := (kindUp_lt (j := 15) (by rw [show kindUp n T st 15 = kindR n T st from rfl, hK]; decide)).1
 have hfew := h.few
 have hRw := h.is.lt
 have HVB := aP h.own_lt
 have hkA : Kept noX w (w.alloc (.cells zeroSt.toArray 63)) := (Kept.refl _ _).alloc _
 have hszA : (w.alloc (.cells zeroSt.toArray 63)).heap.size = w.heap.size + 1 := by simp
 have HB := aP (Cells.fresh w 63 zeroSt)
 have HA := aP (h.keep hkA)
 have HKA := aP hkA
 have HKI := aP hK
 clear h hkA hK
 go_enter Tryz.func138, Tryz.ntmps138
 go_wp2_with fail
 refine (pos_any HA.out).mono ?_
 rintro e W1 ⟨rfl, hk1⟩
 have hs1 := hk1.size
 rw [hszA] at hs1
 obtain ⟨LI, hLI⟩ : ∃ x, x = lineOf n T st.1 := ⟨_, rfl⟩
 obtain ⟨CO, hCO⟩ : ∃ x, x = colOf n T st.1 := ⟨_, rfl⟩
 have HLI := aP hLI
 have HCO := aP hCO
 rw [← hLI, ← hCO]
 clear hLI hCO
 go_wp2_with ((with_reducible refine ats ?_); (refine wpList_store_all rfl rfl 63 (.tmp 3) (.tmp 9) rfl (W1.heap.size) rfl [.int .i64 0, .int .i64 LI, .int .i64 CO, .string ⟨#[]⟩, .string ⟨#[]⟩, .int .i64 0, .int .i64 0, .string ⟨#[]⟩, .int .i64 0, .bool false, .int .i64 0, .slice none 0 0, .int .i64 0, .int .i64 0, .string ⟨#[]⟩, .int .i64 0, .bool false, .int .i64 0, .slice none 0 0, .slice none 0 0, .slice none 0 0, .int .i64 0, .int .i64 0, .int .i64 0, .bool false] rfl (Cells.fresh W1 63 zeroSt) (by rfl) krf k1c ?_; intro W2 hB2 hk2; have HB2 := aP hB2; clear hB2))
 replace hk2 : Kept noX W1 W2 := ((Kept.refl noX W1).alloc _).own hk2 (Nat.le_refl _)
 have HE2 : Hid (Cells W2 W1.heap.size 63 (hdSt 0 LI CO)) := HB2
 have hs2 := hk2.size
 have hl2 := HB2.out.lt
 clear HB2
 refine (rkinds_any W2).mono ?_
 rintro e Wl ⟨rfl, hG, hk3⟩
 have hs3 := hk3.size
 obtain ⟨G, hGe⟩ : ∃ G, G = W2.heap.size := ⟨_, rfl⟩
 rw [← hGe] at hG ⊢
 have lG := hG.lt
 obtain ⟨E, hEe⟩ : ∃ E, E = W1.heap.size := ⟨_, rfl⟩
 rw [← hEe] at HE2 ⊢
 have hE1 : w.heap.size < E := by omega
 have hEG : E < G := by omega
 clear hl2
 have HKL := aP (((HKA.out.trans hk1).trans hk2).trans hk3)
 have HI0 := aP (show KdI R v n T st w.heap.size E G Wl (.int .i64 1) Wl from ⟨1, Nat.le_refl _, by decide, rfl, by rw [← HLI.out, ← HCO.out]; exact HE2.out.keep hk3, ((HB.out.keep hk1).keep hk2).keep hk3, hG, ((HA.out.keep hk1).keep hk2).keep hk3, Kept.refl _ _⟩)
 clear hk1 hk2 hk3 hG HE2 HB HA HKA hGe hEe hs1 hs2 hs3
 go_wp2_with fail
 go_loopw [5] (fun i wr => KdI R v n T st w.heap.size E G Wl i wr) (fun i _ => 16 - (intOf i).toNat)
 case atStart => exact HI0.out
 case round =>
  obtain ⟨j, hj1, hj16, rfl, hcE, hcB, hcG, hr, hkr⟩ := hrel
  rw [← HLI.out, ← HCO.out] at hcE
  by_cases hj : j < 16
  ·exact k_1
  ·obtain rfl : j = 16 := by omega
   have hjd : decide (((16 : Nat) : Int) < 16) = false := by simp
   have hcE : Cells wr E 63 (hdSt 12 LI CO) := by rw [show kindUp n T st (16 - 1) = 12 from HKI.out] at hcE; exact hcE
   have e0 := hcE.cell 0
   simp only [hdSt, List.cons_append, aZ] at e0
   have HCE := aP hcE; have HCB := aP hcB; have HR := aP hr
   have HK := aP (HKL.out.join hkr (fun i hi hlt2 => by have hi : i = E := hi; omega))
   have lE := hcE.lt
   clear hcE hcB hcG hr hkr hjd
   have HCE0 := aP (show Cells wr E 63 [.int .i64 12, .int .i64 LI, .int .i64 CO, .string ⟨#[]⟩, .string ⟨#[]⟩, .int .i64 0, .int .i64 0, .string ⟨#[]⟩, .int .i64 0, .bool false, .int .i64 0, .slice none 0 0, .int .i64 0, .int .i64 0, .string ⟨#[]⟩, .int .i64 0, .bool false, .int .i64 0, .slice none 0 0, .slice none 0 0, .slice none 0 0, .int .i64 0, .int .i64 0, .int .i64 0, .bool false] from HCE.out)
   have HCB0 := HCB
   have HR0 := HR
   have HK0 := aP (show Kept (· = R) w wr from HK.out.any)
   clear HCE HCB HR HK
   have c1 := HR0.out.is.cell 1; have f1 := HR0.out.is.free 1
   simp only [aZ, aS] at c1
   go_wp2_with fail
   obtain ⟨Wx1, hW1⟩ : ∃ W, W = wr.setCell ⟨R, 1, none⟩ (.int .i64 ((st.1 + 1 : Nat) : Int)) := ⟨_, rfl⟩
   have hnx := RAt.next HR0.out
   rw [← hW1] at hnx
   have e1 : Value.int .i64 ((st.1 : Int) + 1) = .int .i64 ((st.1 + 1 : Nat) : Int) := rfl
   rw [e1, ← hW1]
   have hz1 := hnx.2.size
   have HR1 := aP hnx.1
   have HCE1 := aP (HCE0.out.kept hnx.2 kom)
   have HCB1 := aP (HCB0.out.kept hnx.2 kom)
   have HK1 := aP (HK0.out.trans hnx.2)
   clear hW1 hnx e1 c1 f1 HCE0 HCB0 HK0 HR0
   refine (naR_any HR1.out).mono ?_
   rintro e W2 ⟨rfl, hr2, hk2⟩
   have hz2 := hk2.size
   have HR2 := aP hr2
   have HCE2 := aP (HCE1.out.kept hk2 kom)
   have HCB2 := aP (HCB1.out.kept hk2 kom)
   have HK2 := aP (HK1.out.trans hk2)
   clear hr2 hk2 HCE1 HCB1 HK1 HR1
   have d3 := HCE2.out.cell 3; have f3 := HCE2.out.free 3
   simp only [aZ, aS] at d3
   go_wp2_with fail
   clear d3 f3
   obtain ⟨Wx3, hW3⟩ : ∃ W, W = W2.setCell ⟨E, 3, none⟩ (.string (naR n T (nextR st)).1) := ⟨_, rfl⟩
   have hq3 : Kept (· = E) W2 Wx3 := by rw [hW3]; exact (Kept.refl _ _).setCell (fun _ => by rfl) _
   have HCE3 := aP (show Cells Wx3 E 63 [.int .i64 12, .int .i64 LI, .int .i64 CO, .string (naR n T (nextR st)).1, .string ⟨#[]⟩, .int .i64 0, .int .i64 0, .string ⟨#[]⟩, .int .i64 0, .bool false, .int .i64 0, .slice none 0 0, .int .i64 0, .int .i64 0, .string ⟨#[]⟩, .int .i64 0, .bool false, .int .i64 0, .slice none 0 0, .slice none 0 0, .slice none 0 0, .int .i64 0, .int .i64 0, .int .i64 0, .bool false] from by rw [hW3]; exact HCE2.out.put 3 _)
   rw [← hW3]
   have hz3 := hq3.size
   have HR3 := aP (R2.other HR2.out hq3 kom (fun g hg => by have := HVB.out g hg; omega))
   have HCB3 := aP (HCB2.out.kept hq3 kom)
   have HK3 := aP (HK2.out.join hq3 (fun i hi hlt2 => by have hi : i = E := hi; omega))
   clear hW3 hq3 HCE2 HCB2 HK2 HR2
   refine (naR_any HR3.out).mono ?_
   rintro e W4 ⟨rfl, hr4, hk4⟩
   have hz4 := hk4.size
   have HR4 := aP hr4
   have HCE4 := aP (HCE3.out.kept hk4 kom)
   have HCB4 := aP (HCB3.out.kept hk4 kom)
   have HK4 := aP (HK3.out.trans hk4)
   clear hr4 hk4 HCE3 HCB3 HK3 HR3
   have d4 := HCE4.out.cell 4; have f4 := HCE4.out.free 4
   simp only [aZ, aS] at d4
   go_wp2_with fail
   clear d4 f4
   obtain ⟨Wx5, hW5⟩ : ∃ W, W = W4.setCell ⟨E, 4, none⟩ (.string (naR n T (naR n T (nextR st)).2).1) := ⟨_, rfl⟩
   have hq5 : Kept (· = E) W4 Wx5 := by rw [hW5]; exact (Kept.refl _ _).setCell (fun _ => by rfl) _
   have HCE5 := aP (show Cells Wx5 E 63 [.int .i64 12, .int .i64 LI, .int .i64 CO, .string (naR n T (nextR st)).1, .string (naR n T (naR n T (nextR st)).2).1, .int .i64 0, .int .i64 0, .string ⟨#[]⟩, .int .i64 0, .bool false, .int .i64 0, .slice none 0 0, .int .i64 0, .int .i64 0, .string ⟨#[]⟩, .int .i64 0, .bool false, .int .i64 0, .slice none 0 0, .slice none 0 0, .slice none 0 0, .int .i64 0, .int .i64 0, .int .i64 0, .bool false] from by rw [hW5]; exact HCE4.out.put 4 _)
   rw [← hW5]
   have hz5 := hq5.size
   have HR5 := aP (R2.other HR4.out hq5 kom (fun g hg => by have := HVB.out g hg; omega))
   have HCB5 := aP (HCB4.out.kept hq5 kom)
   have HK5 := aP (HK4.out.join hq5 (fun i hi hlt2 => by have hi : i = E := hi; omega))
   clear hW5 hq5 HCE4 HCB4 HK4 HR4
   refine (muR_any HR5.out ⟨#[59]⟩).mono ?_
   rintro e W6 ⟨rfl, hr6, hk6⟩
   have hz6 := hk6.size
   have HR6 := aP hr6
   have HCE6 := aP (HCE5.out.kept hk6 kom)
   have HCB6 := aP (HCB5.out.kept hk6 kom)
   have HK6 := aP (HK5.out.trans hk6)
   clear hr6 hk6 HCE5 HCB5 HK5 HR5
   go_wp2_with (first | ((with_reducible refine atl ?_); (refine wpList_load_cells rfl 63 (.tmp 3) rfl (E) rfl _ Tryz.underlying63 rfl HCE6.out krf ?_)) | ((with_reducible refine ats ?_); (refine wpList_store_all rfl rfl 63 (.tmp 2) (.tmp 112) rfl (w.heap.size) rfl [.int .i64 12, .int .i64 LI, .int .i64 CO, .string (naR n T (nextR st)).1, .string (naR n T (naR n T (nextR st)).2).1, .int .i64 0, .int .i64 0, .string ⟨#[]⟩, .int .i64 0, .bool false, .int .i64 0, .slice none 0 0, .int .i64 0, .int .i64 0, .string ⟨#[]⟩, .int .i64 0, .bool false, .int .i64 0, .slice none 0 0, .slice none 0 0, .slice none 0 0, .int .i64 0, .int .i64 0, .int .i64 0, .bool false] rfl HCB6.out (by rfl) krf k1c ?_; intro W9 hB9 hk9; have HB9 := aP hB9; clear hB9)))
   have hR9 := R2.other HR6.out hk9 kom (fun g hg => by have := HVB.out g hg; omega)
   refine ret_box Tryz.results138 rfl HB9.out Tryz.underlying63 rfl krf rfl ⟨_, rfl, ?_, hR9, HK6.out.join hk9 (fun i hi hlt2 => by have hi : i = w.heap.size := hi; omega)⟩
   rw [HLI.out, HCO.out]
   exact SV.iff.2 ⟨_, _, _, _, rfl, (EV.leaf _ _ 0 0 ⟨#[]⟩ 0), (EV.leaf _ _ 0 0 ⟨#[]⟩ 0), (RowV.nil _ _), (RowV.nil _ _)⟩
theorem stmt_send (h : RAt w R v n T st) (hK : kindR n T st = 11) : Calls Tryz.prog 138 #[.pointer (some ⟨R, 0, none⟩)] w (ReadsS w R v n T (sendR n T st (naR n T (nextR st)) (exR n T (naR n T (nextR st)).2))) := by
 have hlt : st.1 < n := (kindUp_lt (j := 15) (by rw [show kindUp n T st 15 = kindR n T st from rfl, hK]; decide)).1
 have hfew := h.few
 have hRw := h.is.lt
 have HVB := aP h.own_lt
 have hkA : Kept noX w (w.alloc (.cells zeroSt.toArray 63)) := (Kept.refl _ _).alloc _
 have hszA : (w.alloc (.cells zeroSt.toArray 63)).heap.size = w.heap.size + 1 := by simp
 have HB := aP (Cells.fresh w 63 zeroSt)
 have HA := aP (h.keep hkA)
 have HKA := aP hkA
 have HKI := aP hK
 clear h hkA hK
 go_enter Tryz.func138, Tryz.ntmps138
 go_wp2_with fail
 refine (pos_any HA.out).mono ?_
 rintro e W1 ⟨rfl, hk1⟩
 have hs1 := hk1.size
 rw [hszA] at hs1
 obtain ⟨LI, hLI⟩ : ∃ x, x = lineOf n T st.1 := ⟨_, rfl⟩
 obtain ⟨CO, hCO⟩ : ∃ x, x = colOf n T st.1 := ⟨_, rfl⟩
 have HLI := aP hLI
 have HCO := aP hCO
 rw [← hLI, ← hCO]
 clear hLI hCO
 go_wp2_with ((with_reducible refine ats ?_); (refine wpList_store_all rfl rfl 63 (.tmp 3) (.tmp 9) rfl (W1.heap.size) rfl [.int .i64 0, .int .i64 LI, .int .i64 CO, .string ⟨#[]⟩, .string ⟨#[]⟩, .int .i64 0, .int .i64 0, .string ⟨#[]⟩, .int .i64 0, .bool false, .int .i64 0, .slice none 0 0, .int .i64 0, .int .i64 0, .string ⟨#[]⟩, .int .i64 0, .bool false, .int .i64 0, .slice none 0 0, .slice none 0 0, .slice none 0 0, .int .i64 0, .int .i64 0, .int .i64 0, .bool false] rfl (Cells.fresh W1 63 zeroSt) (by rfl) krf k1c ?_; intro W2 hB2 hk2; have HB2 := aP hB2; clear hB2))
 replace hk2 : Kept noX W1 W2 := ((Kept.refl noX W1).alloc _).own hk2 (Nat.le_refl _)
 have HE2 : Hid (Cells W2 W1.heap.size 63 (hdSt 0 LI CO)) := HB2
 have hs2 := hk2.size
 have hl2 := HB2.out.lt
 clear HB2
 refine (rkinds_any W2).mono ?_
 rintro e Wl ⟨rfl, hG, hk3⟩
 have hs3 := hk3.size
 obtain ⟨G, hGe⟩ : ∃ G, G = W2.heap.size := ⟨_, rfl⟩
 rw [← hGe] at hG ⊢
 have lG := hG.lt
 obtain ⟨E, hEe⟩ : ∃ E, E = W1.heap.size := ⟨_, rfl⟩
 rw [← hEe] at HE2 ⊢
 have hE1 : w.heap.size < E := by omega
 have hEG : E < G := by omega
 clear hl2
 have HKL := aP (((HKA.out.trans hk1).trans hk2).trans hk3)
 have HI0 := aP (show KdI R v n T st w.heap.size E G Wl (.int .i64 1) Wl from ⟨1, Nat.le_refl _, by decide, rfl, by rw [← HLI.out, ← HCO.out]; exact HE2.out.keep hk3, ((HB.out.keep hk1).keep hk2).keep hk3, hG, ((HA.out.keep hk1).keep hk2).keep hk3, Kept.refl _ _⟩)
 clear hk1 hk2 hk3 hG HE2 HB HA HKA hGe hEe hs1 hs2 hs3
 go_wp2_with fail
 go_loopw [5] (fun i wr => KdI R v n T st w.heap.size E G Wl i wr) (fun i _ => 16 - (intOf i).toNat)
 case atStart => exact HI0.out
 case round =>
  obtain ⟨j, hj1, hj16, rfl, hcE, hcB, hcG, hr, hkr⟩ := hrel
  rw [← HLI.out, ← HCO.out] at hcE
  by_cases hj : j < 16
  ·exact k_1
  ·obtain rfl : j = 16 := by omega
   have hjd : decide (((16 : Nat) : Int) < 16) = false := by simp
   have hcE : Cells wr E 63 (hdSt 11 LI CO) := by rw [show kindUp n T st (16 - 1) = 11 from HKI.out] at hcE; exact hcE
   have e0 := hcE.cell 0
   simp only [hdSt, List.cons_append, aZ] at e0
   have HCE := aP hcE; have HCB := aP hcB; have HR := aP hr
   have HK := aP (HKL.out.join hkr (fun i hi hlt2 => by have hi : i = E := hi; omega))
   have lE := hcE.lt
   clear hcE hcB hcG hr hkr hjd
   have HCE0 := aP (show Cells wr E 63 [.int .i64 11, .int .i64 LI, .int .i64 CO, .string ⟨#[]⟩, .string ⟨#[]⟩, .int .i64 0, .int .i64 0, .string ⟨#[]⟩, .int .i64 0, .bool false, .int .i64 0, .slice none 0 0, .int .i64 0, .int .i64 0, .string ⟨#[]⟩, .int .i64 0, .bool false, .int .i64 0, .slice none 0 0, .slice none 0 0, .slice none 0 0, .int .i64 0, .int .i64 0, .int .i64 0, .bool false] from HCE.out)
   have HCB0 := HCB
   have HR0 := HR
   have HK0 := aP (show Kept (· = R) w wr from HK.out.any)
   clear HCE HCB HR HK
   have c1 := HR0.out.is.cell 1; have f1 := HR0.out.is.free 1
   simp only [aZ, aS] at c1
   go_wp2_with fail
   obtain ⟨Wx1, hW1⟩ : ∃ W, W = wr.setCell ⟨R, 1, none⟩ (.int .i64 ((st.1 + 1 : Nat) : Int)) := ⟨_, rfl⟩
   have hnx := RAt.next HR0.out
   rw [← hW1] at hnx
   have e1 : Value.int .i64 ((st.1 : Int) + 1) = .int .i64 ((st.1 + 1 : Nat) : Int) := rfl
   rw [e1, ← hW1]
   have hz1 := hnx.2.size
   have HR1 := aP hnx.1
   have HCE1 := aP (HCE0.out.kept hnx.2 kom)
   have HCB1 := aP (HCB0.out.kept hnx.2 kom)
   have HK1 := aP (HK0.out.trans hnx.2)
   clear hW1 hnx e1 c1 f1 HCE0 HCB0 HK0 HR0
   refine (naR_any HR1.out).mono ?_
   rintro e W2 ⟨rfl, hr2, hk2⟩
   have hz2 := hk2.size
   have HR2 := aP hr2
   have HCE2 := aP (HCE1.out.kept hk2 kom)
   have HCB2 := aP (HCB1.out.kept hk2 kom)
   have HK2 := aP (HK1.out.trans hk2)
   clear hr2 hk2 HCE1 HCB1 HK1 HR1
   have d3 := HCE2.out.cell 3; have f3 := HCE2.out.free 3
   simp only [aZ, aS] at d3
   go_wp2_with fail
   clear d3 f3
   obtain ⟨Wx3, hW3⟩ : ∃ W, W = W2.setCell ⟨E, 3, none⟩ (.string (naR n T (nextR st)).1) := ⟨_, rfl⟩
   have hq3 : Kept (· = E) W2 Wx3 := by rw [hW3]; exact (Kept.refl _ _).setCell (fun _ => by rfl) _
   have HCE3 := aP (show Cells Wx3 E 63 [.int .i64 11, .int .i64 LI, .int .i64 CO, .string (naR n T (nextR st)).1, .string ⟨#[]⟩, .int .i64 0, .int .i64 0, .string ⟨#[]⟩, .int .i64 0, .bool false, .int .i64 0, .slice none 0 0, .int .i64 0, .int .i64 0, .string ⟨#[]⟩, .int .i64 0, .bool false, .int .i64 0, .slice none 0 0, .slice none 0 0, .slice none 0 0, .int .i64 0, .int .i64 0, .int .i64 0, .bool false] from by rw [hW3]; exact HCE2.out.put 3 _)
   rw [← hW3]
   have hz3 := hq3.size
   have HR3 := aP (R2.other HR2.out hq3 kom (fun g hg => by have := HVB.out g hg; omega))
   have HCB3 := aP (HCB2.out.kept hq3 kom)
   have HK3 := aP (HK2.out.join hq3 (fun i hi hlt2 => by have hi : i = E := hi; omega))
   clear hW3 hq3 HCE2 HCB2 HK2 HR2
   have lw4 : E < Wx3.heap.size := HCE3.out.lt
   refine (exR_any HR3.out ((naR_on (T := T) (nextR st)).2 hlt)).mono ?_
   rintro e W4 ⟨cs4, rfl, hev4, hr4, hk4⟩
   have hz4 := hk4.size
   obtain ⟨ka, ma, sa, sla, loa, oa, Aa, Na, Ca, rfl⟩ := hev4.form
   have HTa_4 := aP (show EV W4 (fun g => g < E + 1) _ (exR n T (naR n T (nextR st)).2).1 from hev4.mono (fun g _ h => by have h : g < E + 1 := h; show g < Wx3.heap.size; omega))
   clear hev4
   have HR4 := aP hr4
   have HCE4 := aP (HCE3.out.kept hk4 kom)
   have HCB4 := aP (HCB3.out.kept hk4 kom)
   have HK4 := aP (HK3.out.trans hk4)
   clear hr4 hk4 HCE3 HCB3 HK3 HR3
   go_wp2_with ((with_reducible refine ats ?_); (refine wpList_store_part rfl rfl 44 (.tmp 109) (.tmp 108) rfl (E) 5 rfl [.int .i64 ka, .int .i64 ma, .string sa, .int .i64 sla, .bool loa, .int .i64 oa, .slice Aa Na Ca] rfl HCE4.out kle krf k1c ?_; intro W500 hB500 hk500; replace hB500 : Cells W500 (E) 63 [.int .i64 11, .int .i64 LI, .int .i64 CO, .string (naR n T (nextR st)).1, .string ⟨#[]⟩, .int .i64 ka, .int .i64 ma, .string sa, .int .i64 sla, .bool loa, .int .i64 oa, .slice Aa Na Ca, .int .i64 0, .int .i64 0, .string ⟨#[]⟩, .int .i64 0, .bool false, .int .i64 0, .slice none 0 0, .slice none 0 0, .slice none 0 0, .int .i64 0, .int .i64 0, .int .i64 0, .bool false] := (by simpa using hB500); have HB500 := aP hB500; clear hB500))
   have HCE5 := HB500
   have hz5 := hk500.size
   have HR5 := aP (R2.other HR4.out hk500 kom (fun g hg => by have := HVB.out g hg; omega))
   have HCB5 := aP (HCB4.out.kept hk500 kom)
   have HK5 := aP (HK4.out.join hk500 (fun i hi hlt2 => by have hi : i = E := hi; omega))
   have HTa_5 := aP (HTa_4.out.kept hk500 (fun g _ h => by have h : g = E := h; show g < E + 1; omega))
   clear HB500 hk500 HCE4 HCB4 HK4 HR4 HTa_4
   refine (muR_any HR5.out ⟨#[59]⟩).mono ?_
   rintro e W6 ⟨rfl, hr6, hk6⟩
   have hz6 := hk6.size
   have HR6 := aP hr6
   have HCE6 := aP (HCE5.out.kept hk6 kom)
   have HCB6 := aP (HCB5.out.kept hk6 kom)
   have HK6 := aP (HK5.out.trans hk6)
   have HTa_6 := aP (HTa_5.out.kept hk6 (fun g _ h => by have h : g = R := h; show g < E + 1; omega))
   clear hr6 hk6 HCE5 HCB5 HK5 HR5 HTa_5
   go_wp2_with (first | ((with_reducible refine atl ?_); (refine wpList_load_cells rfl 63 (.tmp 3) rfl (E) rfl _ Tryz.underlying63 rfl HCE6.out krf ?_)) | ((with_reducible refine ats ?_); (refine wpList_store_all rfl rfl 63 (.tmp 2) (.tmp 112) rfl (w.heap.size) rfl [.int .i64 11, .int .i64 LI, .int .i64 CO, .string (naR n T (nextR st)).1, .string ⟨#[]⟩, .int .i64 ka, .int .i64 ma, .string sa, .int .i64 sla, .bool loa, .int .i64 oa, .slice Aa Na Ca, .int .i64 0, .int .i64 0, .string ⟨#[]⟩, .int .i64 0, .bool false, .int .i64 0, .slice none 0 0, .slice none 0 0, .slice none 0 0, .int .i64 0, .int .i64 0, .int .i64 0, .bool false] rfl HCB6.out (by rfl) krf k1c ?_; intro W9 hB9 hk9; have HB9 := aP hB9; clear hB9)))
   have HTa_9 := (HTa_6.out.kept hk9 (fun g _ h => by have h : g = w.heap.size := h; show g < E + 1; omega)).mono (Z' := fun g => g < w.heap.size) (fun g _ h => by have h : g < w.heap.size := h; show g < E + 1; omega)
   have hR9 := R2.other HR6.out hk9 kom (fun g hg => by have := HVB.out g hg; omega)
   refine ret_box Tryz.results138 rfl HB9.out Tryz.underlying63 rfl krf rfl ⟨_, rfl, ?_, hR9, HK6.out.join hk9 (fun i hi hlt2 => by have hi : i = w.heap.size := hi; omega)⟩
   rw [HLI.out, HCO.out]
   exact SV.iff.2 ⟨_, _, _, _, rfl, HTa_9, (EV.leaf _ _ 0 0 ⟨#[]⟩ 0), (RowV.nil _ _), (RowV.nil _ _)⟩
theorem stmt_let (h : RAt w R v n T st) (hK : kindR n T st = 1) : Calls Tryz.prog 138 #[.pointer (some ⟨R, 0, none⟩)] w (ReadsS w R v n T (letR n T st (naR n T (nextR st)))) := by
 have hlt : st.1 < n := (kindUp_lt (j := 15) (by rw [show kindUp n T st 15 = kindR n T st from rfl, hK]; decide)).1
 have hfew := h.few
 have hRw := h.is.lt
 have HVB := aP h.own_lt
 have hkA : Kept noX w (w.alloc (.cells zeroSt.toArray 63)) := (Kept.refl _ _).alloc _
 have hszA : (w.alloc (.cells zeroSt.toArray 63)).heap.size = w.heap.size + 1 := by simp
 have HB := aP (Cells.fresh w 63 zeroSt)
 have HA := aP (h.keep hkA)
 have HKA := aP hkA
 have HKI := aP hK
 clear h hkA hK
 go_enter Tryz.func138, Tryz.ntmps138
 go_wp2_with fail
 refine (pos_any HA.out).mono ?_
 rintro e W1 ⟨rfl, hk1⟩
 have hs1 := hk1.size
 rw [hszA] at hs1
 obtain ⟨LI, hLI⟩ : ∃ x, x = lineOf n T st.1 := ⟨_, rfl⟩
 obtain ⟨CO, hCO⟩ : ∃ x, x = colOf n T st.1 := ⟨_, rfl⟩
 have HLI := aP hLI
 have HCO := aP hCO
 rw [← hLI, ← hCO]
 clear hLI hCO
 go_wp2_with ((with_reducible refine ats ?_); (refine wpList_store_all rfl rfl 63 (.tmp 3) (.tmp 9) rfl (W1.heap.size) rfl [.int .i64 0, .int .i64 LI, .int .i64 CO, .string ⟨#[]⟩, .string ⟨#[]⟩, .int .i64 0, .int .i64 0, .string ⟨#[]⟩, .int .i64 0, .bool false, .int .i64 0, .slice none 0 0, .int .i64 0, .int .i64 0, .string ⟨#[]⟩, .int .i64 0, .bool false, .int .i64 0, .slice none 0 0, .slice none 0 0, .slice none 0 0, .int .i64 0, .int .i64 0, .int .i64 0, .bool false] rfl (Cells.fresh W1 63 zeroSt) (by rfl) krf k1c ?_; intro W2 hB2 hk2; have HB2 := aP hB2; clear hB2))
 replace hk2 : Kept noX W1 W2 := ((Kept.refl noX W1).alloc _).own hk2 (Nat.le_refl _)
 have HE2 : Hid (Cells W2 W1.heap.size 63 (hdSt 0 LI CO)) := HB2
 have hs2 := hk2.size
 have hl2 := HB2.out.lt
 clear HB2
 refine (rkinds_any W2).mono ?_
 rintro e Wl ⟨rfl, hG, hk3⟩
 have hs3 := hk3.size
 obtain ⟨G, hGe⟩ : ∃ G, G = W2.heap.size := ⟨_, rfl⟩
 rw [← hGe] at hG ⊢
 have lG := hG.lt
 obtain ⟨E, hEe⟩ : ∃ E, E = W1.heap.size := ⟨_, rfl⟩
 rw [← hEe] at HE2 ⊢
 have hE1 : w.heap.size < E := by omega
 have hEG : E < G := by omega
 clear hl2
 have HKL := aP (((HKA.out.trans hk1).trans hk2).trans hk3)
 have HI0 := aP (show KdI R v n T st w.heap.size E G Wl (.int .i64 1) Wl from ⟨1, Nat.le_refl _, by decide, rfl, by rw [← HLI.out, ← HCO.out]; exact HE2.out.keep hk3, ((HB.out.keep hk1).keep hk2).keep hk3, hG, ((HA.out.keep hk1).keep hk2).keep hk3, Kept.refl _ _⟩)
 clear hk1 hk2 hk3 hG HE2 HB HA HKA hGe hEe hs1 hs2 hs3
 go_wp2_with fail
 go_loopw [5] (fun i wr => KdI R v n T st w.heap.size E G Wl i wr) (fun i _ => 16 - (intOf i).toNat)
 case atStart => exact HI0.out
 case round =>
  obtain ⟨j, hj1, hj16, rfl, hcE, hcB, hcG, hr, hkr⟩ := hrel
  rw [← HLI.out, ← HCO.out] at hcE
  by_cases hj : j < 16
  ·exact k_1
  ·obtain rfl : j = 16 := by omega
   have hjd : decide (((16 : Nat) : Int) < 16) = false := by simp
   have hcE : Cells wr E 63 (hdSt 1 LI CO) := by rw [show kindUp n T st (16 - 1) = 1 from HKI.out] at hcE; exact hcE
   have e0 := hcE.cell 0
   simp only [hdSt, List.cons_append, aZ] at e0
   have HCE := aP hcE; have HCB := aP hcB; have HR := aP hr
   have HK := aP (HKL.out.join hkr (fun i hi hlt2 => by have hi : i = E := hi; omega))
   have lE := hcE.lt
   clear hcE hcB hcG hr hkr hjd
   have HCE0 := aP (show Cells wr E 63 [.int .i64 1, .int .i64 LI, .int .i64 CO, .string ⟨#[]⟩, .string ⟨#[]⟩, .int .i64 0, .int .i64 0, .string ⟨#[]⟩, .int .i64 0, .bool false, .int .i64 0, .slice none 0 0, .int .i64 0, .int .i64 0, .string ⟨#[]⟩, .int .i64 0, .bool false, .int .i64 0, .slice none 0 0, .slice none 0 0, .slice none 0 0, .int .i64 0, .int .i64 0, .int .i64 0, .bool false] from HCE.out)
   have HCB0 := HCB
   have HR0 := HR
   have HK0 := aP (show Kept (· = R) w wr from HK.out.any)
   clear HCE HCB HR HK
   have c1 := HR0.out.is.cell 1; have f1 := HR0.out.is.free 1
   simp only [aZ, aS] at c1
   go_wp2_with fail
   obtain ⟨Wx1, hW1⟩ : ∃ W, W = wr.setCell ⟨R, 1, none⟩ (.int .i64 ((st.1 + 1 : Nat) : Int)) := ⟨_, rfl⟩
   have hnx := RAt.next HR0.out
   rw [← hW1] at hnx
   have e1 : Value.int .i64 ((st.1 : Int) + 1) = .int .i64 ((st.1 + 1 : Nat) : Int) := rfl
   rw [e1, ← hW1]
   have hz1 := hnx.2.size
   have HR1 := aP hnx.1
   have HCE1 := aP (HCE0.out.kept hnx.2 kom)
   have HCB1 := aP (HCB0.out.kept hnx.2 kom)
   have HK1 := aP (HK0.out.trans hnx.2)
   clear hW1 hnx e1 c1 f1 HCE0 HCB0 HK0 HR0
   refine (naR_any HR1.out).mono ?_
   rintro e W2 ⟨rfl, hr2, hk2⟩
   have hz2 := hk2.size
   have HR2 := aP hr2
   have HCE2 := aP (HCE1.out.kept hk2 kom)
   have HCB2 := aP (HCB1.out.kept hk2 kom)
   have HK2 := aP (HK1.out.trans hk2)
   clear hr2 hk2 HCE1 HCB1 HK1 HR1
   have d3 := HCE2.out.cell 3; have f3 := HCE2.out.free 3
   simp only [aZ, aS] at d3
   go_wp2_with fail
   clear d3 f3
   obtain ⟨Wx3, hW3⟩ : ∃ W, W = W2.setCell ⟨E, 3, none⟩ (.string (naR n T (nextR st)).1) := ⟨_, rfl⟩
   have hq3 : Kept (· = E) W2 Wx3 := by rw [hW3]; exact (Kept.refl _ _).setCell (fun _ => by rfl) _
   have HCE3 := aP (show Cells Wx3 E 63 [.int .i64 1, .int .i64 LI, .int .i64 CO, .string (naR n T (nextR st)).1, .string ⟨#[]⟩, .int .i64 0, .int .i64 0, .string ⟨#[]⟩, .int .i64 0, .bool false, .int .i64 0, .slice none 0 0, .int .i64 0, .int .i64 0, .string ⟨#[]⟩, .int .i64 0, .bool false, .int .i64 0, .slice none 0 0, .slice none 0 0, .slice none 0 0, .int .i64 0, .int .i64 0, .int .i64 0, .bool false] from by rw [hW3]; exact HCE2.out.put 3 _)
   rw [← hW3]
   have hz3 := hq3.size
   have HR3 := aP (R2.other HR2.out hq3 kom (fun g hg => by have := HVB.out g hg; omega))
   have HCB3 := aP (HCB2.out.kept hq3 kom)
   have HK3 := aP (HK2.out.join hq3 (fun i hi hlt2 => by have hi : i = E := hi; omega))
   clear hW3 hq3 HCE2 HCB2 HK2 HR2
   refine (muR_any HR3.out ⟨#[61]⟩).mono ?_
   rintro e W4 ⟨rfl, hr4, hk4⟩
   have hz4 := hk4.size
   have HR4 := aP hr4
   have HCE4 := aP (HCE3.out.kept hk4 kom)
   have HCB4 := aP (HCB3.out.kept hk4 kom)
   have HK4 := aP (HK3.out.trans hk4)
   clear hr4 hk4 HCE3 HCB3 HK3 HR3
   go_wp2_with fail
   have lw5 : E < W4.heap.size := HCE4.out.lt
   refine (exR_any HR4.out (((naR_on (T := T) (nextR st)).trans (muR_on _ _)).2 hlt)).mono ?_
   rintro e W5 ⟨cs5, rfl, hev5, hr5, hk5⟩
   have hz5 := hk5.size
   obtain ⟨ka, ma, sa, sla, loa, oa, Aa, Na, Ca, rfl⟩ := hev5.form
   have HTa_5 := aP (show EV W5 (fun g => g < E + 1) _ (exR n T (muR n T (naR n T (nextR st)).2 ⟨#[61]⟩)).1 from hev5.mono (fun g _ h => by have h : g < E + 1 := h; show g < W4.heap.size; omega))
   clear hev5
   have HR5 := aP hr5
   have HCE5 := aP (HCE4.out.kept hk5 kom)
   have HCB5 := aP (HCB4.out.kept hk5 kom)
   have HK5 := aP (HK4.out.trans hk5)
   clear hr5 hk5 HCE4 HCB4 HK4 HR4
   go_wp2_with ((with_reducible refine ats ?_); (refine wpList_store_part rfl rfl 44 (.tmp 97) (.tmp 96) rfl (E) 5 rfl [.int .i64 ka, .int .i64 ma, .string sa, .int .i64 sla, .bool loa, .int .i64 oa, .slice Aa Na Ca] rfl HCE5.out kle krf k1c ?_; intro W600 hB600 hk600; replace hB600 : Cells W600 (E) 63 [.int .i64 1, .int .i64 LI, .int .i64 CO, .string (naR n T (nextR st)).1, .string ⟨#[]⟩, .int .i64 ka, .int .i64 ma, .string sa, .int .i64 sla, .bool loa, .int .i64 oa, .slice Aa Na Ca, .int .i64 0, .int .i64 0, .string ⟨#[]⟩, .int .i64 0, .bool false, .int .i64 0, .slice none 0 0, .slice none 0 0, .slice none 0 0, .int .i64 0, .int .i64 0, .int .i64 0, .bool false] := (by simpa using hB600); have HB600 := aP hB600; clear hB600))
   have HCE6 := HB600
   have hz6 := hk600.size
   have HR6 := aP (R2.other HR5.out hk600 kom (fun g hg => by have := HVB.out g hg; omega))
   have HCB6 := aP (HCB5.out.kept hk600 kom)
   have HK6 := aP (HK5.out.join hk600 (fun i hi hlt2 => by have hi : i = E := hi; omega))
   have HTa_6 := aP (HTa_5.out.kept hk600 (fun g _ h => by have h : g = E := h; show g < E + 1; omega))
   clear HB600 hk600 HCE5 HCB5 HK5 HR5 HTa_5
   refine (muR_any HR6.out ⟨#[59]⟩).mono ?_
   rintro e W7 ⟨rfl, hr7, hk7⟩
   have hz7 := hk7.size
   have HR7 := aP hr7
   have HCE7 := aP (HCE6.out.kept hk7 kom)
   have HCB7 := aP (HCB6.out.kept hk7 kom)
   have HK7 := aP (HK6.out.trans hk7)
   have HTa_7 := aP (HTa_6.out.kept hk7 (fun g _ h => by have h : g = R := h; show g < E + 1; omega))
   clear hr7 hk7 HCE6 HCB6 HK6 HR6 HTa_6
   go_wp2_with (first | ((with_reducible refine atl ?_); (refine wpList_load_cells rfl 63 (.tmp 3) rfl (E) rfl _ Tryz.underlying63 rfl HCE7.out krf ?_)) | ((with_reducible refine ats ?_); (refine wpList_store_all rfl rfl 63 (.tmp 2) (.tmp 112) rfl (w.heap.size) rfl [.int .i64 1, .int .i64 LI, .int .i64 CO, .string (naR n T (nextR st)).1, .string ⟨#[]⟩, .int .i64 ka, .int .i64 ma, .string sa, .int .i64 sla, .bool loa, .int .i64 oa, .slice Aa Na Ca, .int .i64 0, .int .i64 0, .string ⟨#[]⟩, .int .i64 0, .bool false, .int .i64 0, .slice none 0 0, .slice none 0 0, .slice none 0 0, .int .i64 0, .int .i64 0, .int .i64 0, .bool false] rfl HCB7.out (by rfl) krf k1c ?_; intro W9 hB9 hk9; have HB9 := aP hB9; clear hB9)))
   have HTa_9 := (HTa_7.out.kept hk9 (fun g _ h => by have h : g = w.heap.size := h; show g < E + 1; omega)).mono (Z' := fun g => g < w.heap.size) (fun g _ h => by have h : g < w.heap.size := h; show g < E + 1; omega)
   have hR9 := R2.other HR7.out hk9 kom (fun g hg => by have := HVB.out g hg; omega)
   refine ret_box Tryz.results138 rfl HB9.out Tryz.underlying63 rfl krf rfl ⟨_, rfl, ?_, hR9, HK7.out.join hk9 (fun i hi hlt2 => by have hi : i = w.heap.size := hi; omega)⟩
   rw [HLI.out, HCO.out]
   exact SV.iff.2 ⟨_, _, _, _, rfl, HTa_9, (EV.leaf _ _ 0 0 ⟨#[]⟩ 0), (RowV.nil _ _), (RowV.nil _ _)⟩
end
end Go.Proofs.YtjkgepppoopheaaGreatDoor
