/- The document's reader of layer 2 at a declaration: mutex, cond, array, chan (conditions: at most 1000000 words). -/
import Derived.Test.YtjkgepppoopheaaGreatDoorAbb
import Derived.Test.YtjkgepppoopheaaGreatDoorQ16
set_option maxRecDepth 100000
set_option maxHeartbeats 1000000
namespace Go.Proofs.YtjkgepppoopheaaGreatDoor
open Go.RowKit Go.Shelf
section
variable {R : Nat} {v : Value} {n : Nat} {T : Nat → TokD} {st : RS} {w : World}
theorem decl_mutex (h : RAt w R v n T st) (hK : dkR n T st = 3) : Calls Tryz.prog 41 #[.pointer (some ⟨R, 0, none⟩)] w (ReadsD w R v n T ((dR n T st 3 (naR n T (nextR st)).1 0 [], muR n T (naR n T (nextR st)).2 ⟨#[59]⟩))) := by
 have hlt : st.1 < n := (dkUp_lt (j := 6) (by rw [show dkUp n T st 6 = dkR n T st from rfl, hK]; decide)).1
 have hfew := h.few
 have hRw := h.is.lt
 have HVB := aP h.own_lt
 have hkA : Kept noX w (w.alloc (.cells zeroD.toArray 54)) := (Kept.refl _ _).alloc _
 have hszA : (w.alloc (.cells zeroD.toArray 54)).heap.size = w.heap.size + 1 := by simp
 have HB := aP (Cells.fresh w 54 zeroD)
 have HA := aP (h.keep hkA)
 have HKA := aP hkA
 have HKI := aP hK
 clear h hkA hK
 go_enter Tryz.func41, Tryz.ntmps41
 go_wp2_with fail
 refine (pos_any HA.out).mono ?_
 rintro e W1 ⟨rfl, hk1⟩
 have hs1 := hk1.size
 rw [hszA] at hs1
 obtain ⟨LI, hLI⟩ : ∃ x, x = lineOf n T st.1 := ⟨_, rfl⟩
 obtain ⟨CO, hCO⟩ : ∃ x, x = colOf n T st.1 := ⟨_, rfl⟩
 have HLI := aP hLI
 have HCO := aP hCO
 rw [← hLI, ← hCO]
 clear hLI hCO
 have hG := Cells.fresh (W1.alloc (.cells [.int .i64 0, .int .i64 LI, .int .i64 CO, .string ⟨#[]⟩, .int .i64 0, .slice none 0 0].toArray 54)) 9 (declL.map .string)
 simp only [declL, List.map_cons, List.map_nil, World.size_alloc] at hG
 go_wp2_with fail
 obtain ⟨W2, hW2⟩ : ∃ W2, W2 = W1.alloc (.cells [.int .i64 0, .int .i64 LI, .int .i64 CO, .string ⟨#[]⟩, .int .i64 0, .slice none 0 0].toArray 54) := ⟨_, rfl⟩
 have hk2 : Kept noX W1 W2 := by rw [hW2]; exact (Kept.refl _ _).alloc _
 have HE2 := aP (show Cells W2 W1.heap.size 54 [.int .i64 0, .int .i64 LI, .int .i64 CO, .string ⟨#[]⟩, .int .i64 0, .slice none 0 0] from by rw [hW2]; exact Cells.fresh W1 54 _)
 have hs2 : W2.heap.size = W1.heap.size + 1 := by rw [hW2]; simp
 rw [← hW2] at hG ⊢
 obtain ⟨Wl, hWl⟩ : ∃ Wl, Wl = W2.alloc (.cells (declL.map Value.string).toArray 9) := ⟨_, rfl⟩
 have hk3 : Kept noX W2 Wl := by rw [hWl]; exact (Kept.refl _ _).alloc _
 have hs3 := hk3.size
 simp only [declL, List.map_cons, List.map_nil] at hWl
 rw [← hWl] at hG ⊢
 clear hW2 hWl
 obtain ⟨G, hGe⟩ : ∃ G, G = W1.heap.size + 1 := ⟨_, rfl⟩
 rw [← hGe] at hG ⊢
 have lG := hG.lt
 obtain ⟨E, hEe⟩ : ∃ E, E = W1.heap.size := ⟨_, rfl⟩
 rw [← hEe] at HE2 ⊢
 have hE1 : w.heap.size < E := by omega
 have hEG : E < G := by omega
 have HKL := aP (((HKA.out.trans hk1).trans hk2).trans hk3)
 have HI0 := aP (show DkI R v n T st w.heap.size E G Wl (.int .i64 1) Wl from ⟨1, Nat.le_refl _, by decide, rfl, by rw [← HLI.out, ← HCO.out]; exact HE2.out.keep hk3, ((HB.out.keep hk1).keep hk2).keep hk3, hG, ((HA.out.keep hk1).keep hk2).keep hk3, Kept.refl _ _⟩)
 clear hk1 hk2 hk3 hG HE2 HB HA HKA hGe hEe hs1 hs2 hs3
 go_loopw [5] (fun i wr => DkI R v n T st w.heap.size E G Wl i wr) (fun i _ => 7 - (intOf i).toNat)
 case atStart => exact HI0.out
 case round =>
  obtain ⟨j, hj1, hj16, rfl, hcE, hcB, hcG, hr, hkr⟩ := hrel
  rw [← HLI.out, ← HCO.out] at hcE
  by_cases hj : j < 7
  ·exact k_2
  ·obtain rfl : j = 7 := by omega
   have hjd : decide (((7 : Nat) : Int) < 7) = false := by simp
   have hcE : Cells wr E 54 [.int .i64 3, .int .i64 LI, .int .i64 CO, .string ⟨#[]⟩, .int .i64 0, .slice none 0 0] := by rw [show dkUp n T st (7 - 1) = 3 from HKI.out] at hcE; exact hcE
   have e0 := hcE.cell 0
   simp only [aZ] at e0
   have HCE := aP hcE; have HCB := aP hcB; have HR := aP hr
   have HK := aP (HKL.out.join hkr (fun i hi hlt2 => by have hi : i = E := hi; omega))
   have lE := hcE.lt
   clear hcE hcB hcG hr hkr hjd
   have HCE0 := HCE
   have HCB0 := HCB
   have HR0 := HR
   have HK0 := aP (show Kept (· = R) w wr from HK.out.any)
   clear HCE HCB HR HK
   have c1 := HR0.out.is.cell 1; have f1 := HR0.out.is.free 1
   simp only [aZ, aS] at c1
   go_wp2_with fail
   obtain ⟨Wx1, hW1⟩ : ∃ W, W = wr.setCell ⟨R, 1, none⟩ (.int .i64 ((st.1 + 1 : Nat) : Int)) := ⟨_, rfl⟩
   have hnx := RAt.next HR0.out
   rw [← hW1] at hnx
   have e1 : Value.int .i64 ((st.1 : Int) + 1) = .int .i64 ((st.1 + 1 : Nat) : Int) := rfl
   rw [e1, ← hW1]
   have hz1 := hnx.2.size
   have HR1 := aP hnx.1
   have HCE1 := aP (HCE0.out.kept hnx.2 kom)
   have HCB1 := aP (HCB0.out.kept hnx.2 kom)
   have HK1 := aP (HK0.out.trans hnx.2)
   clear hW1 hnx e1 c1 f1 HCE0 HCB0 HK0 HR0
   refine (naR_any HR1.out).mono ?_
   rintro e W2 ⟨rfl, hr2, hk2⟩
   have hz2 := hk2.size
   have HR2 := aP hr2
   have HCE2 := aP (HCE1.out.kept hk2 kom)
   have HCB2 := aP (HCB1.out.kept hk2 kom)
   have HK2 := aP (HK1.out.trans hk2)
   clear hr2 hk2 HCE1 HCB1 HK1 HR1
   have d3 := HCE2.out.cell 3; have f3 := HCE2.out.free 3
   have d0 := HCE2.out.cell 0; have f0 := HCE2.out.free 0
   simp only [aZ, aS] at d3 d0
   go_wp2_with fail
   clear d3 f3 d0 f0
   obtain ⟨Wx3, hW3⟩ : ∃ W, W = W2.setCell ⟨E, 3, none⟩ (.string (naR n T (nextR st)).1) := ⟨_, rfl⟩
   have hq3 : Kept (· = E) W2 Wx3 := by rw [hW3]; exact (Kept.refl _ _).setCell (fun _ => by rfl) _
   have HCE3 := aP (show Cells Wx3 E 54 [.int .i64 3, .int .i64 LI, .int .i64 CO, .string (naR n T (nextR st)).1, .int .i64 0, .slice none 0 0] from by rw [hW3]; exact HCE2.out.put 3 _)
   rw [← hW3]
   have hz3 := hq3.size
   have HR3 := aP (R2.other HR2.out hq3 kom (fun g hg => by have := HVB.out g hg; omega))
   have HCB3 := aP (HCB2.out.kept hq3 kom)
   have HK3 := aP (HK2.out.join hq3 (fun i hi hlt2 => by have hi : i = E := hi; omega))
   clear hW3 hq3 HCE2 HCB2 HK2 HR2
   refine (muR_any HR3.out ⟨#[59]⟩).mono ?_
   rintro e W4 ⟨rfl, hr4, hk4⟩
   have hz4 := hk4.size
   have HR4 := aP hr4
   have HCE4 := aP (HCE3.out.kept hk4 kom)
   have HCB4 := aP (HCB3.out.kept hk4 kom)
   have HK4 := aP (HK3.out.trans hk4)
   clear hr4 hk4 HCE3 HCB3 HK3 HR3
   go_wp2_with (first | ((with_reducible refine atl ?_); (refine wpList_load_cells rfl 54 (.tmp 3) rfl (E) rfl _ Tryz.underlying54 rfl HCE4.out krf ?_)) | ((with_reducible refine ats ?_); (refine wpList_store_all rfl rfl 54 (.tmp 2) (.tmp 72) rfl (w.heap.size) rfl [.int .i64 3, .int .i64 LI, .int .i64 CO, .string (naR n T (nextR st)).1, .int .i64 0, .slice none 0 0] rfl HCB4.out (by rfl) krf k1c ?_; intro W9 hB9 hk9; have HB9 := aP hB9; clear hB9)))
   have hR9 := R2.other HR4.out hk9 kom (fun g hg => by have := HVB.out g hg; omega)
   refine ret_box Tryz.results41 rfl HB9.out Tryz.underlying54 rfl krf rfl ⟨_, rfl, ?_, hR9, HK4.out.join hk9 (fun i hi hlt2 => by have hi : i = w.heap.size := hi; omega)⟩
   rw [HLI.out, HCO.out]
   exact DV.iff.2 ⟨_, rfl, (RowV.nil _ _)⟩
theorem decl_cond (h : RAt w R v n T st) (hK : dkR n T st = 4) : Calls Tryz.prog 41 #[.pointer (some ⟨R, 0, none⟩)] w (ReadsD w R v n T ((dR n T st 4 (naR n T (nextR st)).1 0 [], muR n T (naR n T (nextR st)).2 ⟨#[59]⟩))) := by
 have hlt : st.1 < n := (dkUp_lt (j := 6) (by rw [show dkUp n T st 6 = dkR n T st from rfl, hK]; decide)).1
 have hfew := h.few
 have hRw := h.is.lt
 have HVB := aP h.own_lt
 have hkA : Kept noX w (w.alloc (.cells zeroD.toArray 54)) := (Kept.refl _ _).alloc _
 have hszA : (w.alloc (.cells zeroD.toArray 54)).heap.size = w.heap.size + 1 := by simp
 have HB := aP (Cells.fresh w 54 zeroD)
 have HA := aP (h.keep hkA)
 have HKA := aP hkA
 have HKI := aP hK
 clear h hkA hK
 go_enter Tryz.func41, Tryz.ntmps41
 go_wp2_with fail
 refine (pos_any HA.out).mono ?_
 rintro e W1 ⟨rfl, hk1⟩
 have hs1 := hk1.size
 rw [hszA] at hs1
 obtain ⟨LI, hLI⟩ : ∃ x, x = lineOf n T st.1 := ⟨_, rfl⟩
 obtain ⟨CO, hCO⟩ : ∃ x, x = colOf n T st.1 := ⟨_, rfl⟩
 have HLI := aP hLI
 have HCO := aP hCO
 rw [← hLI, ← hCO]
 clear hLI hCO
 have hG := Cells.fresh (W1.alloc (.cells [.int .i64 0, .int .i64 LI, .int .i64 CO, .string ⟨#[]⟩, .int .i64 0, .slice none 0 0].toArray 54)) 9 (declL.map .string)
 simp only [declL, List.map_cons, List.map_nil, World.size_alloc] at hG
 go_wp2_with fail
 obtain ⟨W2, hW2⟩ : ∃ W2, W2 = W1.alloc (.cells [.int .i64 0, .int .i64 LI, .int .i64 CO, .string ⟨#[]⟩, .int .i64 0, .slice none 0 0].toArray 54) := ⟨_, rfl⟩
 have hk2 : Kept noX W1 W2 := by rw [hW2]; exact (Kept.refl _ _).alloc _
 have HE2 := aP (show Cells W2 W1.heap.size 54 [.int .i64 0, .int .i64 LI, .int .i64 CO, .string ⟨#[]⟩, .int .i64 0, .slice none 0 0] from by rw [hW2]; exact Cells.fresh W1 54 _)
 have hs2 : W2.heap.size = W1.heap.size + 1 := by rw [hW2]; simp
 rw [← hW2] at hG ⊢
 obtain ⟨Wl, hWl⟩ : ∃ Wl, Wl = W2.alloc (.cells (declL.map Value.string).toArray 9) := ⟨_, rfl⟩
 have hk3 : Kept noX W2 Wl := by rw [hWl]; exact (Kept.refl _ _).alloc _
 have hs3 := hk3.size
 simp only [declL, List.map_cons, List.map_nil] at hWl
 rw [← hWl] at hG ⊢
 clear hW2 hWl
 obtain ⟨G, hGe⟩ : ∃ G, G = W1.heap.size + 1 := ⟨_, rfl⟩
 rw [← hGe] at hG ⊢
 have lG := hG.lt
 obtain ⟨E, hEe⟩ : ∃ E, E = W1.heap.size := ⟨_, rfl⟩
 rw [← hEe] at HE2 ⊢
 have hE1 : w.heap.size < E := by omega
 have hEG : E < G := by omega
 have HKL := aP (((HKA.out.trans hk1).trans hk2).trans hk3)
 have HI0 := aP (show DkI R v n T st w.heap.size E G Wl (.int .i64 1) Wl from ⟨1, Nat.le_refl _, by decide, rfl, by rw [← HLI.out, ← HCO.out]; exact HE2.out.keep hk3, ((HB.out.keep hk1).keep hk2).keep hk3, hG, ((HA.out.keep hk1).keep hk2).keep hk3, Kept.refl _ _⟩)
 clear hk1 hk2 hk3 hG HE2 HB HA HKA hGe hEe hs1 hs2 hs3
 go_loopw [5] (fun i wr => DkI R v n T st w.heap.size E G Wl i wr) (fun i _ => 7 - (intOf i).toNat)
 case atStart => exact HI0.out
 case round =>
  obtain ⟨j, hj1, hj16, rfl, hcE, hcB, hcG, hr, hkr⟩ := hrel
  rw [← HLI.out, ← HCO.out] at hcE
  by_cases hj : j < 7
  ·exact k_2
  ·obtain rfl : j = 7 := by omega
   have hjd : decide (((7 : Nat) : Int) < 7) = false := by simp
   have hcE : Cells wr E 54 [.int .i64 4, .int .i64 LI, .int .i64 CO, .string ⟨#[]⟩, .int .i64 0, .slice none 0 0] := by rw [show dkUp n T st (7 - 1) = 4 from HKI.out] at hcE; exact hcE
   have e0 := hcE.cell 0
   simp only [aZ] at e0
   have HCE := aP hcE; have HCB := aP hcB; have HR := aP hr
   have HK := aP (HKL.out.join hkr (fun i hi hlt2 => by have hi : i = E := hi; omega))
   have lE := hcE.lt
   clear hcE hcB hcG hr hkr hjd
   have HCE0 := HCE
   have HCB0 := HCB
   have HR0 := HR
   have HK0 := aP (show Kept (· = R) w wr from HK.out.any)
   clear HCE HCB HR HK
   have c1 := HR0.out.is.cell 1; have f1 := HR0.out.is.free 1
   simp only [aZ, aS] at c1
   go_wp2_with fail
   obtain ⟨Wx1, hW1⟩ : ∃ W, W = wr.setCell ⟨R, 1, none⟩ (.int .i64 ((st.1 + 1 : Nat) : Int)) := ⟨_, rfl⟩
   have hnx := RAt.next HR0.out
   rw [← hW1] at hnx
   have e1 : Value.int .i64 ((st.1 : Int) + 1) = .int .i64 ((st.1 + 1 : Nat) : Int) := rfl
   rw [e1, ← hW1]
   have hz1 := hnx.2.size
   have HR1 := aP hnx.1
   have HCE1 := aP (HCE0.out.kept hnx.2 kom)
   have HCB1 := aP (HCB0.out.kept hnx.2 kom)
   have HK1 := aP (HK0.out.trans hnx.2)
   clear hW1 hnx e1 c1 f1 HCE0 HCB0 HK0 HR0
   refine (naR_any HR1.out).mono ?_
   rintro e W2 ⟨rfl, hr2, hk2⟩
   have hz2 := hk2.size
   have HR2 := aP hr2
   have HCE2 := aP (HCE1.out.kept hk2 kom)
   have HCB2 := aP (HCB1.out.kept hk2 kom)
   have HK2 := aP (HK1.out.trans hk2)
   clear hr2 hk2 HCE1 HCB1 HK1 HR1
   have d3 := HCE2.out.cell 3; have f3 := HCE2.out.free 3
   have d0 := HCE2.out.cell 0; have f0 := HCE2.out.free 0
   simp only [aZ, aS] at d3 d0
   go_wp2_with fail
   clear d3 f3 d0 f0
   obtain ⟨Wx3, hW3⟩ : ∃ W, W = W2.setCell ⟨E, 3, none⟩ (.string (naR n T (nextR st)).1) := ⟨_, rfl⟩
   have hq3 : Kept (· = E) W2 Wx3 := by rw [hW3]; exact (Kept.refl _ _).setCell (fun _ => by rfl) _
   have HCE3 := aP (show Cells Wx3 E 54 [.int .i64 4, .int .i64 LI, .int .i64 CO, .string (naR n T (nextR st)).1, .int .i64 0, .slice none 0 0] from by rw [hW3]; exact HCE2.out.put 3 _)
   rw [← hW3]
   have hz3 := hq3.size
   have HR3 := aP (R2.other HR2.out hq3 kom (fun g hg => by have := HVB.out g hg; omega))
   have HCB3 := aP (HCB2.out.kept hq3 kom)
   have HK3 := aP (HK2.out.join hq3 (fun i hi hlt2 => by have hi : i = E := hi; omega))
   clear hW3 hq3 HCE2 HCB2 HK2 HR2
   refine (muR_any HR3.out ⟨#[59]⟩).mono ?_
   rintro e W4 ⟨rfl, hr4, hk4⟩
   have hz4 := hk4.size
   have HR4 := aP hr4
   have HCE4 := aP (HCE3.out.kept hk4 kom)
   have HCB4 := aP (HCB3.out.kept hk4 kom)
   have HK4 := aP (HK3.out.trans hk4)
   clear hr4 hk4 HCE3 HCB3 HK3 HR3
   go_wp2_with (first | ((with_reducible refine atl ?_); (refine wpList_load_cells rfl 54 (.tmp 3) rfl (E) rfl _ Tryz.underlying54 rfl HCE4.out krf ?_)) | ((with_reducible refine ats ?_); (refine wpList_store_all rfl rfl 54 (.tmp 2) (.tmp 72) rfl (w.heap.size) rfl [.int .i64 4, .int .i64 LI, .int .i64 CO, .string (naR n T (nextR st)).1, .int .i64 0, .slice none 0 0] rfl HCB4.out (by rfl) krf k1c ?_; intro W9 hB9 hk9; have HB9 := aP hB9; clear hB9)))
   have hR9 := R2.other HR4.out hk9 kom (fun g hg => by have := HVB.out g hg; omega)
   refine ret_box Tryz.results41 rfl HB9.out Tryz.underlying54 rfl krf rfl ⟨_, rfl, ?_, hR9, HK4.out.join hk9 (fun i hi hlt2 => by have hi : i = w.heap.size := hi; omega)⟩
   rw [HLI.out, HCO.out]
   exact DV.iff.2 ⟨_, rfl, (RowV.nil _ _)⟩
theorem decl_array (h : RAt w R v n T st) (hK : dkR n T st = 2) : Calls Tryz.prog 41 #[.pointer (some ⟨R, 0, none⟩)] w (ReadsD w R v n T ((dR n T st 2 (naR n T (nextR st)).1 (nuR n T (naR n T (nextR st)).2).1 [], muR n T (nuR n T (naR n T (nextR st)).2).2 ⟨#[59]⟩))) := by
 have hlt : st.1 < n := (dkUp_lt (j := 6) (by rw [show dkUp n T st 6 = dkR n T st from rfl, hK]; decide)).1
 have hfew := h.few
 have hRw := h.is.lt
 have HVB := aP h.own_lt
 have hkA : Kept noX w (w.alloc (.cells zeroD.toArray 54)) := (Kept.refl _ _).alloc _
 have hszA : (w.alloc (.cells zeroD.toArray 54)).heap.size = w.heap.size + 1 := by simp
 have HB := aP (Cells.fresh w 54 zeroD)
 have HA := aP (h.keep hkA)
 have HKA := aP hkA
 have HKI := aP hK
 clear h hkA hK
 go_enter Tryz.func41, Tryz.ntmps41
 go_wp2_with fail
 refine (pos_any HA.out).mono ?_
 rintro e W1 ⟨rfl, hk1⟩
 have hs1 := hk1.size
 rw [hszA] at hs1
 obtain ⟨LI, hLI⟩ : ∃ x, x = lineOf n T st.1 := ⟨_, rfl⟩
 obtain ⟨CO, hCO⟩ : ∃ x, x = colOf n T st.1 := ⟨_, rfl⟩
 have HLI := aP hLI
 have HCO := aP hCO
 rw [← hLI, ← hCO]
 clear hLI hCO
 have hG := Cells.fresh (W1.alloc (.cells [.int .i64 0, .int .i64 LI, .int .i64 CO, .string ⟨#[]⟩, .int .i64 0, .slice none 0 0].toArray 54)) 9 (declL.map .string)
 simp only [declL, List.map_cons, List.map_nil, World.size_alloc] at hG
 go_wp2_with fail
 obtain ⟨W2, hW2⟩ : ∃ W2, W2 = W1.alloc (.cells [.int .i64 0, .int .i64 LI, .int .i64 CO, .string ⟨#[]⟩, .int .i64 0, .slice none 0 0].toArray 54) := ⟨_, rfl⟩
 have hk2 : Kept noX W1 W2 := by rw [hW2]; exact (Kept.refl _ _).alloc _
 have HE2 := aP (show Cells W2 W1.heap.size 54 [.int .i64 0, .int .i64 LI, .int .i64 CO, .string ⟨#[]⟩, .int .i64 0, .slice none 0 0] from by rw [hW2]; exact Cells.fresh W1 54 _)
 have hs2 : W2.heap.size = W1.heap.size + 1 := by rw [hW2]; simp
 rw [← hW2] at hG ⊢
 obtain ⟨Wl, hWl⟩ : ∃ Wl, Wl = W2.alloc (.cells (declL.map Value.string).toArray 9) := ⟨_, rfl⟩
 have hk3 : Kept noX W2 Wl := by rw [hWl]; exact (Kept.refl _ _).alloc _
 have hs3 := hk3.size
 simp only [declL, List.map_cons, List.map_nil] at hWl
 rw [← hWl] at hG ⊢
 clear hW2 hWl
 obtain ⟨G, hGe⟩ : ∃ G, G = W1.heap.size + 1 := ⟨_, rfl⟩
 rw [← hGe] at hG ⊢
 have lG := hG.lt
 obtain ⟨E, hEe⟩ : ∃ E, E = W1.heap.size := ⟨_, rfl⟩
 rw [← hEe] at HE2 ⊢
 have hE1 : w.heap.size < E := by omega
 have hEG : E < G := by omega
 have HKL := aP (((HKA.out.trans hk1).trans hk2).trans hk3)
 have HI0 := aP (show DkI R v n T st w.heap.size E G Wl (.int .i64 1) Wl from ⟨1, Nat.le_refl _, by decide, rfl, by rw [← HLI.out, ← HCO.out]; exact HE2.out.keep hk3, ((HB.out.keep hk1).keep hk2).keep hk3, hG, ((HA.out.keep hk1).keep hk2).keep hk3, Kept.refl _ _⟩)
 clear hk1 hk2 hk3 hG HE2 HB HA HKA hGe hEe hs1 hs2 hs3
 go_loopw [5] (fun i wr => DkI R v n T st w.heap.size E G Wl i wr) (fun i _ => 7 - (intOf i).toNat)
 case atStart => exact HI0.out
 case round =>
  obtain ⟨j, hj1, hj16, rfl, hcE, hcB, hcG, hr, hkr⟩ := hrel
  rw [← HLI.out, ← HCO.out] at hcE
  by_cases hj : j < 7
  ·exact k_2
  ·obtain rfl : j = 7 := by omega
   have hjd : decide (((7 : Nat) : Int) < 7) = false := by simp
   have hcE : Cells wr E 54 [.int .i64 2, .int .i64 LI, .int .i64 CO, .string ⟨#[]⟩, .int .i64 0, .slice none 0 0] := by rw [show dkUp n T st (7 - 1) = 2 from HKI.out] at hcE; exact hcE
   have e0 := hcE.cell 0
   simp only [aZ] at e0
   have HCE := aP hcE; have HCB := aP hcB; have HR := aP hr
   have HK := aP (HKL.out.join hkr (fun i hi hlt2 => by have hi : i = E := hi; omega))
   have lE := hcE.lt
   clear hcE hcB hcG hr hkr hjd
   have HCE0 := HCE
   have HCB0 := HCB
   have HR0 := HR
   have HK0 := aP (show Kept (· = R) w wr from HK.out.any)
   clear HCE HCB HR HK
   have c1 := HR0.out.is.cell 1; have f1 := HR0.out.is.free 1
   simp only [aZ, aS] at c1
   go_wp2_with fail
   obtain ⟨Wx1, hW1⟩ : ∃ W, W = wr.setCell ⟨R, 1, none⟩ (.int .i64 ((st.1 + 1 : Nat) : Int)) := ⟨_, rfl⟩
   have hnx := RAt.next HR0.out
   rw [← hW1] at hnx
   have e1 : Value.int .i64 ((st.1 : Int) + 1) = .int .i64 ((st.1 + 1 : Nat) : Int) := rfl
   rw [e1, ← hW1]
   have hz1 := hnx.2.size
   have HR1 := aP hnx.1
   have HCE1 := aP (HCE0.out.kept hnx.2 kom)
   have HCB1 := aP (HCB0.out.kept hnx.2 kom)
   have HK1 := aP (HK0.out.trans hnx.2)
   clear hW1 hnx e1 c1 f1 HCE0 HCB0 HK0 HR0
   refine (naR_any HR1.out).mono ?_
   rintro e W2 ⟨rfl, hr2, hk2⟩
   have hz2 := hk2.size
   have HR2 := aP hr2
   have HCE2 := aP (HCE1.out.kept hk2 kom)
   have HCB2 := aP (HCB1.out.kept hk2 kom)
   have HK2 := aP (HK1.out.trans hk2)
   clear hr2 hk2 HCE1 HCB1 HK1 HR1
   have d3 := HCE2.out.cell 3; have f3 := HCE2.out.free 3
   have d0 := HCE2.out.cell 0; have f0 := HCE2.out.free 0
   simp only [aZ, aS] at d3 d0
   go_wp2_with fail
   clear d3 f3 d0 f0
   obtain ⟨Wx3, hW3⟩ : ∃ W, W = W2.setCell ⟨E, 3, none⟩ (.string (naR n T (nextR st)).1) := ⟨_, rfl⟩
   have hq3 : Kept (· = E) W2 Wx3 := by rw [hW3]; exact (Kept.refl _ _).setCell (fun _ => by rfl) _
   have HCE3 := aP (show Cells Wx3 E 54 [.int .i64 2, .int .i64 LI, .int .i64 CO, .string (naR n T (nextR st)).1, .int .i64 0, .slice none 0 0] from by rw [hW3]; exact HCE2.out.put 3 _)
   rw [← hW3]
   have hz3 := hq3.size
   have HR3 := aP (R2.other HR2.out hq3 kom (fun g hg => by have := HVB.out g hg; omega))
   have HCB3 := aP (HCB2.out.kept hq3 kom)
   have HK3 := aP (HK2.out.join hq3 (fun i hi hlt2 => by have hi : i = E := hi; omega))
   clear hW3 hq3 HCE2 HCB2 HK2 HR2
   refine (nuR_any HR3.out).mono ?_
   rintro e W4 ⟨rfl, hr4, hk4⟩
   have hz4 := hk4.size
   have HR4 := aP hr4
   have HCE4 := aP (HCE3.out.kept hk4 kom)
   have HCB4 := aP (HCB3.out.kept hk4 kom)
   have HK4 := aP (HK3.out.trans hk4)
   clear hr4 hk4 HCE3 HCB3 HK3 HR3
   have d4 := HCE4.out.cell 4; have f4 := HCE4.out.free 4
   simp only [aZ, aS] at d4
   go_wp2_with fail
   clear d4 f4
   obtain ⟨Wx5, hW5⟩ : ∃ W, W = W4.setCell ⟨E, 4, none⟩ (.int .i64 (nuR n T (naR n T (nextR st)).2).1) := ⟨_, rfl⟩
   have hq5 : Kept (· = E) W4 Wx5 := by rw [hW5]; exact (Kept.refl _ _).setCell (fun _ => by rfl) _
   have HCE5 := aP (show Cells Wx5 E 54 [.int .i64 2, .int .i64 LI, .int .i64 CO, .string (naR n T (nextR st)).1, .int .i64 (nuR n T (naR n T (nextR st)).2).1, .slice none 0 0] from by rw [hW5]; exact HCE4.out.put 4 _)
   rw [← hW5]
   have hz5 := hq5.size
   have HR5 := aP (R2.other HR4.out hq5 kom (fun g hg => by have := HVB.out g hg; omega))
   have HCB5 := aP (HCB4.out.kept hq5 kom)
   have HK5 := aP (HK4.out.join hq5 (fun i hi hlt2 => by have hi : i = E := hi; omega))
   clear hW5 hq5 HCE4 HCB4 HK4 HR4
   refine (muR_any HR5.out ⟨#[59]⟩).mono ?_
   rintro e W6 ⟨rfl, hr6, hk6⟩
   have hz6 := hk6.size
   have HR6 := aP hr6
   have HCE6 := aP (HCE5.out.kept hk6 kom)
   have HCB6 := aP (HCB5.out.kept hk6 kom)
   have HK6 := aP (HK5.out.trans hk6)
   clear hr6 hk6 HCE5 HCB5 HK5 HR5
   go_wp2_with (first | ((with_reducible refine atl ?_); (refine wpList_load_cells rfl 54 (.tmp 3) rfl (E) rfl _ Tryz.underlying54 rfl HCE6.out krf ?_)) | ((with_reducible refine ats ?_); (refine wpList_store_all rfl rfl 54 (.tmp 2) (.tmp 72) rfl (w.heap.size) rfl [.int .i64 2, .int .i64 LI, .int .i64 CO, .string (naR n T (nextR st)).1, .int .i64 (nuR n T (naR n T (nextR st)).2).1, .slice none 0 0] rfl HCB6.out (by rfl) krf k1c ?_; intro W9 hB9 hk9; have HB9 := aP hB9; clear hB9)))
   have hR9 := R2.other HR6.out hk9 kom (fun g hg => by have := HVB.out g hg; omega)
   refine ret_box Tryz.results41 rfl HB9.out Tryz.underlying54 rfl krf rfl ⟨_, rfl, ?_, hR9, HK6.out.join hk9 (fun i hi hlt2 => by have hi : i = w.heap.size := hi; omega)⟩
   rw [HLI.out, HCO.out]
   exact DV.iff.2 ⟨_, rfl, (RowV.nil _ _)⟩
theorem decl_chan (h : RAt w R v n T st) (hK : dkR n T st = 5) : Calls Tryz.prog 41 #[.pointer (some ⟨R, 0, none⟩)] w (ReadsD w R v n T ((dR n T st 5 (naR n T (nextR st)).1 (nuR n T (naR n T (nextR st)).2).1 [], muR n T (nuR n T (naR n T (nextR st)).2).2 ⟨#[59]⟩))) := by
 have hlt : st.1 < n := (dkUp_lt (j := 6) (by rw [show dkUp n T st 6 = dkR n T st from rfl, hK]; decide)).1
 have hfew := h.few
 have hRw := h.is.lt
 have HVB := aP h.own_lt
 have hkA : Kept noX w (w.alloc (.cells zeroD.toArray 54)) := (Kept.refl _ _).alloc _
 have hszA : (w.alloc (.cells zeroD.toArray 54)).heap.size = w.heap.size + 1 := by simp
 have HB := aP (Cells.fresh w 54 zeroD)
 have HA := aP (h.keep hkA)
 have HKA := aP hkA
 have HKI := aP hK
 clear h hkA hK
 go_enter Tryz.func41, Tryz.ntmps41
 go_wp2_with fail
 refine (pos_any HA.out).mono ?_
 rintro e W1 ⟨rfl, hk1⟩
 have hs1 := hk1.size
 rw [hszA] at hs1
 obtain ⟨LI, hLI⟩ : ∃ x, x = lineOf n T st.1 := ⟨_, rfl⟩
 obtain ⟨CO, hCO⟩ : ∃ x, x = colOf n T st.1 := ⟨_, rfl⟩
 have HLI := aP hLI
 have HCO := aP hCO
 rw [← hLI, ← hCO]
 clear hLI hCO
 have hG := Cells.fresh (W1.alloc (.cells [.int .i64 0, .int .i64 LI, .int .i64 CO, .string ⟨#[]⟩, .int .i64 0, .slice none 0 0].toArray 54)) 9 (declL.map .string)
 simp only [declL, List.map_cons, List.map_nil, World.size_alloc] at hG
 go_wp2_with fail
 obtain ⟨W2, hW2⟩ : ∃ W2, W2 = W1.alloc (.cells [.int .i64 0, .int .i64 LI, .int .i64 CO, .string ⟨#[]⟩, .int .i64 0, .slice none 0 0].toArray 54) := ⟨_, rfl⟩
 have hk2 : Kept noX W1 W2 := by rw [hW2]; exact (Kept.refl _ _).alloc _
 have HE2 := aP (show Cells W2 W1.heap.size 54 [.int .i64 0, .int .i64 LI, .int .i64 CO, .string ⟨#[]⟩, .int .i64 0, .slice none 0 0] from by rw [hW2]; exact Cells.fresh W1 54 _)
 have hs2 : W2.heap.size = W1.heap.size + 1 := by rw [hW2]; simp
 rw [← hW2] at hG ⊢
 obtain ⟨Wl, hWl⟩ : ∃ Wl, Wl = W2.alloc (.cells (declL.map Value.string).toArray 9) := ⟨_, rfl⟩
 have hk3 : Kept noX W2 Wl := by rw [hWl]; exact (Kept.refl _ _).alloc _
 have hs3 := hk3.size
 simp only [declL, List.map_cons, List.map_nil] at hWl
 rw [← hWl] at hG ⊢
 clear hW2 hWl
 obtain ⟨G, hGe⟩ : ∃ G, G = W1.heap.size + 1 := ⟨_, rfl⟩
 rw [← hGe] at hG ⊢
 have lG := hG.lt
 obtain ⟨E, hEe⟩ : ∃ E, E = W1.heap.size := ⟨_, rfl⟩
 rw [← hEe] at HE2 ⊢
 have hE1 : w.heap.size < E := by omega
 have hEG : E < G := by omega
 have HKL := aP (((HKA.out.trans hk1).trans hk2).trans hk3)
 have HI0 := aP (show DkI R v n T st w.heap.size E G Wl (.int .i64 1) Wl from ⟨1, Nat.le_refl _, by decide, rfl, by rw [← HLI.out, ← HCO.out]; exact HE2.out.keep hk3, ((HB.out.keep hk1).keep hk2).keep hk3, hG, ((HA.out.keep hk1).keep hk2).keep hk3, Kept.refl _ _⟩)
 clear hk1 hk2 hk3 hG HE2 HB HA HKA hGe hEe hs1 hs2 hs3
 go_loopw [5] (fun i wr => DkI R v n T st w.heap.size E G Wl i wr) (fun i _ => 7 - (intOf i).toNat)
 case atStart => exact HI0.out
 case round =>
  obtain ⟨j, hj1, hj16, rfl, hcE, hcB, hcG, hr, hkr⟩ := hrel
  rw [← HLI.out, ← HCO.out] at hcE
  by_cases hj : j < 7
  ·exact k_2
  ·obtain rfl : j = 7 := by omega
   have hjd : decide (((7 : Nat) : Int) < 7) = false := by simp
   have hcE : Cells wr E 54 [.int .i64 5, .int .i64 LI, .int .i64 CO, .string ⟨#[]⟩, .int .i64 0, .slice none 0 0] := by rw [show dkUp n T st (7 - 1) = 5 from HKI.out] at hcE; exact hcE
   have e0 := hcE.cell 0
   simp only [aZ] at e0
   have HCE := aP hcE; have HCB := aP hcB; have HR := aP hr
   have HK := aP (HKL.out.join hkr (fun i hi hlt2 => by have hi : i = E := hi; omega))
   have lE := hcE.lt
   clear hcE hcB hcG hr hkr hjd
   have HCE0 := HCE
   have HCB0 := HCB
   have HR0 := HR
   have HK0 := aP (show Kept (· = R) w wr from HK.out.any)
   clear HCE HCB HR HK
   have c1 := HR0.out.is.cell 1; have f1 := HR0.out.is.free 1
   simp only [aZ, aS] at c1
   go_wp2_with fail
   obtain ⟨Wx1, hW1⟩ : ∃ W, W = wr.setCell ⟨R, 1, none⟩ (.int .i64 ((st.1 + 1 : Nat) : Int)) := ⟨_, rfl⟩
   have hnx := RAt.next HR0.out
   rw [← hW1] at hnx
   have e1 : Value.int .i64 ((st.1 : Int) + 1) = .int .i64 ((st.1 + 1 : Nat) : Int) := rfl
   rw [e1, ← hW1]
   have hz1 := hnx.2.size
   have HR1 := aP hnx.1
   have HCE1 := aP (HCE0.out.kept hnx.2 kom)
   have HCB1 := aP (HCB0.out.kept hnx.2 kom)
   have HK1 := aP (HK0.out.trans hnx.2)
   clear hW1 hnx e1 c1 f1 HCE0 HCB0 HK0 HR0
   refine (naR_any HR1.out).mono ?_
   rintro e W2 ⟨rfl, hr2, hk2⟩
   have hz2 := hk2.size
   have HR2 := aP hr2
   have HCE2 := aP (HCE1.out.kept hk2 kom)
   have HCB2 := aP (HCB1.out.kept hk2 kom)
   have HK2 := aP (HK1.out.trans hk2)
   clear hr2 hk2 HCE1 HCB1 HK1 HR1
   have d3 := HCE2.out.cell 3; have f3 := HCE2.out.free 3
   have d0 := HCE2.out.cell 0; have f0 := HCE2.out.free 0
   simp only [aZ, aS] at d3 d0
   go_wp2_with fail
   clear d3 f3 d0 f0
   obtain ⟨Wx3, hW3⟩ : ∃ W, W = W2.setCell ⟨E, 3, none⟩ (.string (naR n T (nextR st)).1) := ⟨_, rfl⟩
   have hq3 : Kept (· = E) W2 Wx3 := by rw [hW3]; exact (Kept.refl _ _).setCell (fun _ => by rfl) _
   have HCE3 := aP (show Cells Wx3 E 54 [.int .i64 5, .int .i64 LI, .int .i64 CO, .string (naR n T (nextR st)).1, .int .i64 0, .slice none 0 0] from by rw [hW3]; exact HCE2.out.put 3 _)
   rw [← hW3]
   have hz3 := hq3.size
   have HR3 := aP (R2.other HR2.out hq3 kom (fun g hg => by have := HVB.out g hg; omega))
   have HCB3 := aP (HCB2.out.kept hq3 kom)
   have HK3 := aP (HK2.out.join hq3 (fun i hi hlt2 => by have hi : i = E := hi; omega))
   clear hW3 hq3 HCE2 HCB2 HK2 HR2
   refine (nuR_any HR3.out).mono ?_
   rintro e W4 ⟨rfl, hr4, hk4⟩
   have hz4 := hk4.size
   have HR4 := aP hr4
   have HCE4 := aP (HCE3.out.kept hk4 kom)
   have HCB4 := aP (HCB3.out.kept hk4 kom)
   have HK4 := aP (HK3.out.trans hk4)
   clear hr4 hk4 HCE3 HCB3 HK3 HR3
   have d4 := HCE4.out.cell 4; have f4 := HCE4.out.free 4
   simp only [aZ, aS] at d4
   go_wp2_with fail
   clear d4 f4
   obtain ⟨Wx5, hW5⟩ : ∃ W, W = W4.setCell ⟨E, 4, none⟩ (.int .i64 (nuR n T (naR n T (nextR st)).2).1) := ⟨_, rfl⟩
   have hq5 : Kept (· = E) W4 Wx5 := by rw [hW5]; exact (Kept.refl _ _).setCell (fun _ => by rfl) _
   have HCE5 := aP (show Cells Wx5 E 54 [.int .i64 5, .int .i64 LI, .int .i64 CO, .string (naR n T (nextR st)).1, .int .i64 (nuR n T (naR n T (nextR st)).2).1, .slice none 0 0] from by rw [hW5]; exact HCE4.out.put 4 _)
   rw [← hW5]
   have hz5 := hq5.size
   have HR5 := aP (R2.other HR4.out hq5 kom (fun g hg => by have := HVB.out g hg; omega))
   have HCB5 := aP (HCB4.out.kept hq5 kom)
   have HK5 := aP (HK4.out.join hq5 (fun i hi hlt2 => by have hi : i = E := hi; omega))
   clear hW5 hq5 HCE4 HCB4 HK4 HR4
   refine (muR_any HR5.out ⟨#[59]⟩).mono ?_
   rintro e W6 ⟨rfl, hr6, hk6⟩
   have hz6 := hk6.size
   have HR6 := aP hr6
   have HCE6 := aP (HCE5.out.kept hk6 kom)
   have HCB6 := aP (HCB5.out.kept hk6 kom)
   have HK6 := aP (HK5.out.trans hk6)
   clear hr6 hk6 HCE5 HCB5 HK5 HR5
   go_wp2_with (first | ((with_reducible refine atl ?_); (refine wpList_load_cells rfl 54 (.tmp 3) rfl (E) rfl _ Tryz.underlying54 rfl HCE6.out krf ?_)) | ((with_reducible refine ats ?_); (refine wpList_store_all rfl rfl 54 (.tmp 2) (.tmp 72) rfl (w.heap.size) rfl [.int .i64 5, .int .i64 LI, .int .i64 CO, .string (naR n T (nextR st)).1, .int .i64 (nuR n T (naR n T (nextR st)).2).1, .slice none 0 0] rfl HCB6.out (by rfl) krf k1c ?_; intro W9 hB9 hk9; have HB9 := aP hB9; clear hB9)))
   have hR9 := R2.other HR6.out hk9 kom (fun g hg => by have := HVB.out g hg; omega)
   refine ret_box Tryz.results41 rfl HB9.out Tryz.underlying54 rfl krf rfl ⟨_, rfl, ?_, hR9, HK6.out.join hk9 (fun i hi hlt2 => by have hi : i = w.heap.size := hi; omega)⟩
   rw [HLI.out, HCO.out]
   exact DV.iff.2 ⟨_, rfl, (RowV.nil _ _)⟩
end
end Go.Proofs.YtjkgepppoopheaaGreatDoor
