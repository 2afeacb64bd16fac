/- The document's reader of layer 2 at a declaration, whole (conditions: at most 1000000 words). -/
import Derived.Test.YtjkgepppoopheaaGreatDoorAbb
import Derived.Test.YtjkgepppoopheaaGreatDoorQ16
import Derived.Test.YtjkgepppoopheaaGreatDoorQ32
set_option maxRecDepth 100000
set_option maxHeartbeats 1000000
namespace Go.Proofs.YtjkgepppoopheaaGreatDoor
open Go.RowKit Go.Shelf
section
variable {R : Nat} {v : Value} {n : Nat} {T : Nat → TokD} {st : RS} {w : World}
theorem decl_var (h : RAt w R v n T st) (hK : dkR n T st = 1) (h2 : isR n T (muR n T (naR n T (nextR st)).2 ⟨#[61]⟩) ⟨#[45]⟩ = false) : Calls Tryz.prog 41 #[.pointer (some ⟨R, 0, none⟩)] w (ReadsD w R v n T (varR n T st (naR n T (nextR st)) false (nuR n T (muR n T (naR n T (nextR st)).2 ⟨#[61]⟩)))) := by
 have hlt : st.1 < n := (dkUp_lt (j := 6) (by rw [show dkUp n T st 6 = dkR n T st from rfl, hK]; decide)).1
 have hfew := h.few
 have hRw := h.is.lt
 have HVB := aP h.own_lt
 have hkA : Kept noX w (w.alloc (.cells zeroD.toArray 54)) := (Kept.refl _ _).alloc _
 have hszA : (w.alloc (.cells zeroD.toArray 54)).heap.size = w.heap.size + 1 := by simp
 have HB := aP (Cells.fresh w 54 zeroD)
 have HA := aP (h.keep hkA)
 have HKA := aP hkA
 have HKI := aP hK
 clear h hkA hK
 go_enter Tryz.func41, Tryz.ntmps41
 go_wp2_with fail
 refine (pos_any HA.out).mono ?_
 rintro e W1 ⟨rfl, hk1⟩
 have hs1 := hk1.size
 rw [hszA] at hs1
 obtain ⟨LI, hLI⟩ : ∃ x, x = lineOf n T st.1 := ⟨_, rfl⟩
 obtain ⟨CO, hCO⟩ : ∃ x, x = colOf n T st.1 := ⟨_, rfl⟩
 have HLI := aP hLI
 have HCO := aP hCO
 rw [← hLI, ← hCO]
 clear hLI hCO
 have hG := Cells.fresh (W1.alloc (.cells [.int .i64 0, .int .i64 LI, .int .i64 CO, .string ⟨#[]⟩, .int .i64 0, .slice none 0 0].toArray 54)) 9 (declL.map .string)
 simp only [declL, List.map_cons, List.map_nil, World.size_alloc] at hG
 go_wp2_with fail
 obtain ⟨W2, hW2⟩ : ∃ W2, W2 = W1.alloc (.cells [.int .i64 0, .int .i64 LI, .int .i64 CO, .string ⟨#[]⟩, .int .i64 0, .slice none 0 0].toArray 54) := ⟨_, rfl⟩
 have hk2 : Kept noX W1 W2 := by rw [hW2]; exact (Kept.refl _ _).alloc _
 have HE2 := aP (show Cells W2 W1.heap.size 54 [.int .i64 0, .int .i64 LI, .int .i64 CO, .string ⟨#[]⟩, .int .i64 0, .slice none 0 0] from by rw [hW2]; exact Cells.fresh W1 54 _)
 have hs2 : W2.heap.size = W1.heap.size + 1 := by rw [hW2]; simp
 rw [← hW2] at hG ⊢
 obtain ⟨Wl, hWl⟩ : ∃ Wl, Wl = W2.alloc (.cells (declL.map Value.string).toArray 9) := ⟨_, rfl⟩
 have hk3 : Kept noX W2 Wl := by rw [hWl]; exact (Kept.refl _ _).alloc _
 have hs3 := hk3.size
 simp only [declL, List.map_cons, List.map_nil] at hWl
 rw [← hWl] at hG ⊢
 clear hW2 hWl
 obtain ⟨G, hGe⟩ : ∃ G, G = W1.heap.size + 1 := ⟨_, rfl⟩
 rw [← hGe] at hG ⊢
 have lG := hG.lt
 obtain ⟨E, hEe⟩ : ∃ E, E = W1.heap.size := ⟨_, rfl⟩
 rw [← hEe] at HE2 ⊢
 have hE1 : w.heap.size < E := by omega
 have hEG : E < G := by omega
 have HKL := aP (((HKA.out.trans hk1).trans hk2).trans hk3)
 have HI0 := aP (show DkI R v n T st w.heap.size E G Wl (.int .i64 1) Wl from ⟨1, Nat.le_refl _, by decide, rfl, by rw [← HLI.out, ← HCO.out]; exact HE2.out.keep hk3, ((HB.out.keep hk1).keep hk2).keep hk3, hG, ((HA.out.keep hk1).keep hk2).keep hk3, Kept.refl _ _⟩)
 clear hk1 hk2 hk3 hG HE2 HB HA HKA hGe hEe hs1 hs2 hs3
 go_loopw [5] (fun i wr => DkI R v n T st w.heap.size E G Wl i wr) (fun i _ => 7 - (intOf i).toNat)
 case atStart => exact HI0.out
 case round =>
  obtain ⟨j, hj1, hj16, rfl, hcE, hcB, hcG, hr, hkr⟩ := hrel
  rw [← HLI.out, ← HCO.out] at hcE
  by_cases hj : j < 7
  ·exact k_2
  ·obtain rfl : j = 7 := by omega
   have hjd : decide (((7 : Nat) : Int) < 7) = false := by simp
   have hcE : Cells wr E 54 [.int .i64 1, .int .i64 LI, .int .i64 CO, .string ⟨#[]⟩, .int .i64 0, .slice none 0 0] := by rw [show dkUp n T st (7 - 1) = 1 from HKI.out] at hcE; exact hcE
   have e0 := hcE.cell 0
   simp only [aZ] at e0
   have HCE := aP hcE; have HCB := aP hcB; have HR := aP hr
   have HK := aP (HKL.out.join hkr (fun i hi hlt2 => by have hi : i = E := hi; omega))
   have lE := hcE.lt
   clear hcE hcB hcG hr hkr hjd
   have HCE0 := HCE
   have HCB0 := HCB
   have HR0 := HR
   have HK0 := aP (show Kept (· = R) w wr from HK.out.any)
   clear HCE HCB HR HK
   have c1 := HR0.out.is.cell 1; have f1 := HR0.out.is.free 1
   simp only [aZ, aS] at c1
   go_wp2_with fail
   obtain ⟨Wx1, hW1⟩ : ∃ W, W = wr.setCell ⟨R, 1, none⟩ (.int .i64 ((st.1 + 1 : Nat) : Int)) := ⟨_, rfl⟩
   have hnx := RAt.next HR0.out
   rw [← hW1] at hnx
   have e1 : Value.int .i64 ((st.1 : Int) + 1) = .int .i64 ((st.1 + 1 : Nat) : Int) := rfl
   rw [e1, ← hW1]
   have hz1 := hnx.2.size
   have HR1 := aP hnx.1
   have HCE1 := aP (HCE0.out.kept hnx.2 kom)
   have HCB1 := aP (HCB0.out.kept hnx.2 kom)
   have HK1 := aP (HK0.out.trans hnx.2)
   clear hW1 hnx e1 c1 f1 HCE0 HCB0 HK0 HR0
   refine (naR_any HR1.out).mono ?_
   rintro e W2 ⟨rfl, hr2, hk2⟩
   have hz2 := hk2.size
   have HR2 := aP hr2
   have HCE2 := aP (HCE1.out.kept hk2 kom)
   have HCB2 := aP (HCB1.out.kept hk2 kom)
   have HK2 := aP (HK1.out.trans hk2)
   clear hr2 hk2 HCE1 HCB1 HK1 HR1
   have d3 := HCE2.out.cell 3; have f3 := HCE2.out.free 3
   have d0 := HCE2.out.cell 0; have f0 := HCE2.out.free 0
   simp only [aZ, aS] at d3 d0
   go_wp2_with fail
   clear d3 f3 d0 f0
   obtain ⟨Wx3, hW3⟩ : ∃ W, W = W2.setCell ⟨E, 3, none⟩ (.string (naR n T (nextR st)).1) := ⟨_, rfl⟩
   have hq3 : Kept (· = E) W2 Wx3 := by rw [hW3]; exact (Kept.refl _ _).setCell (fun _ => by rfl) _
   have HCE3 := aP (show Cells Wx3 E 54 [.int .i64 1, .int .i64 LI, .int .i64 CO, .string (naR n T (nextR st)).1, .int .i64 0, .slice none 0 0] from by rw [hW3]; exact HCE2.out.put 3 _)
   rw [← hW3]
   have hz3 := hq3.size
   have HR3 := aP (R2.other HR2.out hq3 kom (fun g hg => by have := HVB.out g hg; omega))
   have HCB3 := aP (HCB2.out.kept hq3 kom)
   have HK3 := aP (HK2.out.join hq3 (fun i hi hlt2 => by have hi : i = E := hi; omega))
   clear hW3 hq3 HCE2 HCB2 HK2 HR2
   refine (muR_any HR3.out ⟨#[61]⟩).mono ?_
   rintro e W4 ⟨rfl, hr4, hk4⟩
   have hz4 := hk4.size
   have HR4 := aP hr4
   have HCE4 := aP (HCE3.out.kept hk4 kom)
   have HCB4 := aP (HCB3.out.kept hk4 kom)
   have HK4 := aP (HK3.out.trans hk4)
   clear hr4 hk4 HCE3 HCB3 HK3 HR3
   go_wp2_with fail
   refine (tkR_no HR4.out h2).mono ?_
   rintro e W5 ⟨rfl, hr5, hk5⟩
   have hz5 := hk5.size
   have HR5 := aP hr5
   have HCE5 := aP (HCE4.out.kept hk5 kom)
   have HCB5 := aP (HCB4.out.kept hk5 kom)
   have HK5 := aP (HK4.out.trans hk5)
   clear hr5 hk5 HCE4 HCB4 HK4 HR4
   go_wp2_with fail
   refine (nuR_any HR5.out).mono ?_
   rintro e W6 ⟨rfl, hr6, hk6⟩
   have hz6 := hk6.size
   have HR6 := aP hr6
   have HCE6 := aP (HCE5.out.kept hk6 kom)
   have HCB6 := aP (HCB5.out.kept hk6 kom)
   have HK6 := aP (HK5.out.trans hk6)
   clear hr6 hk6 HCE5 HCB5 HK5 HR5
   have d4 := HCE6.out.cell 4; have f4 := HCE6.out.free 4
   simp only [aZ, aS] at d4
   go_wp2_with fail
   clear d4 f4
   obtain ⟨Wx7, hW7⟩ : ∃ W, W = W6.setCell ⟨E, 4, none⟩ (.int .i64 (nuR n T (muR n T (naR n T (nextR st)).2 ⟨#[61]⟩)).1) := ⟨_, rfl⟩
   have hq7 : Kept (· = E) W6 Wx7 := by rw [hW7]; exact (Kept.refl _ _).setCell (fun _ => by rfl) _
   have HCE7 := aP (show Cells Wx7 E 54 [.int .i64 1, .int .i64 LI, .int .i64 CO, .string (naR n T (nextR st)).1, .int .i64 (nuR n T (muR n T (naR n T (nextR st)).2 ⟨#[61]⟩)).1, .slice none 0 0] from by rw [hW7]; exact HCE6.out.put 4 _)
   rw [← hW7]
   have hz7 := hq7.size
   have HR7 := aP (R2.other HR6.out hq7 kom (fun g hg => by have := HVB.out g hg; omega))
   have HCB7 := aP (HCB6.out.kept hq7 kom)
   have HK7 := aP (HK6.out.join hq7 (fun i hi hlt2 => by have hi : i = E := hi; omega))
   clear hW7 hq7 HCE6 HCB6 HK6 HR6
   refine (muR_any HR7.out ⟨#[59]⟩).mono ?_
   rintro e W8 ⟨rfl, hr8, hk8⟩
   have hz8 := hk8.size
   have HR8 := aP hr8
   have HCE8 := aP (HCE7.out.kept hk8 kom)
   have HCB8 := aP (HCB7.out.kept hk8 kom)
   have HK8 := aP (HK7.out.trans hk8)
   clear hr8 hk8 HCE7 HCB7 HK7 HR7
   go_wp2_with (first | ((with_reducible refine atl ?_); (refine wpList_load_cells rfl 54 (.tmp 3) rfl (E) rfl _ Tryz.underlying54 rfl HCE8.out krf ?_)) | ((with_reducible refine ats ?_); (refine wpList_store_all rfl rfl 54 (.tmp 2) (.tmp 72) rfl (w.heap.size) rfl [.int .i64 1, .int .i64 LI, .int .i64 CO, .string (naR n T (nextR st)).1, .int .i64 (nuR n T (muR n T (naR n T (nextR st)).2 ⟨#[61]⟩)).1, .slice none 0 0] rfl HCB8.out (by rfl) krf k1c ?_; intro W9 hB9 hk9; have HB9 := aP hB9; clear hB9)))
   have hR9 := R2.other HR8.out hk9 kom (fun g hg => by have := HVB.out g hg; omega)
   refine ret_box Tryz.results41 rfl HB9.out Tryz.underlying54 rfl krf rfl ⟨_, rfl, ?_, hR9, HK8.out.join hk9 (fun i hi hlt2 => by have hi : i = w.heap.size := hi; omega)⟩
   rw [HLI.out, HCO.out]
   exact DV.iff.2 ⟨_, rfl, (RowV.nil _ _)⟩
theorem decl_low (h : RAt w R v n T st) (hK : dkR n T st = 1) (h2 : isR n T (muR n T (naR n T (nextR st)).2 ⟨#[61]⟩) ⟨#[45]⟩ = true) : Calls Tryz.prog 41 #[.pointer (some ⟨R, 0, none⟩)] w (ReadsD w R v n T (varR n T st (naR n T (nextR st)) true (nuR n T (nextR (muR n T (naR n T (nextR st)).2 ⟨#[61]⟩))))) := by
 have hlt : st.1 < n := (dkUp_lt (j := 6) (by rw [show dkUp n T st 6 = dkR n T st from rfl, hK]; decide)).1
 have hfew := h.few
 have hRw := h.is.lt
 have HVB := aP h.own_lt
 have hkA : Kept noX w (w.alloc (.cells zeroD.toArray 54)) := (Kept.refl _ _).alloc _
 have hszA : (w.alloc (.cells zeroD.toArray 54)).heap.size = w.heap.size + 1 := by simp
 have HB := aP (Cells.fresh w 54 zeroD)
 have HA := aP (h.keep hkA)
 have HKA := aP hkA
 have HKI := aP hK
 clear h hkA hK
 go_enter Tryz.func41, Tryz.ntmps41
 go_wp2_with fail
 refine (pos_any HA.out).mono ?_
 rintro e W1 ⟨rfl, hk1⟩
 have hs1 := hk1.size
 rw [hszA] at hs1
 obtain ⟨LI, hLI⟩ : ∃ x, x = lineOf n T st.1 := ⟨_, rfl⟩
 obtain ⟨CO, hCO⟩ : ∃ x, x = colOf n T st.1 := ⟨_, rfl⟩
 have HLI := aP hLI
 have HCO := aP hCO
 rw [← hLI, ← hCO]
 clear hLI hCO
 have hG := Cells.fresh (W1.alloc (.cells [.int .i64 0, .int .i64 LI, .int .i64 CO, .string ⟨#[]⟩, .int .i64 0, .slice none 0 0].toArray 54)) 9 (declL.map .string)
 simp only [declL, List.map_cons, List.map_nil, World.size_alloc] at hG
 go_wp2_with fail
 obtain ⟨W2, hW2⟩ : ∃ W2, W2 = W1.alloc (.cells [.int .i64 0, .int .i64 LI, .int .i64 CO, .string ⟨#[]⟩, .int .i64 0, .slice none 0 0].toArray 54) := ⟨_, rfl⟩
 have hk2 : Kept noX W1 W2 := by rw [hW2]; exact (Kept.refl _ _).alloc _
 have HE2 := aP (show Cells W2 W1.heap.size 54 [.int .i64 0, .int .i64 LI, .int .i64 CO, .string ⟨#[]⟩, .int .i64 0, .slice none 0 0] from by rw [hW2]; exact Cells.fresh W1 54 _)
 have hs2 : W2.heap.size = W1.heap.size + 1 := by rw [hW2]; simp
 rw [← hW2] at hG ⊢
 obtain ⟨Wl, hWl⟩ : ∃ Wl, Wl = W2.alloc (.cells (declL.map Value.string).toArray 9) := ⟨_, rfl⟩
 have hk3 : Kept noX W2 Wl := by rw [hWl]; exact (Kept.refl _ _).alloc _
 have hs3 := hk3.size
 simp only [declL, List.map_cons, List.map_nil] at hWl
 rw [← hWl] at hG ⊢
 clear hW2 hWl
 obtain ⟨G, hGe⟩ : ∃ G, G = W1.heap.size + 1 := ⟨_, rfl⟩
 rw [← hGe] at hG ⊢
 have lG := hG.lt
 obtain ⟨E, hEe⟩ : ∃ E, E = W1.heap.size := ⟨_, rfl⟩
 rw [← hEe] at HE2 ⊢
 have hE1 : w.heap.size < E := by omega
 have hEG : E < G := by omega
 have HKL := aP (((HKA.out.trans hk1).trans hk2).trans hk3)
 have HI0 := aP (show DkI R v n T st w.heap.size E G Wl (.int .i64 1) Wl from ⟨1, Nat.le_refl _, by decide, rfl, by rw [← HLI.out, ← HCO.out]; exact HE2.out.keep hk3, ((HB.out.keep hk1).keep hk2).keep hk3, hG, ((HA.out.keep hk1).keep hk2).keep hk3, Kept.refl _ _⟩)
 clear hk1 hk2 hk3 hG HE2 HB HA HKA hGe hEe hs1 hs2 hs3
 go_loopw [5] (fun i wr => DkI R v n T st w.heap.size E G Wl i wr) (fun i _ => 7 - (intOf i).toNat)
 case atStart => exact HI0.out
 case round =>
  obtain ⟨j, hj1, hj16, rfl, hcE, hcB, hcG, hr, hkr⟩ := hrel
  rw [← HLI.out, ← HCO.out] at hcE
  by_cases hj : j < 7
  ·exact k_2
  ·obtain rfl : j = 7 := by omega
   have hjd : decide (((7 : Nat) : Int) < 7) = false := by simp
   have hcE : Cells wr E 54 [.int .i64 1, .int .i64 LI, .int .i64 CO, .string ⟨#[]⟩, .int .i64 0, .slice none 0 0] := by rw [show dkUp n T st (7 - 1) = 1 from HKI.out] at hcE; exact hcE
   have e0 := hcE.cell 0
   simp only [aZ] at e0
   have HCE := aP hcE; have HCB := aP hcB; have HR := aP hr
   have HK := aP (HKL.out.join hkr (fun i hi hlt2 => by have hi : i = E := hi; omega))
   have lE := hcE.lt
   clear hcE hcB hcG hr hkr hjd
   have HCE0 := HCE
   have HCB0 := HCB
   have HR0 := HR
   have HK0 := aP (show Kept (· = R) w wr from HK.out.any)
   clear HCE HCB HR HK
   have c1 := HR0.out.is.cell 1; have f1 := HR0.out.is.free 1
   simp only [aZ, aS] at c1
   go_wp2_with fail
   obtain ⟨Wx1, hW1⟩ : ∃ W, W = wr.setCell ⟨R, 1, none⟩ (.int .i64 ((st.1 + 1 : Nat) : Int)) := ⟨_, rfl⟩
   have hnx := RAt.next HR0.out
   rw [← hW1] at hnx
   have e1 : Value.int .i64 ((st.1 : Int) + 1) = .int .i64 ((st.1 + 1 : Nat) : Int) := rfl
   rw [e1, ← hW1]
   have hz1 := hnx.2.size
   have HR1 := aP hnx.1
   have HCE1 := aP (HCE0.out.kept hnx.2 kom)
   have HCB1 := aP (HCB0.out.kept hnx.2 kom)
   have HK1 := aP (HK0.out.trans hnx.2)
   clear hW1 hnx e1 c1 f1 HCE0 HCB0 HK0 HR0
   refine (naR_any HR1.out).mono ?_
   rintro e W2 ⟨rfl, hr2, hk2⟩
   have hz2 := hk2.size
   have HR2 := aP hr2
   have HCE2 := aP (HCE1.out.kept hk2 kom)
   have HCB2 := aP (HCB1.out.kept hk2 kom)
   have HK2 := aP (HK1.out.trans hk2)
   clear hr2 hk2 HCE1 HCB1 HK1 HR1
   have d3 := HCE2.out.cell 3; have f3 := HCE2.out.free 3
   have d0 := HCE2.out.cell 0; have f0 := HCE2.out.free 0
   simp only [aZ, aS] at d3 d0
   go_wp2_with fail
   clear d3 f3 d0 f0
   obtain ⟨Wx3, hW3⟩ : ∃ W, W = W2.setCell ⟨E, 3, none⟩ (.string (naR n T (nextR st)).1) := ⟨_, rfl⟩
   have hq3 : Kept (· = E) W2 Wx3 := by rw [hW3]; exact (Kept.refl _ _).setCell (fun _ => by rfl) _
   have HCE3 := aP (show Cells Wx3 E 54 [.int .i64 1, .int .i64 LI, .int .i64 CO, .string (naR n T (nextR st)).1, .int .i64 0, .slice none 0 0] from by rw [hW3]; exact HCE2.out.put 3 _)
   rw [← hW3]
   have hz3 := hq3.size
   have HR3 := aP (R2.other HR2.out hq3 kom (fun g hg => by have := HVB.out g hg; omega))
   have HCB3 := aP (HCB2.out.kept hq3 kom)
   have HK3 := aP (HK2.out.join hq3 (fun i hi hlt2 => by have hi : i = E := hi; omega))
   clear hW3 hq3 HCE2 HCB2 HK2 HR2
   refine (muR_any HR3.out ⟨#[61]⟩).mono ?_
   rintro e W4 ⟨rfl, hr4, hk4⟩
   have hz4 := hk4.size
   have HR4 := aP hr4
   have HCE4 := aP (HCE3.out.kept hk4 kom)
   have HCB4 := aP (HCB3.out.kept hk4 kom)
   have HK4 := aP (HK3.out.trans hk4)
   clear hr4 hk4 HCE3 HCB3 HK3 HR3
   go_wp2_with fail
   refine (tkR_yes HR4.out h2).mono ?_
   rintro e W5 ⟨rfl, hr5, hk5⟩
   have hz5 := hk5.size
   have HR5 := aP hr5
   have HCE5 := aP (HCE4.out.kept hk5 kom)
   have HCB5 := aP (HCB4.out.kept hk5 kom)
   have HK5 := aP (HK4.out.trans hk5)
   clear hr5 hk5 HCE4 HCB4 HK4 HR4
   go_wp2_with fail
   refine (nuR_any HR5.out).mono ?_
   rintro e W6 ⟨rfl, hr6, hk6⟩
   have hz6 := hk6.size
   have HR6 := aP hr6
   have HCE6 := aP (HCE5.out.kept hk6 kom)
   have HCB6 := aP (HCB5.out.kept hk6 kom)
   have HK6 := aP (HK5.out.trans hk6)
   clear hr6 hk6 HCE5 HCB5 HK5 HR5
   generalize hgx : (nuR n T (nextR (muR n T (naR n T (nextR st)).2 ⟨#[61]⟩))).1 = x
   have HGX := aP hgx
   clear hgx
   have d4 := HCE6.out.cell 4; have f4 := HCE6.out.free 4
   simp only [aZ, aS] at d4
   go_wp2_with fail
   clear d4 f4
   obtain ⟨Wx7, hW7⟩ : ∃ W, W = ((W6.setCell ⟨E, 4, none⟩ (.int .i64 x)).setCell ⟨E, 4, none⟩ (.int .i64 (wrap64 (-x)))) := ⟨_, rfl⟩
   have hq7 : Kept (· = E) W6 Wx7 := by rw [hW7]; exact ((Kept.refl _ _).setCell (fun _ => by rfl) _).setCell (fun _ => by rfl) _
   have HCE7 := aP (show Cells Wx7 E 54 [.int .i64 1, .int .i64 LI, .int .i64 CO, .string (naR n T (nextR st)).1, .int .i64 (wrap64 (-x)), .slice none 0 0] from by rw [hW7]; exact (HCE6.out.put 4 _).put 4 _)
   rw [← hW7]
   have hz7 := hq7.size
   have HR7 := aP (R2.other HR6.out hq7 kom (fun g hg => by have := HVB.out g hg; omega))
   have HCB7 := aP (HCB6.out.kept hq7 kom)
   have HK7 := aP (HK6.out.join hq7 (fun i hi hlt2 => by have hi : i = E := hi; omega))
   clear hW7 hq7 HCE6 HCB6 HK6 HR6
   refine (muR_any HR7.out ⟨#[59]⟩).mono ?_
   rintro e W8 ⟨rfl, hr8, hk8⟩
   have hz8 := hk8.size
   have HR8 := aP hr8
   have HCE8 := aP (HCE7.out.kept hk8 kom)
   have HCB8 := aP (HCB7.out.kept hk8 kom)
   have HK8 := aP (HK7.out.trans hk8)
   clear hr8 hk8 HCE7 HCB7 HK7 HR7
   go_wp2_with (first | ((with_reducible refine atl ?_); (refine wpList_load_cells rfl 54 (.tmp 3) rfl (E) rfl _ Tryz.underlying54 rfl HCE8.out krf ?_)) | ((with_reducible refine ats ?_); (refine wpList_store_all rfl rfl 54 (.tmp 2) (.tmp 72) rfl (w.heap.size) rfl [.int .i64 1, .int .i64 LI, .int .i64 CO, .string (naR n T (nextR st)).1, .int .i64 (wrap64 (-x)), .slice none 0 0] rfl HCB8.out (by rfl) krf k1c ?_; intro W9 hB9 hk9; have HB9 := aP hB9; clear hB9)))
   have hR9 := R2.other HR8.out hk9 kom (fun g hg => by have := HVB.out g hg; omega)
   have hgx := HGX.out
   subst hgx
   refine ret_box Tryz.results41 rfl HB9.out Tryz.underlying54 rfl krf rfl ⟨_, rfl, ?_, hR9, HK8.out.join hk9 (fun i hi hlt2 => by have hi : i = w.heap.size := hi; omega)⟩
   rw [HLI.out, HCO.out]
   exact DV.iff.2 ⟨_, rfl, (RowV.nil _ _)⟩
theorem decl_thread (h : RAt w R v n T st) (hK : dkR n T st = 6) : Calls Tryz.prog 41 #[.pointer (some ⟨R, 0, none⟩)] w (ReadsD w R v n T ((dR n T st 6 (naR n T (nextR st)).1 0 (bkR n T (naR n T (nextR st)).2).1, (bkR n T (naR n T (nextR st)).2).2))) := by
 have hlt : st.1 < n := (dkUp_lt (j := 6) (by rw [show dkUp n T st 6 = dkR n T st from rfl, hK]; decide)).1
 have hfew := h.few
 have hRw := h.is.lt
 have HVB := aP h.own_lt
 have hkA : Kept noX w (w.alloc (.cells zeroD.toArray 54)) := (Kept.refl _ _).alloc _
 have hszA : (w.alloc (.cells zeroD.toArray 54)).heap.size = w.heap.size + 1 := by simp
 have HB := aP (Cells.fresh w 54 zeroD)
 have HA := aP (h.keep hkA)
 have HKA := aP hkA
 have HKI := aP hK
 clear h hkA hK
 go_enter Tryz.func41, Tryz.ntmps41
 go_wp2_with fail
 refine (pos_any HA.out).mono ?_
 rintro e W1 ⟨rfl, hk1⟩
 have hs1 := hk1.size
 rw [hszA] at hs1
 obtain ⟨LI, hLI⟩ : ∃ x, x = lineOf n T st.1 := ⟨_, rfl⟩
 obtain ⟨CO, hCO⟩ : ∃ x, x = colOf n T st.1 := ⟨_, rfl⟩
 have HLI := aP hLI
 have HCO := aP hCO
 rw [← hLI, ← hCO]
 clear hLI hCO
 have hG := Cells.fresh (W1.alloc (.cells [.int .i64 0, .int .i64 LI, .int .i64 CO, .string ⟨#[]⟩, .int .i64 0, .slice none 0 0].toArray 54)) 9 (declL.map .string)
 simp only [declL, List.map_cons, List.map_nil, World.size_alloc] at hG
 go_wp2_with fail
 obtain ⟨W2, hW2⟩ : ∃ W2, W2 = W1.alloc (.cells [.int .i64 0, .int .i64 LI, .int .i64 CO, .string ⟨#[]⟩, .int .i64 0, .slice none 0 0].toArray 54) := ⟨_, rfl⟩
 have hk2 : Kept noX W1 W2 := by rw [hW2]; exact (Kept.refl _ _).alloc _
 have HE2 := aP (show Cells W2 W1.heap.size 54 [.int .i64 0, .int .i64 LI, .int .i64 CO, .string ⟨#[]⟩, .int .i64 0, .slice none 0 0] from by rw [hW2]; exact Cells.fresh W1 54 _)
 have hs2 : W2.heap.size = W1.heap.size + 1 := by rw [hW2]; simp
 rw [← hW2] at hG ⊢
 obtain ⟨Wl, hWl⟩ : ∃ Wl, Wl = W2.alloc (.cells (declL.map Value.string).toArray 9) := ⟨_, rfl⟩
 have hk3 : Kept noX W2 Wl := by rw [hWl]; exact (Kept.refl _ _).alloc _
 have hs3 := hk3.size
 simp only [declL, List.map_cons, List.map_nil] at hWl
 rw [← hWl] at hG ⊢
 clear hW2 hWl
 obtain ⟨G, hGe⟩ : ∃ G, G = W1.heap.size + 1 := ⟨_, rfl⟩
 rw [← hGe] at hG ⊢
 have lG := hG.lt
 obtain ⟨E, hEe⟩ : ∃ E, E = W1.heap.size := ⟨_, rfl⟩
 rw [← hEe] at HE2 ⊢
 have hE1 : w.heap.size < E := by omega
 have hEG : E < G := by omega
 have HKL := aP (((HKA.out.trans hk1).trans hk2).trans hk3)
 have HI0 := aP (show DkI R v n T st w.heap.size E G Wl (.int .i64 1) Wl from ⟨1, Nat.le_refl _, by decide, rfl, by rw [← HLI.out, ← HCO.out]; exact HE2.out.keep hk3, ((HB.out.keep hk1).keep hk2).keep hk3, hG, ((HA.out.keep hk1).keep hk2).keep hk3, Kept.refl _ _⟩)
 clear hk1 hk2 hk3 hG HE2 HB HA HKA hGe hEe hs1 hs2 hs3
 go_loopw [5] (fun i wr => DkI R v n T st w.heap.size E G Wl i wr) (fun i _ => 7 - (intOf i).toNat)
 case atStart => exact HI0.out
 case round =>
  obtain ⟨j, hj1, hj16, rfl, hcE, hcB, hcG, hr, hkr⟩ := hrel
  rw [← HLI.out, ← HCO.out] at hcE
  by_cases hj : j < 7
  ·exact k_2
  ·obtain rfl : j = 7 := by omega
   have hjd : decide (((7 : Nat) : Int) < 7) = false := by simp
   have hcE : Cells wr E 54 [.int .i64 6, .int .i64 LI, .int .i64 CO, .string ⟨#[]⟩, .int .i64 0, .slice none 0 0] := by rw [show dkUp n T st (7 - 1) = 6 from HKI.out] at hcE; exact hcE
   have e0 := hcE.cell 0
   simp only [aZ] at e0
   have HCE := aP hcE; have HCB := aP hcB; have HR := aP hr
   have HK := aP (HKL.out.join hkr (fun i hi hlt2 => by have hi : i = E := hi; omega))
   have lE := hcE.lt
   clear hcE hcB hcG hr hkr hjd
   have HCE0 := HCE
   have HCB0 := HCB
   have HR0 := HR
   have HK0 := aP (show Kept (· = R) w wr from HK.out.any)
   clear HCE HCB HR HK
   have c1 := HR0.out.is.cell 1; have f1 := HR0.out.is.free 1
   simp only [aZ, aS] at c1
   go_wp2_with fail
   obtain ⟨Wx1, hW1⟩ : ∃ W, W = wr.setCell ⟨R, 1, none⟩ (.int .i64 ((st.1 + 1 : Nat) : Int)) := ⟨_, rfl⟩
   have hnx := RAt.next HR0.out
   rw [← hW1] at hnx
   have e1 : Value.int .i64 ((st.1 : Int) + 1) = .int .i64 ((st.1 + 1 : Nat) : Int) := rfl
   rw [e1, ← hW1]
   have hz1 := hnx.2.size
   have HR1 := aP hnx.1
   have HCE1 := aP (HCE0.out.kept hnx.2 kom)
   have HCB1 := aP (HCB0.out.kept hnx.2 kom)
   have HK1 := aP (HK0.out.trans hnx.2)
   clear hW1 hnx e1 c1 f1 HCE0 HCB0 HK0 HR0
   refine (naR_any HR1.out).mono ?_
   rintro e W2 ⟨rfl, hr2, hk2⟩
   have hz2 := hk2.size
   have HR2 := aP hr2
   have HCE2 := aP (HCE1.out.kept hk2 kom)
   have HCB2 := aP (HCB1.out.kept hk2 kom)
   have HK2 := aP (HK1.out.trans hk2)
   clear hr2 hk2 HCE1 HCB1 HK1 HR1
   have d3 := HCE2.out.cell 3; have f3 := HCE2.out.free 3
   have d0 := HCE2.out.cell 0; have f0 := HCE2.out.free 0
   simp only [aZ, aS] at d3 d0
   go_wp2_with fail
   clear d3 f3 d0 f0
   obtain ⟨Wx3, hW3⟩ : ∃ W, W = W2.setCell ⟨E, 3, none⟩ (.string (naR n T (nextR st)).1) := ⟨_, rfl⟩
   have hq3 : Kept (· = E) W2 Wx3 := by rw [hW3]; exact (Kept.refl _ _).setCell (fun _ => by rfl) _
   have HCE3 := aP (show Cells Wx3 E 54 [.int .i64 6, .int .i64 LI, .int .i64 CO, .string (naR n T (nextR st)).1, .int .i64 0, .slice none 0 0] from by rw [hW3]; exact HCE2.out.put 3 _)
   rw [← hW3]
   have hz3 := hq3.size
   have HR3 := aP (R2.other HR2.out hq3 kom (fun g hg => by have := HVB.out g hg; omega))
   have HCB3 := aP (HCB2.out.kept hq3 kom)
   have HK3 := aP (HK2.out.join hq3 (fun i hi hlt2 => by have hi : i = E := hi; omega))
   clear hW3 hq3 HCE2 HCB2 HK2 HR2
   have lw4 : E < Wx3.heap.size := HCE3.out.lt
   refine (bkR_any HR3.out ((naR_on (T := T) (nextR st)).2 hlt)).mono ?_
   rintro e W4 ⟨ub, rfl, hrow4, hr4, hk4⟩
   have hz4 := hk4.size
   obtain ⟨Ab, Nb, Cb, rfl, hNl, hNx⟩ := hrow4.form
   clear hNl hNx
   have HTb_4 := aP (show RowV W4 (fun g => g < E + 1) (.slice Ab Nb Cb) (ST.ds (bkR n T (naR n T (nextR st)).2).1) from RowV.mono hrow4 (fun g _ h => by have h : g < E + 1 := h; show g < Wx3.heap.size; omega))
   clear hrow4
   have HR4 := aP hr4
   have HCE4 := aP (HCE3.out.kept hk4 kom)
   have HCB4 := aP (HCB3.out.kept hk4 kom)
   have HK4 := aP (HK3.out.trans hk4)
   clear hr4 hk4 HCE3 HCB3 HK3 HR3
   have d5 := HCE4.out.cell 5; have f5 := HCE4.out.free 5
   simp only [aZ, aS] at d5
   have hq5 : Kept (· = E) W4 (W4.setCell ⟨E, 5, none⟩ (.slice Ab Nb Cb)) := (Kept.refl _ _).setCell (fun _ => by rfl) _
   have HCE5 := aP (show Cells (W4.setCell ⟨E, 5, none⟩ (.slice Ab Nb Cb)) E 54 [.int .i64 6, .int .i64 LI, .int .i64 CO, .string (naR n T (nextR st)).1, .int .i64 0, .slice Ab Nb Cb] from HCE4.out.put 5 _)
   have HR5 := aP (R2.other HR4.out hq5 kom (fun g hg => by have := HVB.out g hg; omega))
   have HCB5 := aP (HCB4.out.kept hq5 kom)
   have HK5 := aP (HK4.out.join hq5 (fun i hi hlt2 => by have hi : i = E := hi; omega))
   have HTb_5 := aP (HTb_4.out.kept hq5 (fun g _ h => by have h : g = E := h; show g < E + 1; omega))
   clear hq5 HCE4 HCB4 HK4 HR4 HTb_4
   go_wp2_with (first | ((with_reducible refine atl ?_); (refine wpList_load_cells rfl 54 (.tmp 3) rfl (E) rfl _ Tryz.underlying54 rfl HCE5.out krf ?_)) | ((with_reducible refine ats ?_); (refine wpList_store_all rfl rfl 54 (.tmp 2) (.tmp 69) rfl (w.heap.size) rfl [.int .i64 6, .int .i64 LI, .int .i64 CO, .string (naR n T (nextR st)).1, .int .i64 0, .slice Ab Nb Cb] rfl HCB5.out (by rfl) krf k1c ?_; intro W9 hB9 hk9; have HB9 := aP hB9; clear hB9)))
   have HTb_9 := (HTb_5.out.kept hk9 (fun g _ h => by have h : g = w.heap.size := h; show g < E + 1; omega)).mono (Z' := fun g => g < w.heap.size) (fun g _ h => by have h : g < w.heap.size := h; show g < E + 1; omega)
   have hR9 := R2.other HR5.out hk9 kom (fun g hg => by have := HVB.out g hg; omega)
   refine ret_box Tryz.results41 rfl HB9.out Tryz.underlying54 rfl krf rfl ⟨_, rfl, ?_, hR9, HK5.out.join hk9 (fun i hi hlt2 => by have hi : i = w.heap.size := hi; omega)⟩
   rw [HLI.out, HCO.out]
   exact DV.iff.2 ⟨_, rfl, HTb_9⟩
end
section
variable {R : Nat} {v : Value} {n : Nat} {T : Nat → TokD} {st : RS} {w : World}
theorem decl_none (h : RAt w R v n T st) (hK : dkR n T st = 0) : Calls Tryz.prog 41 #[.pointer (some ⟨R, 0, none⟩)] w (ReadsD w R v n T (dR n T st 0 ⟨#[]⟩ 0 [], (st.1, true))) := by
 have hfew := h.few
 have hRw := h.is.lt
 have HVB := aP h.own_lt
 have hkA : Kept noX w (w.alloc (.cells zeroD.toArray 54)) := (Kept.refl _ _).alloc _
 have hszA : (w.alloc (.cells zeroD.toArray 54)).heap.size = w.heap.size + 1 := by simp
 have HB := aP (Cells.fresh w 54 zeroD)
 have HA := aP (h.keep hkA)
 have HKA := aP hkA
 have HKI := aP hK
 clear h hkA hK
 go_enter Tryz.func41, Tryz.ntmps41
 go_wp2_with fail
 refine (pos_any HA.out).mono ?_
 rintro e W1 ⟨rfl, hk1⟩
 have hs1 := hk1.size
 rw [hszA] at hs1
 obtain ⟨LI, hLI⟩ : ∃ x, x = lineOf n T st.1 := ⟨_, rfl⟩
 obtain ⟨CO, hCO⟩ : ∃ x, x = colOf n T st.1 := ⟨_, rfl⟩
 have HLI := aP hLI
 have HCO := aP hCO
 rw [← hLI, ← hCO]
 clear hLI hCO
 have hG := Cells.fresh (W1.alloc (.cells [.int .i64 0, .int .i64 LI, .int .i64 CO, .string ⟨#[]⟩, .int .i64 0, .slice none 0 0].toArray 54)) 9 (declL.map .string)
 simp only [declL, List.map_cons, List.map_nil, World.size_alloc] at hG
 go_wp2_with fail
 obtain ⟨W2, hW2⟩ : ∃ W2, W2 = W1.alloc (.cells [.int .i64 0, .int .i64 LI, .int .i64 CO, .string ⟨#[]⟩, .int .i64 0, .slice none 0 0].toArray 54) := ⟨_, rfl⟩
 have hk2 : Kept noX W1 W2 := by rw [hW2]; exact (Kept.refl _ _).alloc _
 have HE2 := aP (show Cells W2 W1.heap.size 54 [.int .i64 0, .int .i64 LI, .int .i64 CO, .string ⟨#[]⟩, .int .i64 0, .slice none 0 0] from by rw [hW2]; exact Cells.fresh W1 54 _)
 have hs2 : W2.heap.size = W1.heap.size + 1 := by rw [hW2]; simp
 rw [← hW2] at hG ⊢
 obtain ⟨Wl, hWl⟩ : ∃ Wl, Wl = W2.alloc (.cells (declL.map Value.string).toArray 9) := ⟨_, rfl⟩
 have hk3 : Kept noX W2 Wl := by rw [hWl]; exact (Kept.refl _ _).alloc _
 have hs3 := hk3.size
 simp only [declL, List.map_cons, List.map_nil] at hWl
 rw [← hWl] at hG ⊢
 clear hW2 hWl
 obtain ⟨G, hGe⟩ : ∃ G, G = W1.heap.size + 1 := ⟨_, rfl⟩
 rw [← hGe] at hG ⊢
 have lG := hG.lt
 obtain ⟨E, hEe⟩ : ∃ E, E = W1.heap.size := ⟨_, rfl⟩
 rw [← hEe] at HE2 ⊢
 have hE1 : w.heap.size < E := by omega
 have hEG : E < G := by omega
 have HKL := aP (((HKA.out.trans hk1).trans hk2).trans hk3)
 have HI0 := aP (show DkI R v n T st w.heap.size E G Wl (.int .i64 1) Wl from ⟨1, Nat.le_refl _, by decide, rfl, by rw [← HLI.out, ← HCO.out]; exact HE2.out.keep hk3, ((HB.out.keep hk1).keep hk2).keep hk3, hG, ((HA.out.keep hk1).keep hk2).keep hk3, Kept.refl _ _⟩)
 clear hk1 hk2 hk3 hG HE2 HB HA HKA hGe hEe hs1 hs2 hs3
 go_loopw [5] (fun i wr => DkI R v n T st w.heap.size E G Wl i wr) (fun i _ => 7 - (intOf i).toNat)
 case atStart => exact HI0.out
 case round =>
  obtain ⟨j, hj1, hj16, rfl, hcE, hcB, hcG, hr, hkr⟩ := hrel
  rw [← HLI.out, ← HCO.out] at hcE
  by_cases hj : j < 7
  ·exact k_2
  ·obtain rfl : j = 7 := by omega
   have hjd : decide (((7 : Nat) : Int) < 7) = false := by simp
   have hcE : Cells wr E 54 [.int .i64 0, .int .i64 LI, .int .i64 CO, .string ⟨#[]⟩, .int .i64 0, .slice none 0 0] := by rw [show dkUp n T st (7 - 1) = 0 from HKI.out] at hcE; exact hcE
   have e0 := hcE.cell 0
   simp only [aZ] at e0
   have HCE := aP hcE; have HCB := aP hcB; have HR := aP hr
   have HK := aP (HKL.out.join hkr (fun i hi hlt2 => by have hi : i = E := hi; omega))
   have lE := hcE.lt
   clear hcE hcB hcG hr hkr hjd
   have c2 := HR.out.is.cell 2; have f2 := HR.out.is.free 2
   simp only [aZ, aS] at c2
   have hm := R2.miss HR.out
   have HCE1 := aP (HCE.out.kept hm.2 kom)
   have HCB1 := aP (HCB.out.kept hm.2 kom)
   have HR1 := aP (show RAt _ R v n T (st.1, true) from hm.1)
   have HK1 := aP ((show Kept (· = R) w wr from HK.out.any).trans hm.2)
   clear HCE HCB HR HK hm
   go_wp2_with (first | ((with_reducible refine atl ?_); (refine wpList_load_cells rfl 54 (.tmp 3) rfl (E) rfl _ Tryz.underlying54 rfl HCE1.out krf ?_)) | ((with_reducible refine ats ?_); (refine wpList_store_all rfl rfl 54 (.tmp 2) (.tmp 31) rfl (w.heap.size) rfl [.int .i64 0, .int .i64 LI, .int .i64 CO, .string ⟨#[]⟩, .int .i64 0, .slice none 0 0] rfl HCB1.out (by rfl) krf k1c ?_; intro W9 hB9 hk9; have HB9 := aP hB9; clear hB9)))
   have hR9 := R2.other HR1.out hk9 kom (fun g hg => by have := HVB.out g hg; omega)
   refine ret_box Tryz.results41 rfl HB9.out Tryz.underlying54 rfl krf rfl ⟨_, rfl, ?_, hR9, HK1.out.join hk9 (fun i hi hlt2 => by have hi : i = w.heap.size := hi; omega)⟩
   rw [HLI.out, HCO.out]
   exact DV.iff.2 ⟨_, rfl, RowV.nil _ _⟩
theorem rdecl_any (h : RAt w R v n T st) : Calls Tryz.prog 41 #[.pointer (some ⟨R, 0, none⟩)] w (ReadsD w R v n T (declR n T st)) := by
 have hle := dkUp_le (n := n) (T := T) (st := st) 6
 have hK : dkR n T st = 0 ∨ dkR n T st = 1 ∨ dkR n T st = 2 ∨ dkR n T st = 3 ∨ dkR n T st = 4 ∨ dkR n T st = 5 ∨ dkR n T st = 6 := by
  have : dkR n T st ≤ 6 := hle
  omega
 unfold declR
 rcases hK with hK | hK | hK | hK | hK | hK | hK
 ·rw [if_pos hK]; exact decl_none h hK
 ·rw [hK, if_neg (by decide), if_pos rfl]
  cases h2 : isR n T (muR n T (naR n T (nextR st)).2 ⟨#[61]⟩) ⟨#[45]⟩ with
  | true => rw [if_pos rfl]; exact decl_low h hK h2
  | false => rw [if_neg Bool.false_ne_true]; exact decl_var h hK h2
 ·rw [hK, if_neg (by decide), if_neg (by decide), if_pos (by decide)]
  exact decl_array h hK
 ·rw [hK, if_neg (by decide), if_neg (by decide), if_neg (by decide), if_neg (by decide)]
  exact decl_mutex h hK
 ·rw [hK, if_neg (by decide), if_neg (by decide), if_neg (by decide), if_neg (by decide)]
  exact decl_cond h hK
 ·rw [hK, if_neg (by decide), if_neg (by decide), if_pos (by decide)]
  exact decl_chan h hK
 ·rw [hK, if_neg (by decide), if_neg (by decide), if_neg (by decide), if_pos rfl]
  exact decl_thread h hK
end
end Go.Proofs.YtjkgepppoopheaaGreatDoor
