/- The document's reader of layer 2 at a statement: set, put (conditions: at most 1000000 words). -/
import Derived.Test.YtjkgepppoopheaaGreatDoorAbb
import Derived.Test.YtjkgepppoopheaaGreatDoorQ6
set_option maxRecDepth 100000
set_option maxHeartbeats 1000000
namespace Go.Proofs.YtjkgepppoopheaaGreatDoor
open Go.RowKit Go.Shelf
section
variable {R : Nat} {v : Value} {n : Nat} {T : Nat → TokD} {st : RS} {w : World}
theorem stmt_set (h : RAt w R v n T st) (hkn : st.1 ≤ n) (hK : kindR n T st = 0) (h2 : isR n T (naR n T st).2 ⟨#[91]⟩ = false) : Calls Tryz.prog 138 #[.pointer (some ⟨R, 0, none⟩)] w (ReadsS w R v n T (setR n T st (naR n T st))) := by
 have hfew := h.few
 have hRw := h.is.lt
 have HVB := aP h.own_lt
 have hkA : Kept noX w (w.alloc (.cells zeroSt.toArray 63)) := (Kept.refl _ _).alloc _
 have hszA : (w.alloc (.cells zeroSt.toArray 63)).heap.size = w.heap.size + 1 := by simp
 have HB := aP (Cells.fresh w 63 zeroSt)
 have HA := aP (h.keep hkA)
 have HKA := aP hkA
 have HKI := aP hK
 clear h hkA hK
 go_enter Tryz.func138, Tryz.ntmps138
 go_wp2_with fail
 refine (pos_any HA.out).mono ?_
 rintro e W1 ⟨rfl, hk1⟩
 have hs1 := hk1.size
 rw [hszA] at hs1
 obtain ⟨LI, hLI⟩ : ∃ x, x = lineOf n T st.1 := ⟨_, rfl⟩
 obtain ⟨CO, hCO⟩ : ∃ x, x = colOf n T st.1 := ⟨_, rfl⟩
 have HLI := aP hLI
 have HCO := aP hCO
 rw [← hLI, ← hCO]
 clear hLI hCO
 go_wp2_with ((with_reducible refine ats ?_); (refine wpList_store_all rfl rfl 63 (.tmp 3) (.tmp 9) rfl (W1.heap.size) rfl [.int .i64 0, .int .i64 LI, .int .i64 CO, .string ⟨#[]⟩, .string ⟨#[]⟩, .int .i64 0, .int .i64 0, .string ⟨#[]⟩, .int .i64 0, .bool false, .int .i64 0, .slice none 0 0, .int .i64 0, .int .i64 0, .string ⟨#[]⟩, .int .i64 0, .bool false, .int .i64 0, .slice none 0 0, .slice none 0 0, .slice none 0 0, .int .i64 0, .int .i64 0, .int .i64 0, .bool false] rfl (Cells.fresh W1 63 zeroSt) (by rfl) krf k1c ?_; intro W2 hB2 hk2; have HB2 := aP hB2; clear hB2))
 replace hk2 : Kept noX W1 W2 := ((Kept.refl noX W1).alloc _).own hk2 (Nat.le_refl _)
 have HE2 : Hid (Cells W2 W1.heap.size 63 (hdSt 0 LI CO)) := HB2
 have hs2 := hk2.size
 have hl2 := HB2.out.lt
 clear HB2
 refine (rkinds_any W2).mono ?_
 rintro e Wl ⟨rfl, hG, hk3⟩
 have hs3 := hk3.size
 obtain ⟨G, hGe⟩ : ∃ G, G = W2.heap.size := ⟨_, rfl⟩
 rw [← hGe] at hG ⊢
 have lG := hG.lt
 obtain ⟨E, hEe⟩ : ∃ E, E = W1.heap.size := ⟨_, rfl⟩
 rw [← hEe] at HE2 ⊢
 have hE1 : w.heap.size < E := by omega
 have hEG : E < G := by omega
 clear hl2
 have HKL := aP (((HKA.out.trans hk1).trans hk2).trans hk3)
 have HI0 := aP (show KdI R v n T st w.heap.size E G Wl (.int .i64 1) Wl from ⟨1, Nat.le_refl _, by decide, rfl, by rw [← HLI.out, ← HCO.out]; exact HE2.out.keep hk3, ((HB.out.keep hk1).keep hk2).keep hk3, hG, ((HA.out.keep hk1).keep hk2).keep hk3, Kept.refl _ _⟩)
 clear hk1 hk2 hk3 hG HE2 HB HA HKA hGe hEe hs1 hs2 hs3
 go_wp2_with fail
 go_loopw [5] (fun i wr => KdI R v n T st w.heap.size E G Wl i wr) (fun i _ => 16 - (intOf i).toNat)
 case atStart => exact HI0.out
 case round =>
  obtain ⟨j, hj1, hj16, rfl, hcE, hcB, hcG, hr, hkr⟩ := hrel
  rw [← HLI.out, ← HCO.out] at hcE
  by_cases hj : j < 16
  ·exact k_1
  ·obtain rfl : j = 16 := by omega
   have hjd : decide (((16 : Nat) : Int) < 16) = false := by simp
   have hcE : Cells wr E 63 (hdSt 0 LI CO) := by rw [show kindUp n T st (16 - 1) = 0 from HKI.out] at hcE; exact hcE
   have e0 := hcE.cell 0
   simp only [hdSt, List.cons_append, aZ] at e0
   have HCE := aP hcE; have HCB := aP hcB; have HR := aP hr
   have HK := aP (HKL.out.join hkr (fun i hi hlt2 => by have hi : i = E := hi; omega))
   have lE := hcE.lt
   clear hcE hcB hcG hr hkr hjd
   have HCE0 := aP (show Cells wr E 63 [.int .i64 0, .int .i64 LI, .int .i64 CO, .string ⟨#[]⟩, .string ⟨#[]⟩, .int .i64 0, .int .i64 0, .string ⟨#[]⟩, .int .i64 0, .bool false, .int .i64 0, .slice none 0 0, .int .i64 0, .int .i64 0, .string ⟨#[]⟩, .int .i64 0, .bool false, .int .i64 0, .slice none 0 0, .slice none 0 0, .slice none 0 0, .int .i64 0, .int .i64 0, .int .i64 0, .bool false] from HCE.out)
   have HCB0 := HCB
   have HR0 := HR
   have HK0 := aP (show Kept (· = R) w wr from HK.out.any)
   clear HCE HCB HR HK
   go_wp2_with fail
   refine (naR_any HR0.out).mono ?_
   rintro e W1 ⟨rfl, hr1, hk1⟩
   have hz1 := hk1.size
   have HR1 := aP hr1
   have HCE1 := aP (HCE0.out.kept hk1 kom)
   have HCB1 := aP (HCB0.out.kept hk1 kom)
   have HK1 := aP (HK0.out.trans hk1)
   clear hr1 hk1 HCE0 HCB0 HK0 HR0
   have d3 := HCE1.out.cell 3; have f3 := HCE1.out.free 3
   have d0 := HCE1.out.cell 0; have f0 := HCE1.out.free 0
   simp only [aZ, aS] at d3 d0
   go_wp2_with fail
   clear d3 f3 d0 f0
   obtain ⟨Wx2, hW2⟩ : ∃ W, W = W1.setCell ⟨E, 3, none⟩ (.string (naR n T st).1) := ⟨_, rfl⟩
   have hq2 : Kept (· = E) W1 Wx2 := by rw [hW2]; exact (Kept.refl _ _).setCell (fun _ => by rfl) _
   have HCE2 := aP (show Cells Wx2 E 63 [.int .i64 0, .int .i64 LI, .int .i64 CO, .string (naR n T st).1, .string ⟨#[]⟩, .int .i64 0, .int .i64 0, .string ⟨#[]⟩, .int .i64 0, .bool false, .int .i64 0, .slice none 0 0, .int .i64 0, .int .i64 0, .string ⟨#[]⟩, .int .i64 0, .bool false, .int .i64 0, .slice none 0 0, .slice none 0 0, .slice none 0 0, .int .i64 0, .int .i64 0, .int .i64 0, .bool false] from by rw [hW2]; exact HCE1.out.put 3 _)
   rw [← hW2]
   have hz2 := hq2.size
   have HR2 := aP (R2.other HR1.out hq2 kom (fun g hg => by have := HVB.out g hg; omega))
   have HCB2 := aP (HCB1.out.kept hq2 kom)
   have HK2 := aP (HK1.out.join hq2 (fun i hi hlt2 => by have hi : i = E := hi; omega))
   clear hW2 hq2 HCE1 HCB1 HK1 HR1
   obtain ⟨Wx3, hW3⟩ : ∃ W, W = Wx2.setCell ⟨E, 0, none⟩ (.int .i64 2) := ⟨_, rfl⟩
   have hq3 : Kept (· = E) Wx2 Wx3 := by rw [hW3]; exact (Kept.refl _ _).setCell (fun _ => by rfl) _
   have HCE3 := aP (show Cells Wx3 E 63 [.int .i64 2, .int .i64 LI, .int .i64 CO, .string (naR n T st).1, .string ⟨#[]⟩, .int .i64 0, .int .i64 0, .string ⟨#[]⟩, .int .i64 0, .bool false, .int .i64 0, .slice none 0 0, .int .i64 0, .int .i64 0, .string ⟨#[]⟩, .int .i64 0, .bool false, .int .i64 0, .slice none 0 0, .slice none 0 0, .slice none 0 0, .int .i64 0, .int .i64 0, .int .i64 0, .bool false] from by rw [hW3]; exact HCE2.out.put 0 _)
   rw [← hW3]
   have hz3 := hq3.size
   have HR3 := aP (R2.other HR2.out hq3 kom (fun g hg => by have := HVB.out g hg; omega))
   have HCB3 := aP (HCB2.out.kept hq3 kom)
   have HK3 := aP (HK2.out.join hq3 (fun i hi hlt2 => by have hi : i = E := hi; omega))
   clear hW3 hq3 HCE2 HCB2 HK2 HR2
   refine (tkR_no HR3.out h2).mono ?_
   rintro e W4 ⟨rfl, hr4, hk4⟩
   have hz4 := hk4.size
   have HR4 := aP hr4
   have HCE4 := aP (HCE3.out.kept hk4 kom)
   have HCB4 := aP (HCB3.out.kept hk4 kom)
   have HK4 := aP (HK3.out.trans hk4)
   clear hr4 hk4 HCE3 HCB3 HK3 HR3
   go_wp2_with fail
   refine (muR_any HR4.out ⟨#[61]⟩).mono ?_
   rintro e W5 ⟨rfl, hr5, hk5⟩
   have hz5 := hk5.size
   have HR5 := aP hr5
   have HCE5 := aP (HCE4.out.kept hk5 kom)
   have HCB5 := aP (HCB4.out.kept hk5 kom)
   have HK5 := aP (HK4.out.trans hk5)
   clear hr5 hk5 HCE4 HCB4 HK4 HR4
   go_wp2_with fail
   have lw6 : E < W5.heap.size := HCE5.out.lt
   refine (exR_any HR5.out (((naR_on (T := T) st).trans (muR_on _ _)).2 hkn)).mono ?_
   rintro e W6 ⟨cs6, rfl, hev6, hr6, hk6⟩
   have hz6 := hk6.size
   obtain ⟨ka, ma, sa, sla, loa, oa, Aa, Na, Ca, rfl⟩ := hev6.form
   have HTa_6 := aP (show EV W6 (fun g => g < E + 1) _ (exR n T (muR n T (naR n T st).2 ⟨#[61]⟩)).1 from hev6.mono (fun g _ h => by have h : g < E + 1 := h; show g < W5.heap.size; omega))
   clear hev6
   have HR6 := aP hr6
   have HCE6 := aP (HCE5.out.kept hk6 kom)
   have HCB6 := aP (HCB5.out.kept hk6 kom)
   have HK6 := aP (HK5.out.trans hk6)
   clear hr6 hk6 HCE5 HCB5 HK5 HR5
   go_wp2_with ((with_reducible refine ats ?_); (refine wpList_store_part rfl rfl 44 (.tmp 90) (.tmp 89) rfl (E) 5 rfl [.int .i64 ka, .int .i64 ma, .string sa, .int .i64 sla, .bool loa, .int .i64 oa, .slice Aa Na Ca] rfl HCE6.out kle krf k1c ?_; intro W700 hB700 hk700; replace hB700 : Cells W700 (E) 63 [.int .i64 2, .int .i64 LI, .int .i64 CO, .string (naR n T st).1, .string ⟨#[]⟩, .int .i64 ka, .int .i64 ma, .string sa, .int .i64 sla, .bool loa, .int .i64 oa, .slice Aa Na Ca, .int .i64 0, .int .i64 0, .string ⟨#[]⟩, .int .i64 0, .bool false, .int .i64 0, .slice none 0 0, .slice none 0 0, .slice none 0 0, .int .i64 0, .int .i64 0, .int .i64 0, .bool false] := (by simpa using hB700); have HB700 := aP hB700; clear hB700))
   have HCE7 := HB700
   have hz7 := hk700.size
   have HR7 := aP (R2.other HR6.out hk700 kom (fun g hg => by have := HVB.out g hg; omega))
   have HCB7 := aP (HCB6.out.kept hk700 kom)
   have HK7 := aP (HK6.out.join hk700 (fun i hi hlt2 => by have hi : i = E := hi; omega))
   have HTa_7 := aP (HTa_6.out.kept hk700 (fun g _ h => by have h : g = E := h; show g < E + 1; omega))
   clear HB700 hk700 HCE6 HCB6 HK6 HR6 HTa_6
   refine (muR_any HR7.out ⟨#[59]⟩).mono ?_
   rintro e W8 ⟨rfl, hr8, hk8⟩
   have hz8 := hk8.size
   have HR8 := aP hr8
   have HCE8 := aP (HCE7.out.kept hk8 kom)
   have HCB8 := aP (HCB7.out.kept hk8 kom)
   have HK8 := aP (HK7.out.trans hk8)
   have HTa_8 := aP (HTa_7.out.kept hk8 (fun g _ h => by have h : g = R := h; show g < E + 1; omega))
   clear hr8 hk8 HCE7 HCB7 HK7 HR7 HTa_7
   go_wp2_with (first | ((with_reducible refine atl ?_); (refine wpList_load_cells rfl 63 (.tmp 3) rfl (E) rfl _ Tryz.underlying63 rfl HCE8.out krf ?_)) | ((with_reducible refine ats ?_); (refine wpList_store_all rfl rfl 63 (.tmp 2) (.tmp 112) rfl (w.heap.size) rfl [.int .i64 2, .int .i64 LI, .int .i64 CO, .string (naR n T st).1, .string ⟨#[]⟩, .int .i64 ka, .int .i64 ma, .string sa, .int .i64 sla, .bool loa, .int .i64 oa, .slice Aa Na Ca, .int .i64 0, .int .i64 0, .string ⟨#[]⟩, .int .i64 0, .bool false, .int .i64 0, .slice none 0 0, .slice none 0 0, .slice none 0 0, .int .i64 0, .int .i64 0, .int .i64 0, .bool false] rfl HCB8.out (by rfl) krf k1c ?_; intro W9 hB9 hk9; have HB9 := aP hB9; clear hB9)))
   have HTa_9 := (HTa_8.out.kept hk9 (fun g _ h => by have h : g = w.heap.size := h; show g < E + 1; omega)).mono (Z' := fun g => g < w.heap.size) (fun g _ h => by have h : g < w.heap.size := h; show g < E + 1; omega)
   have hR9 := R2.other HR8.out hk9 kom (fun g hg => by have := HVB.out g hg; omega)
   refine ret_box Tryz.results138 rfl HB9.out Tryz.underlying63 rfl krf rfl ⟨_, rfl, ?_, hR9, HK8.out.join hk9 (fun i hi hlt2 => by have hi : i = w.heap.size := hi; omega)⟩
   rw [HLI.out, HCO.out]
   exact SV.iff.2 ⟨_, _, _, _, rfl, HTa_9, (EV.leaf _ _ 0 0 ⟨#[]⟩ 0), (RowV.nil _ _), (RowV.nil _ _)⟩
theorem stmt_put (h : RAt w R v n T st) (hK : kindR n T st = 0) (h2 : isR n T (naR n T st).2 ⟨#[91]⟩ = true) : Calls Tryz.prog 138 #[.pointer (some ⟨R, 0, none⟩)] w (ReadsS w R v n T (putR n T st (naR n T st) (exR n T (nextR (naR n T st).2)))) := by
 have hfew := h.few
 have hRw := h.is.lt
 have HVB := aP h.own_lt
 have hkA : Kept noX w (w.alloc (.cells zeroSt.toArray 63)) := (Kept.refl _ _).alloc _
 have hszA : (w.alloc (.cells zeroSt.toArray 63)).heap.size = w.heap.size + 1 := by simp
 have HB := aP (Cells.fresh w 63 zeroSt)
 have HA := aP (h.keep hkA)
 have HKA := aP hkA
 have HKI := aP hK
 clear h hkA hK
 go_enter Tryz.func138, Tryz.ntmps138
 go_wp2_with fail
 refine (pos_any HA.out).mono ?_
 rintro e W1 ⟨rfl, hk1⟩
 have hs1 := hk1.size
 rw [hszA] at hs1
 obtain ⟨LI, hLI⟩ : ∃ x, x = lineOf n T st.1 := ⟨_, rfl⟩
 obtain ⟨CO, hCO⟩ : ∃ x, x = colOf n T st.1 := ⟨_, rfl⟩
 have HLI := aP hLI
 have HCO := aP hCO
 rw [← hLI, ← hCO]
 clear hLI hCO
 go_wp2_with ((with_reducible refine ats ?_); (refine wpList_store_all rfl rfl 63 (.tmp 3) (.tmp 9) rfl (W1.heap.size) rfl [.int .i64 0, .int .i64 LI, .int .i64 CO, .string ⟨#[]⟩, .string ⟨#[]⟩, .int .i64 0, .int .i64 0, .string ⟨#[]⟩, .int .i64 0, .bool false, .int .i64 0, .slice none 0 0, .int .i64 0, .int .i64 0, .string ⟨#[]⟩, .int .i64 0, .bool false, .int .i64 0, .slice none 0 0, .slice none 0 0, .slice none 0 0, .int .i64 0, .int .i64 0, .int .i64 0, .bool false] rfl (Cells.fresh W1 63 zeroSt) (by rfl) krf k1c ?_; intro W2 hB2 hk2; have HB2 := aP hB2; clear hB2))
 replace hk2 : Kept noX W1 W2 := ((Kept.refl noX W1).alloc _).own hk2 (Nat.le_refl _)
 have HE2 : Hid (Cells W2 W1.heap.size 63 (hdSt 0 LI CO)) := HB2
 have hs2 := hk2.size
 have hl2 := HB2.out.lt
 clear HB2
 refine (rkinds_any W2).mono ?_
 rintro e Wl ⟨rfl, hG, hk3⟩
 have hs3 := hk3.size
 obtain ⟨G, hGe⟩ : ∃ G, G = W2.heap.size := ⟨_, rfl⟩
 rw [← hGe] at hG ⊢
 have lG := hG.lt
 obtain ⟨E, hEe⟩ : ∃ E, E = W1.heap.size := ⟨_, rfl⟩
 rw [← hEe] at HE2 ⊢
 have hE1 : w.heap.size < E := by omega
 have hEG : E < G := by omega
 clear hl2
 have HKL := aP (((HKA.out.trans hk1).trans hk2).trans hk3)
 have HI0 := aP (show KdI R v n T st w.heap.size E G Wl (.int .i64 1) Wl from ⟨1, Nat.le_refl _, by decide, rfl, by rw [← HLI.out, ← HCO.out]; exact HE2.out.keep hk3, ((HB.out.keep hk1).keep hk2).keep hk3, hG, ((HA.out.keep hk1).keep hk2).keep hk3, Kept.refl _ _⟩)
 clear hk1 hk2 hk3 hG HE2 HB HA HKA hGe hEe hs1 hs2 hs3
 go_wp2_with fail
 go_loopw [5] (fun i wr => KdI R v n T st w.heap.size E G Wl i wr) (fun i _ => 16 - (intOf i).toNat)
 case atStart => exact HI0.out
 case round =>
  obtain ⟨j, hj1, hj16, rfl, hcE, hcB, hcG, hr, hkr⟩ := hrel
  rw [← HLI.out, ← HCO.out] at hcE
  by_cases hj : j < 16
  ·exact k_1
  ·obtain rfl : j = 16 := by omega
   have hjd : decide (((16 : Nat) : Int) < 16) = false := by simp
   have hcE : Cells wr E 63 (hdSt 0 LI CO) := by rw [show kindUp n T st (16 - 1) = 0 from HKI.out] at hcE; exact hcE
   have e0 := hcE.cell 0
   simp only [hdSt, List.cons_append, aZ] at e0
   have HCE := aP hcE; have HCB := aP hcB; have HR := aP hr
   have HK := aP (HKL.out.join hkr (fun i hi hlt2 => by have hi : i = E := hi; omega))
   have lE := hcE.lt
   clear hcE hcB hcG hr hkr hjd
   have HCE0 := aP (show Cells wr E 63 [.int .i64 0, .int .i64 LI, .int .i64 CO, .string ⟨#[]⟩, .string ⟨#[]⟩, .int .i64 0, .int .i64 0, .string ⟨#[]⟩, .int .i64 0, .bool false, .int .i64 0, .slice none 0 0, .int .i64 0, .int .i64 0, .string ⟨#[]⟩, .int .i64 0, .bool false, .int .i64 0, .slice none 0 0, .slice none 0 0, .slice none 0 0, .int .i64 0, .int .i64 0, .int .i64 0, .bool false] from HCE.out)
   have HCB0 := HCB
   have HR0 := HR
   have HK0 := aP (show Kept (· = R) w wr from HK.out.any)
   clear HCE HCB HR HK
   go_wp2_with fail
   refine (naR_any HR0.out).mono ?_
   rintro e W1 ⟨rfl, hr1, hk1⟩
   have hz1 := hk1.size
   have HR1 := aP hr1
   have HCE1 := aP (HCE0.out.kept hk1 kom)
   have HCB1 := aP (HCB0.out.kept hk1 kom)
   have HK1 := aP (HK0.out.trans hk1)
   clear hr1 hk1 HCE0 HCB0 HK0 HR0
   have d3 := HCE1.out.cell 3; have f3 := HCE1.out.free 3
   have d0 := HCE1.out.cell 0; have f0 := HCE1.out.free 0
   simp only [aZ, aS] at d3 d0
   go_wp2_with fail
   clear d3 f3 d0 f0
   obtain ⟨Wx2, hW2⟩ : ∃ W, W = W1.setCell ⟨E, 3, none⟩ (.string (naR n T st).1) := ⟨_, rfl⟩
   have hq2 : Kept (· = E) W1 Wx2 := by rw [hW2]; exact (Kept.refl _ _).setCell (fun _ => by rfl) _
   have HCE2 := aP (show Cells Wx2 E 63 [.int .i64 0, .int .i64 LI, .int .i64 CO, .string (naR n T st).1, .string ⟨#[]⟩, .int .i64 0, .int .i64 0, .string ⟨#[]⟩, .int .i64 0, .bool false, .int .i64 0, .slice none 0 0, .int .i64 0, .int .i64 0, .string ⟨#[]⟩, .int .i64 0, .bool false, .int .i64 0, .slice none 0 0, .slice none 0 0, .slice none 0 0, .int .i64 0, .int .i64 0, .int .i64 0, .bool false] from by rw [hW2]; exact HCE1.out.put 3 _)
   rw [← hW2]
   have hz2 := hq2.size
   have HR2 := aP (R2.other HR1.out hq2 kom (fun g hg => by have := HVB.out g hg; omega))
   have HCB2 := aP (HCB1.out.kept hq2 kom)
   have HK2 := aP (HK1.out.join hq2 (fun i hi hlt2 => by have hi : i = E := hi; omega))
   clear hW2 hq2 HCE1 HCB1 HK1 HR1
   obtain ⟨Wx3, hW3⟩ : ∃ W, W = Wx2.setCell ⟨E, 0, none⟩ (.int .i64 2) := ⟨_, rfl⟩
   have hq3 : Kept (· = E) Wx2 Wx3 := by rw [hW3]; exact (Kept.refl _ _).setCell (fun _ => by rfl) _
   have HCE3 := aP (show Cells Wx3 E 63 [.int .i64 2, .int .i64 LI, .int .i64 CO, .string (naR n T st).1, .string ⟨#[]⟩, .int .i64 0, .int .i64 0, .string ⟨#[]⟩, .int .i64 0, .bool false, .int .i64 0, .slice none 0 0, .int .i64 0, .int .i64 0, .string ⟨#[]⟩, .int .i64 0, .bool false, .int .i64 0, .slice none 0 0, .slice none 0 0, .slice none 0 0, .int .i64 0, .int .i64 0, .int .i64 0, .bool false] from by rw [hW3]; exact HCE2.out.put 0 _)
   rw [← hW3]
   have hz3 := hq3.size
   have HR3 := aP (R2.other HR2.out hq3 kom (fun g hg => by have := HVB.out g hg; omega))
   have HCB3 := aP (HCB2.out.kept hq3 kom)
   have HK3 := aP (HK2.out.join hq3 (fun i hi hlt2 => by have hi : i = E := hi; omega))
   clear hW3 hq3 HCE2 HCB2 HK2 HR2
   refine (tkR_yes HR3.out h2).mono ?_
   rintro e W4 ⟨rfl, hr4, hk4⟩
   have hz4 := hk4.size
   have HR4 := aP hr4
   have HCE4 := aP (HCE3.out.kept hk4 kom)
   have HCB4 := aP (HCB3.out.kept hk4 kom)
   have HK4 := aP (HK3.out.trans hk4)
   clear hr4 hk4 HCE3 HCB3 HK3 HR3
   have d0 := HCE4.out.cell 0; have f0 := HCE4.out.free 0
   simp only [aZ] at d0
   go_wp2_with fail
   clear d0 f0
   obtain ⟨Wx5, hW5⟩ : ∃ W, W = W4.setCell ⟨E, 0, none⟩ (.int .i64 3) := ⟨_, rfl⟩
   have hq5 : Kept (· = E) W4 Wx5 := by rw [hW5]; exact (Kept.refl _ _).setCell (fun _ => by rfl) _
   have HCE5 := aP (show Cells Wx5 E 63 [.int .i64 3, .int .i64 LI, .int .i64 CO, .string (naR n T st).1, .string ⟨#[]⟩, .int .i64 0, .int .i64 0, .string ⟨#[]⟩, .int .i64 0, .bool false, .int .i64 0, .slice none 0 0, .int .i64 0, .int .i64 0, .string ⟨#[]⟩, .int .i64 0, .bool false, .int .i64 0, .slice none 0 0, .slice none 0 0, .slice none 0 0, .int .i64 0, .int .i64 0, .int .i64 0, .bool false] from by rw [hW5]; exact HCE4.out.put 0 _)
   rw [← hW5]
   have hz5 := hq5.size
   have HR5 := aP (R2.other HR4.out hq5 kom (fun g hg => by have := HVB.out g hg; omega))
   have HCB5 := aP (HCB4.out.kept hq5 kom)
   have HK5 := aP (HK4.out.join hq5 (fun i hi hlt2 => by have hi : i = E := hi; omega))
   clear hW5 hq5 HCE4 HCB4 HK4 HR4
   have lw6 : E < Wx5.heap.size := HCE5.out.lt
   refine (exR_any HR5.out (isR_lt h2).1).mono ?_
   rintro e W6 ⟨cs6, rfl, hev6, hr6, hk6⟩
   have hz6 := hk6.size
   obtain ⟨kb, mb, sb, slb, lob, ob, Ab, Nb, Cb, rfl⟩ := hev6.form
   have HTb_6 := aP (show EV W6 (fun g => g < E + 1) _ (exR n T (nextR (naR n T st).2)).1 from hev6.mono (fun g _ h => by have h : g < E + 1 := h; show g < Wx5.heap.size; omega))
   clear hev6
   have HR6 := aP hr6
   have HCE6 := aP (HCE5.out.kept hk6 kom)
   have HCB6 := aP (HCB5.out.kept hk6 kom)
   have HK6 := aP (HK5.out.trans hk6)
   clear hr6 hk6 HCE5 HCB5 HK5 HR5
   go_wp2_with ((with_reducible refine ats ?_); (refine wpList_store_part rfl rfl 44 (.tmp 83) (.tmp 82) rfl (E) 12 rfl [.int .i64 kb, .int .i64 mb, .string sb, .int .i64 slb, .bool lob, .int .i64 ob, .slice Ab Nb Cb] rfl HCE6.out kle krf k1c ?_; intro W700 hB700 hk700; replace hB700 : Cells W700 (E) 63 [.int .i64 3, .int .i64 LI, .int .i64 CO, .string (naR n T st).1, .string ⟨#[]⟩, .int .i64 0, .int .i64 0, .string ⟨#[]⟩, .int .i64 0, .bool false, .int .i64 0, .slice none 0 0, .int .i64 kb, .int .i64 mb, .string sb, .int .i64 slb, .bool lob, .int .i64 ob, .slice Ab Nb Cb, .slice none 0 0, .slice none 0 0, .int .i64 0, .int .i64 0, .int .i64 0, .bool false] := (by simpa using hB700); have HB700 := aP hB700; clear hB700))
   have HCE7 := HB700
   have hz7 := hk700.size
   have HR7 := aP (R2.other HR6.out hk700 kom (fun g hg => by have := HVB.out g hg; omega))
   have HCB7 := aP (HCB6.out.kept hk700 kom)
   have HK7 := aP (HK6.out.join hk700 (fun i hi hlt2 => by have hi : i = E := hi; omega))
   have HTb_7 := aP (HTb_6.out.kept hk700 (fun g _ h => by have h : g = E := h; show g < E + 1; omega))
   clear HB700 hk700 HCE6 HCB6 HK6 HR6 HTb_6
   refine (muR_any HR7.out ⟨#[93]⟩).mono ?_
   rintro e W8 ⟨rfl, hr8, hk8⟩
   have hz8 := hk8.size
   have HR8 := aP hr8
   have HCE8 := aP (HCE7.out.kept hk8 kom)
   have HCB8 := aP (HCB7.out.kept hk8 kom)
   have HK8 := aP (HK7.out.trans hk8)
   have HTb_8 := aP (HTb_7.out.kept hk8 (fun g _ h => by have h : g = R := h; show g < E + 1; omega))
   clear hr8 hk8 HCE7 HCB7 HK7 HR7 HTb_7
   go_wp2_with fail
   refine (muR_any HR8.out ⟨#[61]⟩).mono ?_
   rintro e W9 ⟨rfl, hr9, hk9⟩
   have hz9 := hk9.size
   have HR9 := aP hr9
   have HCE9 := aP (HCE8.out.kept hk9 kom)
   have HCB9 := aP (HCB8.out.kept hk9 kom)
   have HK9 := aP (HK8.out.trans hk9)
   have HTb_9 := aP (HTb_8.out.kept hk9 (fun g _ h => by have h : g = R := h; show g < E + 1; omega))
   clear hr9 hk9 HCE8 HCB8 HK8 HR8 HTb_8
   go_wp2_with fail
   have lw10 : E < W9.heap.size := HCE9.out.lt
   refine (exR_any HR9.out (((exR_on (T := T) (nextR (naR n T st).2)).trans ((muR_on _ _).trans (muR_on _ _))).2 (isR_lt h2).1)).mono ?_
   rintro e W10 ⟨cs10, rfl, hev10, hr10, hk10⟩
   have hz10 := hk10.size
   obtain ⟨ka, ma, sa, sla, loa, oa, Aa, Na, Ca, rfl⟩ := hev10.form
   have HTa_10 := aP (show EV W10 (fun g => g < E + 1) _ (exR n T (muR n T (muR n T (exR n T (nextR (naR n T st).2)).2 ⟨#[93]⟩) ⟨#[61]⟩)).1 from hev10.mono (fun g _ h => by have h : g < E + 1 := h; show g < W9.heap.size; omega))
   clear hev10
   have HR10 := aP hr10
   have HCE10 := aP (HCE9.out.kept hk10 kom)
   have HCB10 := aP (HCB9.out.kept hk10 kom)
   have HK10 := aP (HK9.out.trans hk10)
   have HTb_10 := aP (HTb_9.out.kept hk10 (fun g _ h => by have h : g = R := h; show g < E + 1; omega))
   clear hr10 hk10 HCE9 HCB9 HK9 HR9 HTb_9
   go_wp2_with ((with_reducible refine ats ?_); (refine wpList_store_part rfl rfl 44 (.tmp 90) (.tmp 89) rfl (E) 5 rfl [.int .i64 ka, .int .i64 ma, .string sa, .int .i64 sla, .bool loa, .int .i64 oa, .slice Aa Na Ca] rfl HCE10.out kle krf k1c ?_; intro W1100 hB1100 hk1100; replace hB1100 : Cells W1100 (E) 63 [.int .i64 3, .int .i64 LI, .int .i64 CO, .string (naR n T st).1, .string ⟨#[]⟩, .int .i64 ka, .int .i64 ma, .string sa, .int .i64 sla, .bool loa, .int .i64 oa, .slice Aa Na Ca, .int .i64 kb, .int .i64 mb, .string sb, .int .i64 slb, .bool lob, .int .i64 ob, .slice Ab Nb Cb, .slice none 0 0, .slice none 0 0, .int .i64 0, .int .i64 0, .int .i64 0, .bool false] := (by simpa using hB1100); have HB1100 := aP hB1100; clear hB1100))
   have HCE11 := HB1100
   have hz11 := hk1100.size
   have HR11 := aP (R2.other HR10.out hk1100 kom (fun g hg => by have := HVB.out g hg; omega))
   have HCB11 := aP (HCB10.out.kept hk1100 kom)
   have HK11 := aP (HK10.out.join hk1100 (fun i hi hlt2 => by have hi : i = E := hi; omega))
   have HTb_11 := aP (HTb_10.out.kept hk1100 (fun g _ h => by have h : g = E := h; show g < E + 1; omega))
   have HTa_11 := aP (HTa_10.out.kept hk1100 (fun g _ h => by have h : g = E := h; show g < E + 1; omega))
   clear HB1100 hk1100 HCE10 HCB10 HK10 HR10 HTb_10 HTa_10
   refine (muR_any HR11.out ⟨#[59]⟩).mono ?_
   rintro e W12 ⟨rfl, hr12, hk12⟩
   have hz12 := hk12.size
   have HR12 := aP hr12
   have HCE12 := aP (HCE11.out.kept hk12 kom)
   have HCB12 := aP (HCB11.out.kept hk12 kom)
   have HK12 := aP (HK11.out.trans hk12)
   have HTb_12 := aP (HTb_11.out.kept hk12 (fun g _ h => by have h : g = R := h; show g < E + 1; omega))
   have HTa_12 := aP (HTa_11.out.kept hk12 (fun g _ h => by have h : g = R := h; show g < E + 1; omega))
   clear hr12 hk12 HCE11 HCB11 HK11 HR11 HTb_11 HTa_11
   go_wp2_with (first | ((with_reducible refine atl ?_); (refine wpList_load_cells rfl 63 (.tmp 3) rfl (E) rfl _ Tryz.underlying63 rfl HCE12.out krf ?_)) | ((with_reducible refine ats ?_); (refine wpList_store_all rfl rfl 63 (.tmp 2) (.tmp 112) rfl (w.heap.size) rfl [.int .i64 3, .int .i64 LI, .int .i64 CO, .string (naR n T st).1, .string ⟨#[]⟩, .int .i64 ka, .int .i64 ma, .string sa, .int .i64 sla, .bool loa, .int .i64 oa, .slice Aa Na Ca, .int .i64 kb, .int .i64 mb, .string sb, .int .i64 slb, .bool lob, .int .i64 ob, .slice Ab Nb Cb, .slice none 0 0, .slice none 0 0, .int .i64 0, .int .i64 0, .int .i64 0, .bool false] rfl HCB12.out (by rfl) krf k1c ?_; intro W9 hB9 hk9; have HB9 := aP hB9; clear hB9)))
   have HTb_9 := (HTb_12.out.kept hk9 (fun g _ h => by have h : g = w.heap.size := h; show g < E + 1; omega)).mono (Z' := fun g => g < w.heap.size) (fun g _ h => by have h : g < w.heap.size := h; show g < E + 1; omega)
   have HTa_9 := (HTa_12.out.kept hk9 (fun g _ h => by have h : g = w.heap.size := h; show g < E + 1; omega)).mono (Z' := fun g => g < w.heap.size) (fun g _ h => by have h : g < w.heap.size := h; show g < E + 1; omega)
   have hR9 := R2.other HR12.out hk9 kom (fun g hg => by have := HVB.out g hg; omega)
   refine ret_box Tryz.results138 rfl HB9.out Tryz.underlying63 rfl krf rfl ⟨_, rfl, ?_, hR9, HK12.out.join hk9 (fun i hi hlt2 => by have hi : i = w.heap.size := hi; omega)⟩
   rw [HLI.out, HCO.out]
   exact SV.iff.2 ⟨_, _, _, _, rfl, HTa_9, HTb_9, (RowV.nil _ _), (RowV.nil _ _)⟩
end
end Go.Proofs.YtjkgepppoopheaaGreatDoor
