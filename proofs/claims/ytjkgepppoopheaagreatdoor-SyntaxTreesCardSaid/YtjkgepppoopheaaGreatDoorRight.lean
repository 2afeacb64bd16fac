/- The document's question whether an expression may be, kind by kind (conditions: names fit an int). -/
import Derived.Test.YtjkgepppoopheaaGreatDoorG35
import Derived.Test.YtjkgepppoopheaaGreatDoorLift0
namespace Go.Proofs.YtjkgepppoopheaaGreatDoor
open Go.RowKit Go.Shelf

/-- The parts' own answers. -/
abbrev RightC (d : Nat) : Prop := ∀ (e : ET) (cs : List Value) (w : World), EV w noX cs e → SmE e → Calls Tryz.prog 27 #[.agg cs.toArray, .int .i64 (d : Nat)] w (Says w (mayE d e))

section
variable {d : Nat} (hd : d ≤ 1000) {m : Int} {s : ByteArray} {sl : Int} {lo : Bool} {o : Int} {l : List ET} {v : Value} {w : World} (hv : RowV w noX v (ET.ds l)) (E : Bool)
include hd hv
set_option maxRecDepth 100000 in
set_option maxHeartbeats 1000000 in
theorem rright_num (HE : Hid (E = (s.toList.isEmpty && (o == 0) && decide (0 ≤ m) && decide (m ≤ 2147483647) && decide (l.length = 0)))) :
    Calls Tryz.prog 27 #[.agg #[.int .i64 1, .int .i64 m, .string s, .int .i64 sl, .bool lo, .int .i64 o, v], .int .i64 ((d + 1 : Nat) : Int)] w (Says w E) := by
  have ih : True := trivial
  have hsm : True := trivial
  obtain ⟨A, n, c, rfl, hn, hnc, hcm⟩ := hv.form
  rw [ET.ds_length] at hn
  subst hn
  unfold maxLen at hcm
  obtain ⟨D, hD⟩ : ∃ D : Int, D = ((d + 1 : Nat) : Int) := ⟨_, rfl⟩
  have hd0 : decide (D < 1) = false := by simp; omega
  have hd1 : wrap64 (D - 1) = (d : Nat) := by unfold wrap64; omega
  rw [← hD]
  clear hD
  have HV := Lib.hid hv
  have HIH := Lib.hid ih
  have HSM := Lib.hid hsm
  clear hv ih hsm
  obtain ⟨w0, hw0⟩ : ∃ w0, w0 = w.alloc (.cells #[.int .i64 1, .int .i64 m, .string s, .int .i64 sl, .bool lo, .int .i64 o, .slice A l.length c] 44) := ⟨_, rfl⟩
  have hkw : Kept noX w w0 := by rw [hw0]; exact (Kept.refl _ _).alloc _
  have HB := Lib.hid (show Cells w0 w.heap.size 44 [.int .i64 1, .int .i64 m, .string s, .int .i64 sl, .bool lo, .int .i64 o, .slice A l.length c] from by rw [hw0]; exact Cells.fresh w 44 _)
  have e0 := HB.out.cell 0; have e1 := HB.out.cell 1; have e2 := HB.out.cell 2; have e5 := HB.out.cell 5; have e6 := HB.out.cell 6
  simp only [List.getElem?_cons_zero, List.getElem?_cons_succ] at e0 e1 e2 e5 e6
  cases hs : s.toList.isEmpty with
  | false =>
    have HF : Hid (E = false) := Lib.hid (HE.out.trans (by rw [hs] <;> rfl))
    go_enter Tryz.func27, Tryz.ntmps27
    go_wp2
    go_ret
    exact ⟨by rw [HF.out]; rfl, (Kept.refl _ _).alloc _⟩
  | true =>
  cases ho : (o == 0) with
  | false =>
    have ho1 : (o != 0) = !(o == 0) := rfl
    rw [ho] at ho1
    have HF : Hid (E = false) := Lib.hid (HE.out.trans (by rw [hs, ho] <;> rfl))
    go_enter Tryz.func27, Tryz.ntmps27
    go_wp2
    go_ret
    exact ⟨by rw [HF.out]; rfl, (Kept.refl _ _).alloc _⟩
  | true =>
  have ho1 : (o != 0) = !(o == 0) := rfl
  rw [ho] at ho1
  cases h0 : decide (0 ≤ m) with
  | false =>
    have HF : Hid (E = false) := Lib.hid (HE.out.trans (by rw [hs, ho, h0] <;> rfl))
    go_enter Tryz.func27, Tryz.ntmps27
    go_wp2
    go_ret
    exact ⟨by rw [HF.out]; rfl, (Kept.refl _ _).alloc _⟩
  | true =>
  cases h1 : decide (m ≤ 2147483647) with
  | false =>
    have HF : Hid (E = false) := Lib.hid (HE.out.trans (by rw [hs, ho, h0, h1] <;> rfl))
    go_enter Tryz.func27, Tryz.ntmps27
    go_wp2
    go_ret
    exact ⟨by rw [HF.out]; rfl, (Kept.refl _ _).alloc _⟩
  | true =>
  cases hln : decide (l.length = 0) with
  | false =>
    have hl1 : ((l.length : Int) != 0) = !decide (l.length = 0) := by
      by_cases h : l.length = 0
      · rw [decide_eq_true h, h]; rfl
      · rw [decide_eq_false h]
        exact bne_iff_ne.2 (fun h2 => h (by omega))
    have hl2 : (l.length != 0) = !decide (l.length = 0) := rfl
    rw [hln] at hl1 hl2
    have HF : Hid (E = false) := Lib.hid (HE.out.trans (by rw [hs, ho, h0, h1, hln] <;> rfl))
    go_enter Tryz.func27, Tryz.ntmps27
    go_wp2
    go_ret
    exact ⟨by rw [HF.out]; rfl, (Kept.refl _ _).alloc _⟩
  | true =>
  have hl1 : ((l.length : Int) != 0) = !decide (l.length = 0) := by
    by_cases h : l.length = 0
    · rw [decide_eq_true h, h]; rfl
    · rw [decide_eq_false h]
      exact bne_iff_ne.2 (fun h2 => h (by omega))
  have hl2 : (l.length != 0) = !decide (l.length = 0) := rfl
  rw [hln] at hl1 hl2
  have HF : Hid (E = true) := Lib.hid (HE.out.trans (by rw [hs, ho, h0, h1, hln] <;> rfl))
  go_enter Tryz.func27, Tryz.ntmps27
  go_wp2_with fail
  rw [← hw0]
  clear hw0
  go_loopw [7] (fun i wr => i = .int .i64 0 ∧ wr = w0) (fun _ _ => 0)
  case atStart => exact ⟨rfl, rfl⟩
  case round =>
    obtain ⟨rfl, rfl⟩ := hrel
    go_wp2
    go_ret
    exact ⟨by rw [HF.out]; rfl, hkw⟩
set_option maxRecDepth 100000 in
set_option maxHeartbeats 1000000 in
theorem rright_name (hs : s.size ≤ 9223372036854775807) (HE : Hid (E = ((m == 0) && (o == 0) && nameIs s.data.toList && decide (l.length = 0)))) :
    Calls Tryz.prog 27 #[.agg #[.int .i64 2, .int .i64 m, .string s, .int .i64 sl, .bool lo, .int .i64 o, v], .int .i64 ((d + 1 : Nat) : Int)] w (Says w E) := by
  have ih : True := trivial
  have hsm : True := trivial
  obtain ⟨A, n, c, rfl, hn, hnc, hcm⟩ := hv.form
  rw [ET.ds_length] at hn
  subst hn
  unfold maxLen at hcm
  obtain ⟨D, hD⟩ : ∃ D : Int, D = ((d + 1 : Nat) : Int) := ⟨_, rfl⟩
  have hd0 : decide (D < 1) = false := by simp; omega
  have hd1 : wrap64 (D - 1) = (d : Nat) := by unfold wrap64; omega
  rw [← hD]
  clear hD
  have HV := Lib.hid hv
  have HIH := Lib.hid ih
  have HSM := Lib.hid hsm
  clear hv ih hsm
  obtain ⟨w0, hw0⟩ : ∃ w0, w0 = w.alloc (.cells #[.int .i64 2, .int .i64 m, .string s, .int .i64 sl, .bool lo, .int .i64 o, .slice A l.length c] 44) := ⟨_, rfl⟩
  have hkw : Kept noX w w0 := by rw [hw0]; exact (Kept.refl _ _).alloc _
  have HB := Lib.hid (show Cells w0 w.heap.size 44 [.int .i64 2, .int .i64 m, .string s, .int .i64 sl, .bool lo, .int .i64 o, .slice A l.length c] from by rw [hw0]; exact Cells.fresh w 44 _)
  have e0 := HB.out.cell 0; have e1 := HB.out.cell 1; have e2 := HB.out.cell 2; have e5 := HB.out.cell 5; have e6 := HB.out.cell 6
  simp only [List.getElem?_cons_zero, List.getElem?_cons_succ] at e0 e1 e2 e5 e6
  have HN := Lib.hid (fun W => rname_any s hs W)
  cases hm : (m == 0) with
  | false =>
    have hm1 : (m != 0) = !(m == 0) := rfl
    rw [hm] at hm1
    have HF : Hid (E = false) := Lib.hid (HE.out.trans (by rw [hm] <;> rfl))
    go_enter Tryz.func27, Tryz.ntmps27
    go_wp2
    go_ret
    exact ⟨by rw [HF.out]; rfl, (Kept.refl _ _).alloc _⟩
  | true =>
  have hm1 : (m != 0) = !(m == 0) := rfl
  rw [hm] at hm1
  cases ho : (o == 0) with
  | false =>
    have ho1 : (o != 0) = !(o == 0) := rfl
    rw [ho] at ho1
    have HF : Hid (E = false) := Lib.hid (HE.out.trans (by rw [hm, ho] <;> rfl))
    go_enter Tryz.func27, Tryz.ntmps27
    go_wp2
    go_ret
    exact ⟨by rw [HF.out]; rfl, (Kept.refl _ _).alloc _⟩
  | true =>
  have ho1 : (o != 0) = !(o == 0) := rfl
  rw [ho] at ho1
  go_enter Tryz.func27, Tryz.ntmps27
  go_wp2_with fail
  rw [← hw0]
  clear hw0 e0 e1 e2 e5 e6
  refine (HN.out _).mono ?_
  rintro e W1 ⟨rfl, hk1⟩
  have hkw1 := hkw.trans hk1
  have e6 := (HB.out.keep hk1).cell 6
  simp only [List.getElem?_cons_zero, List.getElem?_cons_succ] at e6
  cases hnm : nameIs s.data.toList with
  | false =>
    have HF : Hid (E = false) := Lib.hid (HE.out.trans (by rw [hm, ho, hnm] <;> rfl))
    clear hnm HN
    go_wp2
    go_ret
    exact ⟨by rw [HF.out]; rfl, hkw1⟩
  | true =>
  cases hln : decide (l.length = 0) with
  | false =>
    have hl1 : ((l.length : Int) != 0) = !decide (l.length = 0) := by
      by_cases h : l.length = 0
      · rw [decide_eq_true h, h]; rfl
      · rw [decide_eq_false h]
        exact bne_iff_ne.2 (fun h2 => h (by omega))
    have hl2 : (l.length != 0) = !decide (l.length = 0) := rfl
    rw [hln] at hl1 hl2
    have HF : Hid (E = false) := Lib.hid (HE.out.trans (by rw [hm, ho, hnm, hln] <;> rfl))
    clear hnm HN
    go_wp2
    go_ret
    exact ⟨by rw [HF.out]; rfl, hkw1⟩
  | true =>
  have hl1 : ((l.length : Int) != 0) = !decide (l.length = 0) := by
    by_cases h : l.length = 0
    · rw [decide_eq_true h, h]; rfl
    · rw [decide_eq_false h]
      exact bne_iff_ne.2 (fun h2 => h (by omega))
  have hl2 : (l.length != 0) = !decide (l.length = 0) := rfl
  rw [hln] at hl1 hl2
  have HF : Hid (E = true) := Lib.hid (HE.out.trans (by rw [hm, ho, hnm, hln] <;> rfl))
  clear hnm HN
  go_wp2_with fail
  go_loopw [7] (fun i wr => i = .int .i64 0 ∧ wr = W1) (fun _ _ => 0)
  case atStart => exact ⟨rfl, rfl⟩
  case round =>
    obtain ⟨rfl, rfl⟩ := hrel
    go_wp2
    go_ret
    exact ⟨by rw [HF.out]; rfl, hkw1⟩
set_option maxRecDepth 100000 in
set_option maxHeartbeats 1000000 in
theorem rright_cell (hs : s.size ≤ 9223372036854775807) (ih : RightC d) (hsm : ∀ e ∈ l, SmE e) (HE : Hid (E = ((m == 0) && (o == 0) && nameIs s.data.toList && decide (l.length = 1) && l.all (mayE d)))) :
    Calls Tryz.prog 27 #[.agg #[.int .i64 3, .int .i64 m, .string s, .int .i64 sl, .bool lo, .int .i64 o, v], .int .i64 ((d + 1 : Nat) : Int)] w (Says w E) := by
  obtain ⟨A, n, c, rfl, hn, hnc, hcm⟩ := hv.form
  rw [ET.ds_length] at hn
  subst hn
  unfold maxLen at hcm
  obtain ⟨D, hD⟩ : ∃ D : Int, D = ((d + 1 : Nat) : Int) := ⟨_, rfl⟩
  have hd0 : decide (D < 1) = false := by simp; omega
  have hd1 : wrap64 (D - 1) = (d : Nat) := by unfold wrap64; omega
  rw [← hD]
  clear hD
  have HV := Lib.hid hv
  have HIH := Lib.hid ih
  have HSM := Lib.hid hsm
  clear hv ih hsm
  obtain ⟨w0, hw0⟩ : ∃ w0, w0 = w.alloc (.cells #[.int .i64 3, .int .i64 m, .string s, .int .i64 sl, .bool lo, .int .i64 o, .slice A l.length c] 44) := ⟨_, rfl⟩
  have hkw : Kept noX w w0 := by rw [hw0]; exact (Kept.refl _ _).alloc _
  have HB := Lib.hid (show Cells w0 w.heap.size 44 [.int .i64 3, .int .i64 m, .string s, .int .i64 sl, .bool lo, .int .i64 o, .slice A l.length c] from by rw [hw0]; exact Cells.fresh w 44 _)
  have e0 := HB.out.cell 0; have e1 := HB.out.cell 1; have e2 := HB.out.cell 2; have e5 := HB.out.cell 5; have e6 := HB.out.cell 6
  simp only [List.getElem?_cons_zero, List.getElem?_cons_succ] at e0 e1 e2 e5 e6
  have HN := Lib.hid (fun W => rname_any s hs W)
  cases hm : (m == 0) with
  | false =>
    have hm1 : (m != 0) = !(m == 0) := rfl
    rw [hm] at hm1
    have HF : Hid (E = false) := Lib.hid (HE.out.trans (by rw [hm] <;> rfl))
    go_enter Tryz.func27, Tryz.ntmps27
    go_wp2
    go_ret
    exact ⟨by rw [HF.out]; rfl, (Kept.refl _ _).alloc _⟩
  | true =>
  have hm1 : (m != 0) = !(m == 0) := rfl
  rw [hm] at hm1
  cases ho : (o == 0) with
  | false =>
    have ho1 : (o != 0) = !(o == 0) := rfl
    rw [ho] at ho1
    have HF : Hid (E = false) := Lib.hid (HE.out.trans (by rw [hm, ho] <;> rfl))
    go_enter Tryz.func27, Tryz.ntmps27
    go_wp2
    go_ret
    exact ⟨by rw [HF.out]; rfl, (Kept.refl _ _).alloc _⟩
  | true =>
  have ho1 : (o != 0) = !(o == 0) := rfl
  rw [ho] at ho1
  go_enter Tryz.func27, Tryz.ntmps27
  go_wp2_with fail
  rw [← hw0]
  clear hw0 e0 e1 e2 e5 e6
  refine (HN.out _).mono ?_
  rintro e W1 ⟨rfl, hk1⟩
  have hkw1 := hkw.trans hk1
  have e6 := (HB.out.keep hk1).cell 6
  simp only [List.getElem?_cons_zero, List.getElem?_cons_succ] at e6
  cases hnm : nameIs s.data.toList with
  | false =>
    have HF : Hid (E = false) := Lib.hid (HE.out.trans (by rw [hm, ho, hnm] <;> rfl))
    clear hnm HN
    go_wp2
    go_ret
    exact ⟨by rw [HF.out]; rfl, hkw1⟩
  | true =>
  cases hln : decide (l.length = 1) with
  | false =>
    have hl1 : ((l.length : Int) != 1) = !decide (l.length = 1) := by
      by_cases h : l.length = 1
      · rw [decide_eq_true h, h]; rfl
      · rw [decide_eq_false h]
        exact bne_iff_ne.2 (fun h2 => h (by omega))
    have hl2 : (l.length != 1) = !decide (l.length = 1) := rfl
    rw [hln] at hl1 hl2
    have HF : Hid (E = false) := Lib.hid (HE.out.trans (by rw [hm, ho, hnm, hln] <;> rfl))
    clear hnm HN
    go_wp2
    go_ret
    exact ⟨by rw [HF.out]; rfl, hkw1⟩
  | true =>
  have hl1 : ((l.length : Int) != 1) = !decide (l.length = 1) := by
    by_cases h : l.length = 1
    · rw [decide_eq_true h, h]; rfl
    · rw [decide_eq_false h]
      exact bne_iff_ne.2 (fun h2 => h (by omega))
  have hl2 : (l.length != 1) = !decide (l.length = 1) := rfl
  rw [hln] at hl1 hl2
  have HLN := Lib.hid (of_decide_eq_true hln)
  have HE : Hid (E = l.all (mayE d)) := Lib.hid (HE.out.trans (by rw [hm, ho, hnm, hln] <;> rfl))
  have HB := Lib.hid (HB.out.keep hk1)
  clear hnm HN hm ho hln hm1 ho1
  go_wp2_with fail
  clear e6
  have HKW := Lib.hid hkw1
  clear hkw hkw1 hk1
  obtain ⟨w0, hw0⟩ : ∃ w0, w0 = W1 := ⟨_, rfl⟩
  rw [← hw0] at HB HKW ⊢
  clear hw0
  go_loopw [7] (fun i wr => ∃ k : Nat, k ≤ 1 ∧ i = .int .i64 k ∧ (l.take k).all (mayE d) = true ∧ Kept noX w0 wr) (fun i _ => 1 - (intOf i).toNat)
  case atStart => exact ⟨0, Nat.zero_le _, rfl, rfl, Kept.refl _ _⟩
  case round =>
    obtain ⟨k, hk, rfl, hf, hkr⟩ := hrel
    by_cases hlt : k < 1
    · have hdl : decide ((k : Int) < 1) = true := by simpa using (by omega : (k : Int) < 1)
      have hlt2 : k < l.length := by rw [HLN.out]; exact hlt
      have e6r := (HB.out.keep hkr).cell 6
      simp only [List.getElem?_cons_zero, List.getElem?_cons_succ] at e6r
      have hvr := HV.out.keep (HKW.out.trans hkr)
      obtain ⟨g, o', c2, size, cs, hveq, hcl, hrep, hcell⟩ := hvr.at_ (i := k) (by simpa using hlt2)
      rw [ET.ds_get] at hrep
      have hev : EV wr noX cs l[k] := hrep
      have hlen := hev.len
      rw [hlen] at hcl
      subst hcl
      injection hveq with hA hlen2 hc2
      subst hA hc2
      clear hlen2
      have hcr : ∀ j u, cs[j]? = some u → wr.cell? ⟨g, (o' + k * 7) + j, none⟩ = some u := fun j u hu => by
        have hj : j < 7 := by rw [← hlen]; exact (List.getElem?_eq_some_iff.1 hu).1
        rw [Nat.add_assoc, hcell j hj, hu]
      have HCR := Lib.hid hcr
      have HL := Lib.hid hlen
      have HEV := Lib.hid hev
      have HF := Lib.hid (all_take (f := mayE d) hlt2)
      have HF0' := Lib.hid hf
      clear hcell hcr hlen hrep hev hvr hf
      go_wp2_with (first
        | ((with_reducible show wpList _ _ _ (Oper.mk _ (Op.load _ _) _ _ _ _ :: _) _ _); refine wpList_load_part rfl 44 (.tmp 97) rfl g (o' + k * 7) rfl _ Tryz.underlying44 rfl cs (by rw [HL.out]; kernel_rfl) HCR.out ?_))
      refine (HIH.out l[k] cs _ HEV.out (HSM.out _ (List.getElem_mem hlt2))).mono ?_
      rintro e W10 ⟨rfl, hk10⟩
      cases hq : mayE d l[k] with
      | false =>
        have HQ := Lib.hid hq
        clear hq
        go_wp2
        go_ret
        refine ⟨?_, (HKW.out.trans hkr).trans hk10⟩
        have : l.all (mayE d) = false := by
          rw [List.all_eq_false]
          exact ⟨l[k], List.getElem_mem hlt2, by rw [HQ.out]; simp⟩
        rw [HE.out, this]; rfl
      | true =>
        have HQ := Lib.hid hq
        clear hq
        go_wp2
        go_roundw
        case rel => exact ⟨k + 1, by omega, by go_num, by rw [HF.out, HF0'.out, HQ.out]; rfl, hkr.trans hk10⟩
        case measure => simp [intOf]; omega
    · have hdl : decide ((k : Int) < 1) = false := by simpa using (by omega : (1 : Int) ≤ k)
      have hk2 : k = l.length := by rw [HLN.out]; omega
      have HF0' := Lib.hid hf
      clear hf
      go_wp2
      go_ret
      refine ⟨?_, HKW.out.trans hkr⟩
      have := HF0'.out
      rw [hk2, List.take_length] at this
      rw [HE.out, this]; rfl
set_option maxRecDepth 100000 in
set_option maxHeartbeats 1000000 in
theorem rright_neg (ih : RightC d) (hsm : ∀ e ∈ l, SmE e) (HE : Hid (E = ((m == 0) && s.toList.isEmpty && (o == 0) && decide (l.length = 1) && l.all (mayE d)))) :
    Calls Tryz.prog 27 #[.agg #[.int .i64 4, .int .i64 m, .string s, .int .i64 sl, .bool lo, .int .i64 o, v], .int .i64 ((d + 1 : Nat) : Int)] w (Says w E) := by
  obtain ⟨A, n, c, rfl, hn, hnc, hcm⟩ := hv.form
  rw [ET.ds_length] at hn
  subst hn
  unfold maxLen at hcm
  obtain ⟨D, hD⟩ : ∃ D : Int, D = ((d + 1 : Nat) : Int) := ⟨_, rfl⟩
  have hd0 : decide (D < 1) = false := by simp; omega
  have hd1 : wrap64 (D - 1) = (d : Nat) := by unfold wrap64; omega
  rw [← hD]
  clear hD
  have HV := Lib.hid hv
  have HIH := Lib.hid ih
  have HSM := Lib.hid hsm
  clear hv ih hsm
  obtain ⟨w0, hw0⟩ : ∃ w0, w0 = w.alloc (.cells #[.int .i64 4, .int .i64 m, .string s, .int .i64 sl, .bool lo, .int .i64 o, .slice A l.length c] 44) := ⟨_, rfl⟩
  have hkw : Kept noX w w0 := by rw [hw0]; exact (Kept.refl _ _).alloc _
  have HB := Lib.hid (show Cells w0 w.heap.size 44 [.int .i64 4, .int .i64 m, .string s, .int .i64 sl, .bool lo, .int .i64 o, .slice A l.length c] from by rw [hw0]; exact Cells.fresh w 44 _)
  have e0 := HB.out.cell 0; have e1 := HB.out.cell 1; have e2 := HB.out.cell 2; have e5 := HB.out.cell 5; have e6 := HB.out.cell 6
  simp only [List.getElem?_cons_zero, List.getElem?_cons_succ] at e0 e1 e2 e5 e6
  cases hm : (m == 0) with
  | false =>
    have hm1 : (m != 0) = !(m == 0) := rfl
    rw [hm] at hm1
    have HF : Hid (E = false) := Lib.hid (HE.out.trans (by rw [hm] <;> rfl))
    go_enter Tryz.func27, Tryz.ntmps27
    go_wp2
    go_ret
    exact ⟨by rw [HF.out]; rfl, (Kept.refl _ _).alloc _⟩
  | true =>
  have hm1 : (m != 0) = !(m == 0) := rfl
  rw [hm] at hm1
  cases hs : s.toList.isEmpty with
  | false =>
    have HF : Hid (E = false) := Lib.hid (HE.out.trans (by rw [hm, hs] <;> rfl))
    go_enter Tryz.func27, Tryz.ntmps27
    go_wp2
    go_ret
    exact ⟨by rw [HF.out]; rfl, (Kept.refl _ _).alloc _⟩
  | true =>
  cases ho : (o == 0) with
  | false =>
    have ho1 : (o != 0) = !(o == 0) := rfl
    rw [ho] at ho1
    have HF : Hid (E = false) := Lib.hid (HE.out.trans (by rw [hm, hs, ho] <;> rfl))
    go_enter Tryz.func27, Tryz.ntmps27
    go_wp2
    go_ret
    exact ⟨by rw [HF.out]; rfl, (Kept.refl _ _).alloc _⟩
  | true =>
  have ho1 : (o != 0) = !(o == 0) := rfl
  rw [ho] at ho1
  cases hln : decide (l.length = 1) with
  | false =>
    have hl1 : ((l.length : Int) != 1) = !decide (l.length = 1) := by
      by_cases h : l.length = 1
      · rw [decide_eq_true h, h]; rfl
      · rw [decide_eq_false h]
        exact bne_iff_ne.2 (fun h2 => h (by omega))
    have hl2 : (l.length != 1) = !decide (l.length = 1) := rfl
    rw [hln] at hl1 hl2
    have HF : Hid (E = false) := Lib.hid (HE.out.trans (by rw [hm, hs, ho, hln] <;> rfl))
    go_enter Tryz.func27, Tryz.ntmps27
    go_wp2
    go_ret
    exact ⟨by rw [HF.out]; rfl, (Kept.refl _ _).alloc _⟩
  | true =>
  have hl1 : ((l.length : Int) != 1) = !decide (l.length = 1) := by
    by_cases h : l.length = 1
    · rw [decide_eq_true h, h]; rfl
    · rw [decide_eq_false h]
      exact bne_iff_ne.2 (fun h2 => h (by omega))
  have hl2 : (l.length != 1) = !decide (l.length = 1) := rfl
  rw [hln] at hl1 hl2
  have HLN := Lib.hid (of_decide_eq_true hln)
  have HE : Hid (E = l.all (mayE d)) := Lib.hid (HE.out.trans (by rw [hm, hs, ho, hln] <;> rfl))
  go_enter Tryz.func27, Tryz.ntmps27
  go_wp2_with fail
  rw [← hw0]
  have HKW := Lib.hid hkw
  clear hw0 e0 e1 e2 e5 e6 hm hs ho hln
  go_loopw [7] (fun i wr => ∃ k : Nat, k ≤ 1 ∧ i = .int .i64 k ∧ (l.take k).all (mayE d) = true ∧ Kept noX w0 wr) (fun i _ => 1 - (intOf i).toNat)
  case atStart => exact ⟨0, Nat.zero_le _, rfl, rfl, Kept.refl _ _⟩
  case round =>
    obtain ⟨k, hk, rfl, hf, hkr⟩ := hrel
    by_cases hlt : k < 1
    · have hdl : decide ((k : Int) < 1) = true := by simpa using (by omega : (k : Int) < 1)
      have hlt2 : k < l.length := by rw [HLN.out]; exact hlt
      have e6r := (HB.out.keep hkr).cell 6
      simp only [List.getElem?_cons_zero, List.getElem?_cons_succ] at e6r
      have hvr := HV.out.keep (HKW.out.trans hkr)
      obtain ⟨g, o', c2, size, cs, hveq, hcl, hrep, hcell⟩ := hvr.at_ (i := k) (by simpa using hlt2)
      rw [ET.ds_get] at hrep
      have hev : EV wr noX cs l[k] := hrep
      have hlen := hev.len
      rw [hlen] at hcl
      subst hcl
      injection hveq with hA hlen2 hc2
      subst hA hc2
      clear hlen2
      have hcr : ∀ j u, cs[j]? = some u → wr.cell? ⟨g, (o' + k * 7) + j, none⟩ = some u := fun j u hu => by
        have hj : j < 7 := by rw [← hlen]; exact (List.getElem?_eq_some_iff.1 hu).1
        rw [Nat.add_assoc, hcell j hj, hu]
      have HCR := Lib.hid hcr
      have HL := Lib.hid hlen
      have HEV := Lib.hid hev
      have HF := Lib.hid (all_take (f := mayE d) hlt2)
      have HF0' := Lib.hid hf
      clear hcell hcr hlen hrep hev hvr hf
      go_wp2_with (first
        | ((with_reducible show wpList _ _ _ (Oper.mk _ (Op.load _ _) _ _ _ _ :: _) _ _); refine wpList_load_part rfl 44 (.tmp 97) rfl g (o' + k * 7) rfl _ Tryz.underlying44 rfl cs (by rw [HL.out]; kernel_rfl) HCR.out ?_))
      refine (HIH.out l[k] cs _ HEV.out (HSM.out _ (List.getElem_mem hlt2))).mono ?_
      rintro e W10 ⟨rfl, hk10⟩
      cases hq : mayE d l[k] with
      | false =>
        have HQ := Lib.hid hq
        clear hq
        go_wp2
        go_ret
        refine ⟨?_, (HKW.out.trans hkr).trans hk10⟩
        have : l.all (mayE d) = false := by
          rw [List.all_eq_false]
          exact ⟨l[k], List.getElem_mem hlt2, by rw [HQ.out]; simp⟩
        rw [HE.out, this]; rfl
      | true =>
        have HQ := Lib.hid hq
        clear hq
        go_wp2
        go_roundw
        case rel => exact ⟨k + 1, by omega, by go_num, by rw [HF.out, HF0'.out, HQ.out]; rfl, hkr.trans hk10⟩
        case measure => simp [intOf]; omega
    · have hdl : decide ((k : Int) < 1) = false := by simpa using (by omega : (1 : Int) ≤ k)
      have hk2 : k = l.length := by rw [HLN.out]; omega
      have HF0' := Lib.hid hf
      clear hf
      go_wp2
      go_ret
      refine ⟨?_, HKW.out.trans hkr⟩
      have := HF0'.out
      rw [hk2, List.take_length] at this
      rw [HE.out, this]; rfl
set_option maxRecDepth 100000 in
set_option maxHeartbeats 1000000 in
theorem rright_not (ih : RightC d) (hsm : ∀ e ∈ l, SmE e) (HE : Hid (E = ((m == 0) && s.toList.isEmpty && (o == 0) && decide (l.length = 1) && l.all (mayE d)))) :
    Calls Tryz.prog 27 #[.agg #[.int .i64 5, .int .i64 m, .string s, .int .i64 sl, .bool lo, .int .i64 o, v], .int .i64 ((d + 1 : Nat) : Int)] w (Says w E) := by
  obtain ⟨A, n, c, rfl, hn, hnc, hcm⟩ := hv.form
  rw [ET.ds_length] at hn
  subst hn
  unfold maxLen at hcm
  obtain ⟨D, hD⟩ : ∃ D : Int, D = ((d + 1 : Nat) : Int) := ⟨_, rfl⟩
  have hd0 : decide (D < 1) = false := by simp; omega
  have hd1 : wrap64 (D - 1) = (d : Nat) := by unfold wrap64; omega
  rw [← hD]
  clear hD
  have HV := Lib.hid hv
  have HIH := Lib.hid ih
  have HSM := Lib.hid hsm
  clear hv ih hsm
  obtain ⟨w0, hw0⟩ : ∃ w0, w0 = w.alloc (.cells #[.int .i64 5, .int .i64 m, .string s, .int .i64 sl, .bool lo, .int .i64 o, .slice A l.length c] 44) := ⟨_, rfl⟩
  have hkw : Kept noX w w0 := by rw [hw0]; exact (Kept.refl _ _).alloc _
  have HB := Lib.hid (show Cells w0 w.heap.size 44 [.int .i64 5, .int .i64 m, .string s, .int .i64 sl, .bool lo, .int .i64 o, .slice A l.length c] from by rw [hw0]; exact Cells.fresh w 44 _)
  have e0 := HB.out.cell 0; have e1 := HB.out.cell 1; have e2 := HB.out.cell 2; have e5 := HB.out.cell 5; have e6 := HB.out.cell 6
  simp only [List.getElem?_cons_zero, List.getElem?_cons_succ] at e0 e1 e2 e5 e6
  cases hm : (m == 0) with
  | false =>
    have hm1 : (m != 0) = !(m == 0) := rfl
    rw [hm] at hm1
    have HF : Hid (E = false) := Lib.hid (HE.out.trans (by rw [hm] <;> rfl))
    go_enter Tryz.func27, Tryz.ntmps27
    go_wp2
    go_ret
    exact ⟨by rw [HF.out]; rfl, (Kept.refl _ _).alloc _⟩
  | true =>
  have hm1 : (m != 0) = !(m == 0) := rfl
  rw [hm] at hm1
  cases hs : s.toList.isEmpty with
  | false =>
    have HF : Hid (E = false) := Lib.hid (HE.out.trans (by rw [hm, hs] <;> rfl))
    go_enter Tryz.func27, Tryz.ntmps27
    go_wp2
    go_ret
    exact ⟨by rw [HF.out]; rfl, (Kept.refl _ _).alloc _⟩
  | true =>
  cases ho : (o == 0) with
  | false =>
    have ho1 : (o != 0) = !(o == 0) := rfl
    rw [ho] at ho1
    have HF : Hid (E = false) := Lib.hid (HE.out.trans (by rw [hm, hs, ho] <;> rfl))
    go_enter Tryz.func27, Tryz.ntmps27
    go_wp2
    go_ret
    exact ⟨by rw [HF.out]; rfl, (Kept.refl _ _).alloc _⟩
  | true =>
  have ho1 : (o != 0) = !(o == 0) := rfl
  rw [ho] at ho1
  cases hln : decide (l.length = 1) with
  | false =>
    have hl1 : ((l.length : Int) != 1) = !decide (l.length = 1) := by
      by_cases h : l.length = 1
      · rw [decide_eq_true h, h]; rfl
      · rw [decide_eq_false h]
        exact bne_iff_ne.2 (fun h2 => h (by omega))
    have hl2 : (l.length != 1) = !decide (l.length = 1) := rfl
    rw [hln] at hl1 hl2
    have HF : Hid (E = false) := Lib.hid (HE.out.trans (by rw [hm, hs, ho, hln] <;> rfl))
    go_enter Tryz.func27, Tryz.ntmps27
    go_wp2
    go_ret
    exact ⟨by rw [HF.out]; rfl, (Kept.refl _ _).alloc _⟩
  | true =>
  have hl1 : ((l.length : Int) != 1) = !decide (l.length = 1) := by
    by_cases h : l.length = 1
    · rw [decide_eq_true h, h]; rfl
    · rw [decide_eq_false h]
      exact bne_iff_ne.2 (fun h2 => h (by omega))
  have hl2 : (l.length != 1) = !decide (l.length = 1) := rfl
  rw [hln] at hl1 hl2
  have HLN := Lib.hid (of_decide_eq_true hln)
  have HE : Hid (E = l.all (mayE d)) := Lib.hid (HE.out.trans (by rw [hm, hs, ho, hln] <;> rfl))
  go_enter Tryz.func27, Tryz.ntmps27
  go_wp2_with fail
  rw [← hw0]
  have HKW := Lib.hid hkw
  clear hw0 e0 e1 e2 e5 e6 hm hs ho hln
  go_loopw [7] (fun i wr => ∃ k : Nat, k ≤ 1 ∧ i = .int .i64 k ∧ (l.take k).all (mayE d) = true ∧ Kept noX w0 wr) (fun i _ => 1 - (intOf i).toNat)
  case atStart => exact ⟨0, Nat.zero_le _, rfl, rfl, Kept.refl _ _⟩
  case round =>
    obtain ⟨k, hk, rfl, hf, hkr⟩ := hrel
    by_cases hlt : k < 1
    · have hdl : decide ((k : Int) < 1) = true := by simpa using (by omega : (k : Int) < 1)
      have hlt2 : k < l.length := by rw [HLN.out]; exact hlt
      have e6r := (HB.out.keep hkr).cell 6
      simp only [List.getElem?_cons_zero, List.getElem?_cons_succ] at e6r
      have hvr := HV.out.keep (HKW.out.trans hkr)
      obtain ⟨g, o', c2, size, cs, hveq, hcl, hrep, hcell⟩ := hvr.at_ (i := k) (by simpa using hlt2)
      rw [ET.ds_get] at hrep
      have hev : EV wr noX cs l[k] := hrep
      have hlen := hev.len
      rw [hlen] at hcl
      subst hcl
      injection hveq with hA hlen2 hc2
      subst hA hc2
      clear hlen2
      have hcr : ∀ j u, cs[j]? = some u → wr.cell? ⟨g, (o' + k * 7) + j, none⟩ = some u := fun j u hu => by
        have hj : j < 7 := by rw [← hlen]; exact (List.getElem?_eq_some_iff.1 hu).1
        rw [Nat.add_assoc, hcell j hj, hu]
      have HCR := Lib.hid hcr
      have HL := Lib.hid hlen
      have HEV := Lib.hid hev
      have HF := Lib.hid (all_take (f := mayE d) hlt2)
      have HF0' := Lib.hid hf
      clear hcell hcr hlen hrep hev hvr hf
      go_wp2_with (first
        | ((with_reducible show wpList _ _ _ (Oper.mk _ (Op.load _ _) _ _ _ _ :: _) _ _); refine wpList_load_part rfl 44 (.tmp 97) rfl g (o' + k * 7) rfl _ Tryz.underlying44 rfl cs (by rw [HL.out]; kernel_rfl) HCR.out ?_))
      refine (HIH.out l[k] cs _ HEV.out (HSM.out _ (List.getElem_mem hlt2))).mono ?_
      rintro e W10 ⟨rfl, hk10⟩
      cases hq : mayE d l[k] with
      | false =>
        have HQ := Lib.hid hq
        clear hq
        go_wp2
        go_ret
        refine ⟨?_, (HKW.out.trans hkr).trans hk10⟩
        have : l.all (mayE d) = false := by
          rw [List.all_eq_false]
          exact ⟨l[k], List.getElem_mem hlt2, by rw [HQ.out]; simp⟩
        rw [HE.out, this]; rfl
      | true =>
        have HQ := Lib.hid hq
        clear hq
        go_wp2
        go_roundw
        case rel => exact ⟨k + 1, by omega, by go_num, by rw [HF.out, HF0'.out, HQ.out]; rfl, hkr.trans hk10⟩
        case measure => simp [intOf]; omega
    · have hdl : decide ((k : Int) < 1) = false := by simpa using (by omega : (1 : Int) ≤ k)
      have hk2 : k = l.length := by rw [HLN.out]; omega
      have HF0' := Lib.hid hf
      clear hf
      go_wp2
      go_ret
      refine ⟨?_, HKW.out.trans hkr⟩
      have := HF0'.out
      rw [hk2, List.take_length] at this
      rw [HE.out, this]; rfl
set_option maxRecDepth 100000 in
set_option maxHeartbeats 1000000 in
theorem rright_bin (ih : RightC d) (hsm : ∀ e ∈ l, SmE e) (HE : Hid (E = ((m == 0) && s.toList.isEmpty && decide (1 ≤ o) && decide (o ≤ 11) && decide (l.length = 2) && l.all (mayE d)))) :
    Calls Tryz.prog 27 #[.agg #[.int .i64 6, .int .i64 m, .string s, .int .i64 sl, .bool lo, .int .i64 o, v], .int .i64 ((d + 1 : Nat) : Int)] w (Says w E) := by
  obtain ⟨A, n, c, rfl, hn, hnc, hcm⟩ := hv.form
  rw [ET.ds_length] at hn
  subst hn
  unfold maxLen at hcm
  obtain ⟨D, hD⟩ : ∃ D : Int, D = ((d + 1 : Nat) : Int) := ⟨_, rfl⟩
  have hd0 : decide (D < 1) = false := by simp; omega
  have hd1 : wrap64 (D - 1) = (d : Nat) := by unfold wrap64; omega
  rw [← hD]
  clear hD
  have HV := Lib.hid hv
  have HIH := Lib.hid ih
  have HSM := Lib.hid hsm
  clear hv ih hsm
  obtain ⟨w0, hw0⟩ : ∃ w0, w0 = w.alloc (.cells #[.int .i64 6, .int .i64 m, .string s, .int .i64 sl, .bool lo, .int .i64 o, .slice A l.length c] 44) := ⟨_, rfl⟩
  have hkw : Kept noX w w0 := by rw [hw0]; exact (Kept.refl _ _).alloc _
  have HB := Lib.hid (show Cells w0 w.heap.size 44 [.int .i64 6, .int .i64 m, .string s, .int .i64 sl, .bool lo, .int .i64 o, .slice A l.length c] from by rw [hw0]; exact Cells.fresh w 44 _)
  have e0 := HB.out.cell 0; have e1 := HB.out.cell 1; have e2 := HB.out.cell 2; have e5 := HB.out.cell 5; have e6 := HB.out.cell 6
  simp only [List.getElem?_cons_zero, List.getElem?_cons_succ] at e0 e1 e2 e5 e6
  cases hm : (m == 0) with
  | false =>
    have hm1 : (m != 0) = !(m == 0) := rfl
    rw [hm] at hm1
    have HF : Hid (E = false) := Lib.hid (HE.out.trans (by rw [hm] <;> rfl))
    go_enter Tryz.func27, Tryz.ntmps27
    go_wp2
    go_ret
    exact ⟨by rw [HF.out]; rfl, (Kept.refl _ _).alloc _⟩
  | true =>
  have hm1 : (m != 0) = !(m == 0) := rfl
  rw [hm] at hm1
  cases hs : s.toList.isEmpty with
  | false =>
    have HF : Hid (E = false) := Lib.hid (HE.out.trans (by rw [hm, hs] <;> rfl))
    go_enter Tryz.func27, Tryz.ntmps27
    go_wp2
    go_ret
    exact ⟨by rw [HF.out]; rfl, (Kept.refl _ _).alloc _⟩
  | true =>
  cases ho : decide (1 ≤ o) with
  | false =>
    have HF : Hid (E = false) := Lib.hid (HE.out.trans (by rw [hm, hs, ho] <;> rfl))
    go_enter Tryz.func27, Tryz.ntmps27
    go_wp2_with fail
    rw [← hw0]
    clear hw0
    go_quiet (fail)
    go_wp2
    go_ret
    exact ⟨by rw [HF.out]; rfl, hkw.drewN _⟩
  | true =>
  cases hp : decide (o ≤ 11) with
  | false =>
    have HF : Hid (E = false) := Lib.hid (HE.out.trans (by rw [hm, hs, ho, hp] <;> rfl))
    go_enter Tryz.func27, Tryz.ntmps27
    go_wp2_with fail
    rw [← hw0]
    clear hw0
    go_quiet (fail)
    go_wp2
    go_ret
    exact ⟨by rw [HF.out]; rfl, hkw.drewN _⟩
  | true =>
  cases hln : decide (l.length = 2) with
  | false =>
    have HF : Hid (E = false) := Lib.hid (HE.out.trans (by rw [hm, hs, ho, hp, hln] <;> rfl))
    have hl1 : ((l.length : Int) != 2) = !decide (l.length = 2) := by
      by_cases h : l.length = 2
      · rw [decide_eq_true h, h]; rfl
      · rw [decide_eq_false h]
        exact bne_iff_ne.2 (fun h2 => h (by omega))
    have hl2 : (l.length != 2) = !decide (l.length = 2) := rfl
    rw [hln] at hl1 hl2
    go_enter Tryz.func27, Tryz.ntmps27
    go_wp2_with fail
    rw [← hw0]
    clear hw0
    go_quiet (fail)
    go_wp2
    go_ret
    exact ⟨by rw [HF.out]; rfl, hkw.drewN _⟩
  | true =>
  have hl1 : ((l.length : Int) != 2) = !decide (l.length = 2) := by
    by_cases h : l.length = 2
    · rw [decide_eq_true h, h]; rfl
    · rw [decide_eq_false h]
      exact bne_iff_ne.2 (fun h2 => h (by omega))
  have hl2 : (l.length != 2) = !decide (l.length = 2) := rfl
  rw [hln] at hl1 hl2
  have HLN := Lib.hid (of_decide_eq_true hln)
  have HE : Hid (E = l.all (mayE d)) := Lib.hid (HE.out.trans (by rw [hm, hs, ho, hp, hln] <;> rfl))
  go_enter Tryz.func27, Tryz.ntmps27
  go_wp2_with fail
  rw [← hw0]
  clear hw0
  go_quiet (fail)
  go_wp2_with fail
  have HKW := Lib.hid (hkw.drewN nq)
  have HB := Lib.hid (HB.out.drewN nq)
  clear hkw e0 e1 e2 e5 e6 hm hs ho hln hp
  generalize w0.drewN nq = w0 at HKW HB ⊢
  go_loopw [7] (fun i wr => ∃ k : Nat, k ≤ 2 ∧ i = .int .i64 k ∧ (l.take k).all (mayE d) = true ∧ Kept noX w0 wr) (fun i _ => 2 - (intOf i).toNat)
  case atStart => exact ⟨0, Nat.zero_le _, rfl, rfl, Kept.refl _ _⟩
  case round =>
    obtain ⟨k, hk, rfl, hf, hkr⟩ := hrel
    by_cases hlt : k < 2
    · have hdl : decide ((k : Int) < 2) = true := by simpa using (by omega : (k : Int) < 2)
      have hlt2 : k < l.length := by rw [HLN.out]; exact hlt
      have e6r := (HB.out.keep hkr).cell 6
      simp only [List.getElem?_cons_zero, List.getElem?_cons_succ] at e6r
      have hvr := HV.out.keep (HKW.out.trans hkr)
      obtain ⟨g, o', c2, size, cs, hveq, hcl, hrep, hcell⟩ := hvr.at_ (i := k) (by simpa using hlt2)
      rw [ET.ds_get] at hrep
      have hev : EV wr noX cs l[k] := hrep
      have hlen := hev.len
      rw [hlen] at hcl
      subst hcl
      injection hveq with hA hlen2 hc2
      subst hA hc2
      clear hlen2
      have hcr : ∀ j u, cs[j]? = some u → wr.cell? ⟨g, (o' + k * 7) + j, none⟩ = some u := fun j u hu => by
        have hj : j < 7 := by rw [← hlen]; exact (List.getElem?_eq_some_iff.1 hu).1
        rw [Nat.add_assoc, hcell j hj, hu]
      have HCR := Lib.hid hcr
      have HL := Lib.hid hlen
      have HEV := Lib.hid hev
      have HF := Lib.hid (all_take (f := mayE d) hlt2)
      have HF0' := Lib.hid hf
      clear hcell hcr hlen hrep hev hvr hf
      go_wp2_with (first
        | ((with_reducible show wpList _ _ _ (Oper.mk _ (Op.load _ _) _ _ _ _ :: _) _ _); refine wpList_load_part rfl 44 (.tmp 97) rfl g (o' + k * 7) rfl _ Tryz.underlying44 rfl cs (by rw [HL.out]; kernel_rfl) HCR.out ?_))
      refine (HIH.out l[k] cs _ HEV.out (HSM.out _ (List.getElem_mem hlt2))).mono ?_
      rintro e W10 ⟨rfl, hk10⟩
      cases hq : mayE d l[k] with
      | false =>
        have HQ := Lib.hid hq
        clear hq
        go_wp2
        go_ret
        refine ⟨?_, (HKW.out.trans hkr).trans hk10⟩
        have : l.all (mayE d) = false := by
          rw [List.all_eq_false]
          exact ⟨l[k], List.getElem_mem hlt2, by rw [HQ.out]; simp⟩
        rw [HE.out, this]; rfl
      | true =>
        have HQ := Lib.hid hq
        clear hq
        go_wp2
        go_roundw
        case rel => exact ⟨k + 1, by omega, by go_num, by rw [HF.out, HF0'.out, HQ.out]; rfl, hkr.trans hk10⟩
        case measure => simp [intOf]; omega
    · have hdl : decide ((k : Int) < 2) = false := by simpa using (by omega : (2 : Int) ≤ k)
      have hk2 : k = l.length := by rw [HLN.out]; omega
      have HF0' := Lib.hid hf
      clear hf
      go_wp2
      go_ret
      refine ⟨?_, HKW.out.trans hkr⟩
      have := HF0'.out
      rw [hk2, List.take_length] at this
      rw [HE.out, this]; rfl
end
end Go.Proofs.YtjkgepppoopheaaGreatDoor
