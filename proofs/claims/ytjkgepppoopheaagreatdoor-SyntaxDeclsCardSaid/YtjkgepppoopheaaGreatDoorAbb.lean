/- Short names for what the texts of this claim say often (conditions: none). -/
import Derived.WalkKit
import Derived.WalkSpells
import Derived.WalkLawsBesides
import Derived.BigQuiet
import Derived.Deep.QuietTactic
import Derived.Lib.Hide
import Derived.RangeFuncLeaves
import Derived.RangeFuncCalls
import Derived.StillTailTactics
import Derived.Deep.LoopGhost
import Derived.Deep.Draws
import Derived.Shelf.Abstract
import Derived.Lib.UnsafeStr
import Derived.Laws.CopyOwn
import Derived.RangeFuncNested
import Derived.Maps.AppendAt
import Derived.OwnWalkIn
import Derived.Laws.OwnMore
import Derived.Sort.LoopGhostIn
import Derived.Deep.RegionHeld3
import Derived.Deep.RegionWith
import Derived.Great.BuildSlice
import Derived.Defers
import Derived.Recover
import Derived.Maps.Own
import Derived.Maps.Views
import Derived.Laws.MakeOwn
import Derived.RangeFuncBound
import Derived.Shelf.RegionOpen
import Derived.TacticsInMore
import Derived.LoopNIn
import Derived.LoopIn
import Derived.Sort.QuietTacIn
import Derived.Shelf.Strings.Builder1
import Derived.Shelf.Strings.Builder2
import Derived.Shelf.LaysM
import Derived.Shelf.Strconv.Itoa4
import Derived.Shelf.Strings.Repeat
import Derived.Lib.AppendStr
import Derived.Lib.Builder
import Derived.Lib.SmallJoins
import Derived.OpenShut
import Derived.Lib.LaidTab
import Derived.LaidMore
import Derived.ProofKit
import Derived.ShutString
import Derived.Test.YtjkgepppoopheaaGreatDoorProg
namespace Go.Proofs.YtjkgepppoopheaaGreatDoor
open Go.RowKit Go.Shelf
theorem kp {P : Prop} (h : P := by repeat (first | assumption | (with_reducible exact Kept.refl _ _) | (with_reducible refine Kept.alloc ?_ _) | (with_reducible refine Kept.drew ?_) | (with_reducible refine Kept.drewN ?_ _) | (with_reducible refine Kept.setCell ?_ ?_ _) | (with_reducible refine Kept.trans ?_ (by assumption)) | (with_reducible refine Kept.trans ?_ (Kept.any (by assumption))) | (with_reducible refine Kept.own ?_ (by assumption) (by omega)) | (intro hxx; first | rfl | ((try dsimp only at hxx ⊢); omega)))) : P := h
theorem kdr {P : Prop} (h : P := by repeat (first | assumption | (with_reducible refine DR.alloc ?_ _) | (with_reducible refine DR.drewN ?_ _) | (with_reducible refine DR.drew ?_) | (with_reducible refine DR.set ?_ (by first | omega | (simp; omega)) _) | (with_reducible refine DR.kept ?_ (by assumption) (fun g hg => by first | exact hg.elim | ((try dsimp only at hg); omega))))) : P := h
theorem kkn {P : Prop} (h : P := by simp only [putL, Nat.reduceAdd]; repeat (first | (with_reducible exact Kept.refl _ _) | (with_reducible refine Kept.alloc ?_ _) | (with_reducible refine Kept.drewN ?_ _) | (with_reducible refine Kept.drew ?_))) : P := h
theorem kcl {P : Prop} (h : P := by repeat (first | (with_reducible assumption) | (with_reducible refine Cells.alloc ?_ _) | (with_reducible refine Cells.drew ?_) | (with_reducible refine Cells.drewN ?_ _) | (with_reducible refine Cells.keep ?_ (by assumption)) | (with_reducible refine Cells.kept ?_ (by assumption) (by omega)) | (with_reducible refine Cells.far ?_ (by dsimp only; omega) _))) : P := h
theorem k1c {P : Prop} (h : P := by simp [Value.oneCell']) : P := h
theorem kle {P : Prop} (h : P := by exact Nat.le_of_ble_eq_true rfl) : P := h
theorem krf {P : Prop} (h : P := by kernel_rfl) : P := h
theorem kom {P : Prop} (h : P := by omega) : P := h
theorem aP {p : Prop} (h : p) : Hid p := Lib.hid h
theorem aZ {α : Type _} {a : α} {l : List α} : (a :: l)[0]? = some a := List.getElem?_cons_zero
theorem aS {α : Type _} {a : α} {i : Nat} {l : List α} : (a :: l)[i + 1]? = l[i]? := List.getElem?_cons_succ
section
variable {P : Program} {ops : Array Oper} {Q : Exit → Act → World → Prop} {ty : TypeId} {x y : Operand} {o : Option Tmp}
theorem ats {t p f g r a w} (h : wpList P ops Q (Oper.mk none (Op.store ty x y) t p f g :: r) a w) : wpList P ops Q (Oper.mk none (Op.store ty x y) t p f g :: r) a w := h
theorem atl {t p f g r a w} (h : wpList P ops Q (Oper.mk o (Op.load ty x) t p f g :: r) a w) : wpList P ops Q (Oper.mk o (Op.load ty x) t p f g :: r) a w := h
end
theorem k_1 {P : Prop} (h : P := by
 have hjd : decide ((j : Int) < 16) = true := by simp; omega
 have hup : kindUp n T st j = if !((kindsL.getD j ⟨#[]⟩).toList.isEmpty) && isR n T st (kindsL.getD j ⟨#[]⟩) then j else kindUp n T st (j - 1) := by
  obtain ⟨i, rfl⟩ : ∃ i, j = i + 1 := ⟨j - 1, by omega⟩
  rw [kindUp] <;> rfl
 have g0 := kinds_cell hcG hj
 have HIS := aP (isR_any hr (kindsL.getD j ⟨#[]⟩))
 generalize kindsL.getD j ⟨#[]⟩ = s at hup g0 HIS
 have e0 := hcE.cell 0; have f0 := hcE.free 0
 simp only [hdSt, List.cons_append, aZ] at e0
 cases hse : s.toList.isEmpty with
 | true =>
  have hu : kindUp n T st j = kindUp n T st (j - 1) := by rw [hup, hse] <;> rfl
  have HU := aP hu
  have HCE := aP hcE; have HCB := aP hcB; have HCG := aP hcG; have HR := aP hr; have HKR := aP hkr
  clear hup hu hcE hcB hcG hr hkr
  go_wp2
  go_roundw
  case rel => exact ⟨j + 1, by omega, by omega, by go_num, by rw [show j + 1 - 1 = j from rfl, HU.out, ← HLI.out, ← HCO.out]; exact HCE.out, HCB.out, HCG.out, HR.out, HKR.out⟩
  case measure => simp [intOf]; omega
 | false =>
  have HCE := aP hcE; have HCB := aP hcB; have HCG := aP hcG; have HR := aP hr; have HKR := aP hkr
  clear hcE hcB hcG hr hkr
  go_wp2_with fail
  refine HIS.out.mono ?_
  rintro e W4 ⟨rfl, hk4⟩
  cases hiss : isR n T st s with
  | false =>
   have hu : kindUp n T st j = kindUp n T st (j - 1) := by rw [hup, hse, hiss] <;> rfl
   have HU := aP hu
   clear hup hu hiss
   go_wp2
   go_roundw
   case rel => exact ⟨j + 1, by omega, by omega, by go_num, by rw [show j + 1 - 1 = j from rfl, HU.out, ← HLI.out, ← HCO.out]; exact HCE.out.keep hk4, HCB.out.keep hk4, HCG.out.keep hk4, HR.out.keep hk4, HKR.out.trans hk4.any⟩
   case measure => simp [intOf]; omega
  | true =>
   have hu : kindUp n T st j = j := by rw [hup, hse, hiss] <;> rfl
   have HU := aP hu
   have hcE4 := HCE.out.keep hk4
   have f0 := hcE4.free 0; have e1 := hcE4.cell 0
   simp only [hdSt, List.cons_append, aZ] at e1
   clear hup hu hiss e0
   go_wp2
   go_roundw
   case rel =>
    have hk5 : Kept (· = E) W4 (W4.setCell ⟨E, 0, none⟩ (.int .i64 (j : Nat))) := (Kept.refl _ _).setCell (fun _ => by rfl) _
    refine ⟨j + 1, by omega, by omega, by go_num, ?_, (HCB.out.keep hk4).kept hk5 kom, (HCG.out.keep hk4).kept hk5 kom, R2.other (HR.out.keep hk4) hk5 kom (fun g hg => by have := HVB.out g hg; omega), (HKR.out.trans hk4.any).trans hk5⟩
    rw [show j + 1 - 1 = j from rfl, HU.out, ← HLI.out, ← HCO.out]
    exact hcE4.put 0 _
   case measure => simp [intOf]; omega) : P := h
theorem k_2 {P : Prop} (h : P := by
 have hjd : decide ((j : Int) < 7) = true := by simp; omega
 have hup : dkUp n T st j = if isR n T st (declL.getD j ⟨#[]⟩) then j else dkUp n T st (j - 1) := by
  obtain ⟨i, rfl⟩ : ∃ i, j = i + 1 := ⟨j - 1, by omega⟩
  rw [dkUp] <;> rfl
 have g0 := decls_cell hcG hj
 have HIS := aP (isR_any hr (declL.getD j ⟨#[]⟩))
 generalize declL.getD j ⟨#[]⟩ = s at hup g0 HIS
 have HCE := aP hcE; have HCB := aP hcB; have HCG := aP hcG; have HR := aP hr; have HKR := aP hkr
 clear hcE hcB hcG hr hkr
 go_wp2_with fail
 refine HIS.out.mono ?_
 rintro e W4 ⟨rfl, hk4⟩
 cases hiss : isR n T st s with
 | false =>
  have hu : dkUp n T st j = dkUp n T st (j - 1) := by rw [hup, hiss] <;> rfl
  have HU := aP hu
  clear hup hu hiss
  go_wp2
  go_roundw
  case rel => exact ⟨j + 1, by omega, by omega, by go_num, by rw [show j + 1 - 1 = j from rfl, HU.out, ← HLI.out, ← HCO.out]; exact HCE.out.keep hk4, HCB.out.keep hk4, HCG.out.keep hk4, HR.out.keep hk4, HKR.out.trans hk4.any⟩
  case measure => simp [intOf]; omega
 | true =>
  have hu : dkUp n T st j = j := by rw [hup, hiss] <;> rfl
  have HU := aP hu
  have hcE4 := HCE.out.keep hk4
  have f0 := hcE4.free 0; have e1 := hcE4.cell 0
  simp only [aZ] at e1
  clear hup hu hiss
  go_wp2
  go_roundw
  case rel =>
   have hk5 : Kept (· = E) W4 (W4.setCell ⟨E, 0, none⟩ (.int .i64 (j : Nat))) := (Kept.refl _ _).setCell (fun _ => by rfl) _
   refine ⟨j + 1, by omega, by omega, by go_num, ?_, (HCB.out.keep hk4).kept hk5 kom, (HCG.out.keep hk4).kept hk5 kom, R2.other (HR.out.keep hk4) hk5 kom (fun g hg => by have := HVB.out g hg; omega), (HKR.out.trans hk4.any).trans hk5⟩
   rw [show j + 1 - 1 = j from rfl, HU.out, ← HLI.out, ← HCO.out]
   exact hcE4.put 0 _
  case measure => simp [intOf]; omega) : P := h
theorem k_3 {P : Prop} (h : P := by
 unfold Misfit at hm
 subst hm
 have HX := aP hr
 clear hr
 go_wp2
 exact ⟨rfl, Parsed.err (HS.out.trans (by rw [HX.out] <;> rfl)) rfl kp⟩) : P := h
theorem k_4 {P : Prop} (h : P := by
 obtain ⟨k, hk, rfl, rfl, hd⟩ := hrel
 have hv := valF_le (l := t.data.toList.take k) (by rw [List.length_take]; omega) hd
 have HD := aP hd
 clear hd
 by_cases hlt : k < t.size
 ·have hb0 : t.data.toList[k]? = some t[k] := by
   rw [List.getElem?_eq_getElem (by simpa using hlt)] <;> rfl
  have ht : t.data.toList.take (k + 1) = t.data.toList.take k ++ [t[k]] := by rw [List.take_add_one, hb0] <;> rfl
  have HT := aP ht
  have HB := aP hb0
  have hub : (t[k].toNat : Int) ≤ 255 := by have := t[k].toNat_lt; omega
  clear ht hb0
  cases hdk : digB (t[k].toNat : Int) with
  | true =>
   have hdr := (digB_iff _).1 hdk
   have hc : ∀ W, Calls Tryz.prog 163 #[.int .u8 (t[k].toNat : Int)] W fun e w' => e = .returned (.bool true) ∧ W = w' := fun W => by rw [← hdk]; exact digit_any _ W
   have HC := aP hc
   have HDK := aP hdk
   have hv2 : 0 ≤ 10 * valF (t.data.toList.take k) ∧ 10 * valF (t.data.toList.take k) ≤ 99999999990 := by omega
   clear hc hdk
   go_wp2_with (go_at_call 163; refine (HC.out _).mono ?_; rintro e w' ⟨rfl, rfl⟩)
   go_round
   case rel =>
    refine ⟨k + 1, by omega, by go_num, ?_, ?_⟩
    ·rw [HT.out, valF_snoc]
    ·have h1 := HD.out
     have h2 := HDK.out
     rw [HT.out]
     unfold allDig at h1 ⊢
     rw [List.all_append, h1]
     simpa using h2
   case measure => simp [intOf]; omega
  | false =>
   have hc : ∀ W, Calls Tryz.prog 163 #[.int .u8 (t[k].toNat : Int)] W fun e w' => e = .returned (.bool false) ∧ W = w' := fun W => by rw [← hdk]; exact digit_any _ W
   have HC := aP hc
   have HN : Hid (numOk t.data.toList = false) := by
    have hall : allDig t.data.toList = false := by
     unfold allDig
     rw [List.all_eq_false]
     exact ⟨t[k], List.mem_of_getElem? HB.out, by simp [hdk]⟩
    exact aP (by simp [numOk, hall])
   clear hc hdk
   go_wp2_with (go_at_call 163; refine (HC.out _).mono ?_; rintro e w' ⟨rfl, rfl⟩)
   go_ret2
   exact ⟨by rw [numRes_no HN.out, HN.out] <;> rfl, rfl⟩
 ·obtain rfl : k = t.size := by omega
  have hall : t.data.toList.take t.size = t.data.toList := List.take_of_length_le (by simp)
  rw [hall] at hv HD ⊢
  clear hall
  have h48n : (decide (1 < t.data.toList.length) && (t.data.toList.head? == some 48)) = false := by
   have := H48.out
   rw [Bool.eq_false_iff]
   intro hh
   simp only [Bool.and_eq_true, decide_eq_true_eq, beq_iff_eq] at hh
   exact this ⟨by have := HL.out; omega, hh.2⟩
  by_cases hmax : valF t.data.toList ≤ 2147483647
  ·have HN : Hid (numOk t.data.toList = true) := aP (by
     have h1 := HD.out
     unfold numOk
     rw [h48n, h1, HL.out]
     simp [hmax, h10])
   clear h48n
   go_wp2
   go_ret2
   exact ⟨by rw [numRes_yes HN.out, HN.out] <;> rfl, rfl⟩
  ·have HN : Hid (numOk t.data.toList = false) := aP (by unfold numOk; simp [hmax])
   clear h48n
   go_wp2
   go_ret2
   exact ⟨by rw [numRes_no HN.out, HN.out] <;> rfl, rfl⟩) : P := h
theorem k_5 {P : Prop} (h : P := by
 rw [ht, if_pos rfl] at hcl
 have HCL := aP hcl
 have HT2 := aP ht
 clear hcl ht
 go_wp2_with fail
 go_still_tail 6, krf
 go_wp2_with fail
 refine (take_any (S := S) (k := k) (by decide) hdr.drew).mono ?_
 rintro e W2 ⟨rfl, hd2, hk2'⟩
 have hk2 : Kept (· = R) wr W2 := ((Kept.refl _ _).drew).trans hk2'
 erw [HT2.out] at hd2 ⊢
 replace hd2 : DR W2 R S (k + 1) := hd2
 go_wp2
 go_ret
 exact Parsed.ok HCL.out.symm rfl hd2 (hkr.trans hk2)) : P := h
theorem k_6 {P : Prop} (h : P := by
 obtain ⟨k, hk, rfl, hb, hp, hgr⟩ := hrel
 by_cases hlt : k < ts.length
 ·have hdl : decide ((k : Int) < (ts.length : Int)) = true := by simpa using hlt
  have c := hgr.cell k
  rw [List.getElem?_map, List.getElem?_eq_getElem hlt] at c
  simp only [Option.map_some] at c
  have hl1 := catL_take hlt
  have hl2 := catL_take_le ts (k + 1)
  have HW := aP (write_calls ts[k] hb (by rw [hl1] at hl2; simp at hl2; simp; omega))
  have HL1 := aP hl1
  have HP := aP hp
  have HBr := aP hb
  have HGR := aP hgr
  clear hb hp hgr hl1 hl2
  go_wp2_with fail
  refine HW.out.mono ?_
  rintro e W1 ⟨rfl, hb1, hp1⟩
  rw [ByteArray.append_assoc, ← HL1.out] at hb1
  have HB1 := aP hb1
  have HP1 := aP hp1
  clear hb1 hp1
  go_wp2
  go_roundw
  case rel => exact ⟨k + 1, by omega, by go_num, HB1.out, HP.out.trans HP1.out HB.out, HP1.out.cells HBr.out HGR.out hne (by decide)⟩
  case measure => simp [intOf]; omega
 ·have hdl : decide ((k : Int) < (ts.length : Int)) = false := by simpa using hlt
  have hk2 : k = ts.length := by omega
  have HBr := aP hb
  have HP := aP hp
  clear hb hp
  go_wp2
  go_end0
  refine ⟨rfl, ?_, HP.out⟩
  have := HBr.out
  rw [hk2, List.take_length] at this
  exact this) : P := h
theorem k_7 {P : Prop} (h : P := by
 have hb3 : ((q : Int) == 3) = true := by subst h3; rfl
 have HL := aP (HLS.out.trans (if_pos h3))
 have HK8 := aP (HKL.out.trans HKR8.out)
 clear HLS h3
 go_wp2_with (first
   | ((with_reducible refine atl ?_); (refine wpList_load_cells rfl 44 (.tmp 5) rfl (E) rfl _ Tryz.underlying44 rfl HCE8.out krf ?_))
   | ((with_reducible refine ats ?_); (refine wpList_store_all rfl rfl 44 (.tmp 4) (.tmp 39) rfl (w.heap.size) rfl [.int .i64 6, .int .i64 0, .string ⟨#[]⟩, .int .i64 0, .bool false, .int .i64 N, .slice (some ⟨W6.heap.size, 0, none⟩) 2 2] rfl HCB8.out (by rfl) krf k1c ?_; intro W9 hB9 hk9; have HB9 := aP hB9; clear hB9)))
 have hR9 := HR8.out.other hk9 kom (fun g hg => by have := HVB.out g hg; omega)
 refine ret_box Tryz.results171 rfl HB9.out Tryz.underlying44 rfl krf rfl ?_
 rw [HL.out]
 exact Reads.fin rfl ((HTW8.out.kept hk9 (fun b _ h => by have h : b = w.heap.size := h; show b ≤ _ ∨ _; omega)).mono (fun b _ h => by have h : b < w.heap.size := h; show b ≤ _ ∨ _; omega)) hR9 (HK8.out.join hk9 (fun i hi hlt2 => by have hi : i = w.heap.size := hi; omega) |>.mono (fun i hlt2 hi => by have hi : i = R ∨ i = E := hi; show i = R; omega))) : P := h
theorem k_8 {P : Prop} (h : P := by
 -- behind the iterator
 rintro e W2 ⟨⟨v, rfl⟩, (⟨xs, hS, O, hO, hi, hn, hl, hk⟩ | ⟨pre, hSp, O, hO, c, hi, hn, hl, hk⟩)⟩
 ·have hke : Kept (OO O) W2 (W2.putObj (w.heap.size + 1) (.loop { rec .ready none with state := .exhausted })) := (Kept.refl _ _).putObj (fun _ => .inr (.inr rfl)) _
  exact ⟨none, _, by have := run_endLoop (P := P) hl (by rw [hrec]; simp); rw [hrec] at this ⊢; exact this, hdone _ xs (OO O) _ (Nat.le_refl _) (hOO O hO) (.inr (.inl rfl)) hS (hI _ _ _ _ (hOO O hO) hi hke) ((World.putObj_heap_other kom).trans hk)⟩
 ·have hke : Kept (OO O) W2 (W2.putObj (w.heap.size + 1) (.loop { rec .done (some c) with state := .exhausted })) := (Kept.refl _ _).putObj (fun _ => .inr (.inr rfl)) _
  exact ⟨some c, _, by have := run_endLoop (P := P) hl (by rw [hrec]; simp); rw [hrec] at this ⊢; exact this, hstop _ c pre (OO O) _ (Nat.le_refl _) (hOO O hO) (.inr (.inl rfl)) hSp (hIx c _ _ _ _ (hOO O hO) hi hke) ((World.putObj_heap_other kom).trans hk)⟩) : P := h
theorem k_9 {P : Prop} (h : P := by
 unfold Misfit at hm
 subst hm
 have HX := aP hr
 clear hr
 go_wp2
 exact ⟨rfl, Parsed.err (HS.out.trans (by rw [HX.out] <;> rfl)) rfl (HK5.out.trans hk6)⟩) : P := h
theorem k_10 {P : Prop} (h : P := by
 have hb3 : ((q : Int) == 3) = false := by simp; omega
 have HL := aP (HLS.out.trans (if_neg h3))
 clear HLS h3
 go_wp2
 go_roundg (n - kk6)
 case measure => omega
 case rel => exact ⟨g', kk6, b6, _, _, HL.out.symm, hx1, HCE8.out, HTW8.out, HCB8.out, HR8.out, HKR8.out, rfl, by omega, by omega⟩) : P := h
theorem k_11 {P : Prop} (h : P := by
 unfold Misfit at hm
 subst hm
 have HX := aP hr
 clear hr
 go_wp2
 exact ⟨rfl, Parsed.err (HS.out.trans (by rw [HX.out] <;> rfl)) rfl (HK7.out.trans hk10)⟩) : P := h
theorem k_12 {P : Prop} (h : P := by
 rintro O pre x a1 W1 W2 hO ⟨h1, h2, B9, h3, h4, h5, hrest⟩ hk
 exact ⟨⟨h1.1.stab (fun k hk => by have := hO k hk; omega) hk, h1.2⟩, fun k ho => Nat.lt_of_lt_of_le (h2 k ho) hk.size, B9, h3.kept hk h4, h4, h5, hrest⟩) : P := h
theorem k_13 {P : Prop} (h : P := by
 rw [decide_eq_false h]
 cases hl : s.data.toList.isEmpty with
 | false => rfl
 | true =>
  refine absurd ?_ h
  rw [List.isEmpty_iff] at hl
  exact ByteArray.ext (Array.toList_inj.1 (by rw [hl]))) : P := h
theorem k_14 {P : Prop} (h : P := by
 rw [HLx.out, show zeroSt.take 0 ++ x.2 ++ zeroSt.drop (0 + 25) = x.2 from by simp [zeroSt]] at hB8
 exact hB8) : P := h
theorem k_15 {P : Prop} (h : P := by
 obtain ⟨hgo, hk4, hi4⟩ := hp
 obtain ⟨hr, hl5, hd5, hk5, hk6⟩ := fin none W4 hk4
 exact ⟨_, _, hr, .inl ⟨rfl, hgo, ⟨hI _ _ _ _ (hOO O hO) hi4 hk5, hn, hl5, hd5⟩, hk6⟩⟩) : P := h
theorem k_16 {P : Prop} (h : P := by
 unfold Misfit at hm
 subst hm
 have HX := aP hr
 clear hr
 go_wp2
 exact ⟨rfl, Parsed.err (HS.out.trans (by rw [HX.out] <;> rfl)) rfl (HK6.out.trans hk3)⟩) : P := h
theorem k_17 {P : Prop} (h : P := by
 unfold Misfit at hm
 subst hm
 have HX := aP hr
 clear hr
 go_wp2
 exact ⟨rfl, Parsed.err (HS.out.trans (by rw [HX.out] <;> rfl)) rfl (HK2.out.trans hk3)⟩) : P := h
theorem k_18 {P : Prop} (h : P := by
 rw [hkq] at hs
 simp only [if_true, thn_ok] at hs
 injection hs with hs
 injection hs with _ hs
 rw [← hs]
 exact hok s (kindB_lt (by decide) hkq)) : P := h
theorem k_19 {P : Prop} (h : P := by
 unfold kindP at hno
 simp only [hlt, decide_true, Bool.not_false, Bool.and_true, Bool.true_and, decide_eq_false_iff_not] at hno
 simpa using hno) : P := h
theorem k_20 {P : Prop} (h : P := by
 have HM4 : Hid (E = false) := aP (by rw [HM3.out, hc1] <;> rfl)
 clear hc1
 go_wp2
 go_ret
 exact ⟨by rw [HM4.out] <;> rfl, hk5.trans hk68⟩) : P := h
theorem k_21 {P : Prop} (h : P := by
 have HM3 : Hid (E = false) := aP (by rw [HM2.out, hc1] <;> rfl)
 clear hc1
 go_wp2
 go_ret
 exact ⟨by rw [HM3.out] <;> rfl, hk5.trans hk67⟩) : P := h
theorem k_22 {P : Prop} (h : P := by
 repeat (first | exact (hKk.drew).join hK1 (fun i hx _ => .inl hx) | refine Kept.drewN ?_ _ | refine Kept.setCell ?_ (fun _ => .inr rfl) _)) : P := h
theorem k_23 {P : Prop} (h : P := by
 have HM2 : Hid (E = false) := aP (by rw [HM.out, hc1] <;> rfl)
 clear hc1
 go_wp2
 go_ret
 exact ⟨by rw [HM2.out] <;> rfl, hk5.trans hk6⟩) : P := h
theorem k_24 {P : Prop} (h : P := by
 unfold Misfit at hm
 subst hm
 exact ⟨rfl, Parsed.err (HS.out.trans (by rw [hr] <;> rfl)) rfl (((hk0.any.drew).alloc _).trans hk1)⟩) : P := h
theorem k_25 {P : Prop} (h : P := by
 rw [← hW1]; have := World.alloc_heap_new (w.alloc (.deferred (some []))) (.loop (rec .ready none)); rwa [World.size_alloc] at this) : P := h
theorem k_26 {P : Prop} (h : P := by
 refine ⟨k + 1, by go_num, by omega, ?_⟩
 rw [HE.out, HST.out, if_pos HA.out, show i0 + (k + 1) = i0 + k + 1 from by omega]
 omega) : P := h
theorem k_27 {P : Prop} (h : P := by
 unfold Misfit at hm
 subst hm
 exact ⟨rfl, Parsed.err (HS.out.trans (by rw [hr] <;> rfl)) rfl ((hk0.any.drew).trans hk1)⟩) : P := h
theorem k_28 {P : Prop} (h : P := by
 exact (((HKA.out.drewN _).setCell (fun h => by dsimp only at h; omega) _).setCell (fun h => by dsimp only at h; omega) _)) : P := h
theorem k_29 {P : Prop} (h : P := by
 obtain ⟨a, k', h4, h5⟩ := thn_some h
 injection h5 with h5; subst h5
 have := h1 _ _ h4; dsimp only at *; omega) : P := h
theorem k_30 {P : Prop} (h : P := by
 rcases hpr with hp | hp
 ·cases b3 with
  | true => exact .inl rfl
  | false => exact .inr kom
 ·exact .inl hp) : P := h
end Go.Proofs.YtjkgepppoopheaaGreatDoor
