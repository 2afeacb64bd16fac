/- What the document's reader of layer 2 does at an expression (conditions: at most 1000000 words). -/
import Derived.Test.YtjkgepppoopheaaGreatDoorAbb
import Derived.Test.YtjkgepppoopheaaGreatDoorQ1
set_option maxRecDepth 100000
set_option maxHeartbeats 1000000
namespace Go.Proofs.YtjkgepppoopheaaGreatDoor
open Go.RowKit Go.Shelf
structure R2 (W : World) (R : Nat) (v : Value) (n : Nat) (T : Nat → TokD) (k : Nat) (bad : Bool) : Prop where
 is : Cells W R 88 [v, .int .i64 (k : Nat), .bool bad]
 row : TokRow W v n T
 few : n ≤ 1000000
theorem tokRow_ne {W : World} {v : Value} {n g : Nat} {T : Nat → TokD} {t : TypeId} {cs : List Value} (h : TokRow W v n T) (hc : Cells W g t cs) (ht : 92 ≠ t) : v.ownBlock ≠ some g := by
 obtain ⟨xs, h1, _⟩ := h
 exact own_ne h1 hc ht
theorem R2.kept {X : Nat → Prop} {W W' : World} {R : Nat} {v : Value} {n : Nat} {T : Nat → TokD} {k : Nat} {bad : Bool} (h : R2 W R v n T k bad) (hk : Kept X W W') (hx : ¬ X R) (hv : ∀ g, v.ownBlock = some g → ¬ X g) : R2 W' R v n T k bad :=
 ⟨h.is.kept hk hx, h.row.kept hk hv, h.few⟩
theorem R2.keep {W W' : World} {R : Nat} {v : Value} {n : Nat} {T : Nat → TokD} {k : Nat} {bad : Bool} (h : R2 W R v n T k bad) (hk : Kept noX W W') : R2 W' R v n T k bad := h.kept hk (fun h => h) (fun _ _ h => h)
theorem R2.own {W : World} {R : Nat} {v : Value} {n : Nat} {T : Nat → TokD} {k : Nat} {bad : Bool} (h : R2 W R v n T k bad) : ∀ g, v.ownBlock = some g → ¬ g = R := fun g hg e => tokRow_ne h.row h.is (by decide) (e ▸ hg)
theorem R2.step {W : World} {R : Nat} {v : Value} {n : Nat} {T : Nat → TokD} {k : Nat} {bad : Bool} (h : R2 W R v n T k bad) (k' : Nat) :
  R2 (W.setCell ⟨R, 1, none⟩ (.int .i64 (k' : Nat))) R v n T k' bad ∧ Kept (· = R) W (W.setCell ⟨R, 1, none⟩ (.int .i64 (k' : Nat))) := by
 have hk : Kept (· = R) W (W.setCell ⟨R, 1, none⟩ (.int .i64 (k' : Nat))) := (Kept.refl _ _).setCell (fun _ => by rfl) _
 exact ⟨⟨h.is.put 1 _, h.row.kept hk h.own, h.few⟩, hk⟩
theorem R2.miss {W : World} {R : Nat} {v : Value} {n : Nat} {T : Nat → TokD} {k : Nat} {bad : Bool} (h : R2 W R v n T k bad) :
  R2 (W.setCell ⟨R, 2, none⟩ (.bool true)) R v n T k true ∧ Kept (· = R) W (W.setCell ⟨R, 2, none⟩ (.bool true)) := by
 have hk : Kept (· = R) W (W.setCell ⟨R, 2, none⟩ (.bool true)) := (Kept.refl _ _).setCell (fun _ => by rfl) _
 exact ⟨⟨h.is.put 2 _, h.row.kept hk h.own, h.few⟩, hk⟩
def isP (n : Nat) (T : Nat → TokD) (k : Nat) (bad : Bool) (s : ByteArray) : Bool := !bad && decide (k < n) && decide ((T k).text = s) && decide (3 ≤ (T k).kind)
theorem beq_text (a b : ByteArray) : (a.toList == b.toList) = decide (a = b) := by
 rw [ByteArray.toList_eq, ByteArray.toList_eq]
 by_cases h : a = b
 ·subst h; simp
 ·rw [decide_eq_false h, beq_eq_false_iff_ne]
  intro hh
  exact h (ByteArray.ext (Array.toList_inj.1 hh))
theorem rdis_any (R : Nat) (v : Value) (n : Nat) (T : Nat → TokD) (k : Nat) (bad : Bool) (s : ByteArray) (w : World) (h : R2 w R v n T k bad) :
  Calls Tryz.prog 82 #[.pointer (some ⟨R, 0, none⟩), .string s] w fun e w' => e = .returned (.bool (isP n T k bad s)) ∧ Kept noX w w' := by
 have c0 := h.is.cell 0; have c1 := h.is.cell 1; have c2 := h.is.cell 2
 simp only [aZ, aS] at c0 c1 c2
 have hfew := h.few
 cases bad with
 | true =>
  have HP : Hid (isP n T k true s = false) := aP rfl
  clear h
  go_enter Tryz.func82, Tryz.ntmps82
  go_wp2_with fail
  go_quiet (fail)
  go_wp2
  go_ret
  exact ⟨by rw [HP.out] <;> rfl, (Kept.refl _ _).drewN _⟩
 | false =>
  obtain ⟨A, c, rfl, hc, hm⟩ := h.row.form
  by_cases hlt : k < n
  ·have hd : decide ((k : Int) < (n : Int)) = true := by simpa using hlt
   obtain ⟨g, c', hv, _, hcell⟩ := h.row.at_ hlt
   injection hv with hA _ hcc
   subst hA
   subst hcc
   have a0 := hcell 0 kom; have a1 := hcell 1 kom
   have hPe : isP n T k false s = (decide ((T k).text = s) && decide (3 ≤ (T k).kind)) := by simp [isP, hlt]
   generalize T k = t at a0 a1 hPe
   simp only [TokD.cells, aZ, aS, Nat.add_zero] at a0 a1
   have hbt := beq_text t.text s
   by_cases hts : t.text = s
   ·rw [decide_eq_true hts] at hbt hPe
    by_cases hk3 : 3 ≤ t.kind
    ·have hd3 : decide (3 ≤ t.kind) = true := by simpa using hk3
     have HP : Hid (isP n T k false s = true) := aP (by rw [hPe, hd3] <;> rfl)
     clear h hcell hPe hts
     go_enter Tryz.func82, Tryz.ntmps82
     go_wp2_with fail
     go_quiet (fail)
     go_wp2
     go_ret
     exact ⟨by rw [HP.out] <;> rfl, (Kept.refl _ _).drewN _⟩
    ·have hd3 : decide (3 ≤ t.kind) = false := by simpa using hk3
     have HP : Hid (isP n T k false s = false) := aP (by rw [hPe, hd3] <;> rfl)
     clear h hcell hPe hts
     go_enter Tryz.func82, Tryz.ntmps82
     go_wp2_with fail
     go_quiet (fail)
     go_wp2
     go_ret
     exact ⟨by rw [HP.out] <;> rfl, (Kept.refl _ _).drewN _⟩
   ·rw [decide_eq_false hts] at hbt hPe
    have HP : Hid (isP n T k false s = false) := aP (by rw [hPe] <;> rfl)
    clear h hcell hPe hts
    go_enter Tryz.func82, Tryz.ntmps82
    go_wp2_with fail
    go_quiet (fail)
    go_wp2
    go_ret
    exact ⟨by rw [HP.out] <;> rfl, (Kept.refl _ _).drewN _⟩
  ·have hd : decide ((k : Int) < (n : Int)) = false := by simpa using hlt
   have HP : Hid (isP n T k false s = false) := aP (by simp [isP, hlt])
   clear h
   go_enter Tryz.func82, Tryz.ntmps82
   go_wp2_with fail
   go_quiet (fail)
   go_wp2
   go_ret
   exact ⟨by rw [HP.out] <;> rfl, (Kept.refl _ _).drewN _⟩
theorem isP_lt {n : Nat} {T : Nat → TokD} {k : Nat} {bad : Bool} {s : ByteArray} (h : isP n T k bad s = true) : k < n ∧ bad = false := by
 unfold isP at h
 simp only [Bool.and_eq_true, decide_eq_true_eq, Bool.not_eq_true'] at h
 exact ⟨h.1.1.2, h.1.1.1⟩
def stepP (n : Nat) (T : Nat → TokD) (k : Nat) (bad : Bool) (s : ByteArray) : Nat := if isP n T k bad s then k + 1 else k
theorem rdtake_any (R : Nat) (v : Value) (n : Nat) (T : Nat → TokD) (k : Nat) (bad : Bool) (s : ByteArray) (w : World) (h : R2 w R v n T k bad) :
  Calls Tryz.prog 85 #[.pointer (some ⟨R, 0, none⟩), .string s] w fun e w' => e = .returned (.bool (isP n T k bad s)) ∧ R2 w' R v n T (stepP n T k bad s) bad ∧ Kept (· = R) w w' := by
 have hfew := h.few
 have HI := aP (rdis_any R v n T k bad s w h)
 cases hp : isP n T k bad s with
 | true =>
  rw [hp] at HI
  have hlt := (isP_lt hp).1
  have HS : Hid (stepP n T k bad s = k + 1) := aP (by simp [stepP, hp])
  clear hp
  go_enter Tryz.func85, Tryz.ntmps85
  go_wp2_with fail
  refine HI.out.mono ?_
  rintro e W1 ⟨rfl, hk1⟩
  have h1 := h.keep hk1
  have c1 := h1.is.cell 1; have f1 := h1.is.free 1
  simp only [aZ, aS] at c1
  have HT := aP (h1.step (k + 1))
  clear h h1
  go_wp2
  go_ret
  refine ⟨rfl, ?_, ?_⟩
  ·rw [HS.out]; exact HT.out.1
  ·exact (hk1.any).trans HT.out.2
 | false =>
  rw [hp] at HI
  have HS : Hid (stepP n T k bad s = k) := aP (by simp [stepP, hp])
  clear hp
  go_enter Tryz.func85, Tryz.ntmps85
  go_wp2_with fail
  refine HI.out.mono ?_
  rintro e W1 ⟨rfl, hk1⟩
  have h1 := h.keep hk1
  clear h
  go_wp2
  go_ret
  exact ⟨rfl, by rw [HS.out]; exact h1, hk1.any⟩
theorem rdmust_any (R : Nat) (v : Value) (n : Nat) (T : Nat → TokD) (k : Nat) (bad : Bool) (s : ByteArray) (w : World) (h : R2 w R v n T k bad) :
  Calls Tryz.prog 84 #[.pointer (some ⟨R, 0, none⟩), .string s] w fun e w' => e = .returned (.tuple #[]) ∧ R2 w' R v n T (stepP n T k bad s) (bad || !isP n T k bad s) ∧ Kept (· = R) w w' := by
 have HT := aP (rdtake_any R v n T k bad s w h)
 clear h
 cases hp : isP n T k bad s with
 | true =>
  rw [hp] at HT
  go_enter Tryz.func84, Tryz.ntmps84
  go_wp2_with fail
  refine HT.out.mono ?_
  rintro e W1 ⟨rfl, h1, hk1⟩
  go_wp2
  go_end0
  exact ⟨rfl, by simpa using h1, hk1⟩
 | false =>
  rw [hp] at HT
  go_enter Tryz.func84, Tryz.ntmps84
  go_wp2_with fail
  refine HT.out.mono ?_
  rintro e W1 ⟨rfl, h1, hk1⟩
  have c2 := h1.is.cell 2; have f2 := h1.is.free 2
  simp only [aZ, aS] at c2
  have HM := aP h1.miss
  clear h1
  go_wp2
  go_end0
  exact ⟨rfl, by simpa using HM.out.1, hk1.trans HM.out.2⟩
def kindP (n : Nat) (T : Nat → TokD) (k : Nat) (bad : Bool) (q : Int) : Bool := !bad && decide (k < n) && decide ((T k).kind = q)
def kindStep (n : Nat) (T : Nat → TokD) (k : Nat) (bad : Bool) (q : Int) : Nat := if kindP n T k bad q then k + 1 else k
def kindBad (n : Nat) (T : Nat → TokD) (k : Nat) (bad : Bool) (q : Int) : Bool := bad || !kindP n T k bad q
def nameOf (n : Nat) (T : Nat → TokD) (k : Nat) (bad : Bool) : ByteArray := if kindP n T k bad 1 then (T k).text else ⟨#[]⟩
def numOf (n : Nat) (T : Nat → TokD) (k : Nat) (bad : Bool) : Int := if kindP n T k bad 2 then (T k).num else 0
theorem kindP_yes {n : Nat} {T : Nat → TokD} {k : Nat} {bad : Bool} {q : Int} (h : kindP n T k bad q = true) : bad = false ∧ k < n ∧ (T k).kind = q ∧ kindStep n T k bad q = k + 1 ∧ kindBad n T k bad q = false := by
 have h2 := h
 unfold kindP at h2
 simp only [Bool.and_eq_true, decide_eq_true_eq, Bool.not_eq_true'] at h2
 obtain ⟨⟨h3, h4⟩, h5⟩ := h2
 exact ⟨h3, h4, h5, by simp [kindStep, h], by rw [kindBad, h, h3] <;> rfl⟩
theorem kindP_no {n : Nat} {T : Nat → TokD} {k : Nat} {bad : Bool} {q : Int} (h : kindP n T k bad q = false) : kindStep n T k bad q = k ∧ kindBad n T k bad q = true := ⟨by simp [kindStep, h], by simp [kindBad, h]⟩
theorem rdname_any (R : Nat) (v : Value) (n : Nat) (T : Nat → TokD) (k : Nat) (bad : Bool) (w : World) (h : R2 w R v n T k bad) :
  Calls Tryz.prog 83 #[.pointer (some ⟨R, 0, none⟩)] w fun e w' => e = .returned (.string (nameOf n T k bad)) ∧
   R2 w' R v n T (kindStep n T k bad 1) (kindBad n T k bad 1) ∧ Kept (· = R) w w' := by
 have c0 := h.is.cell 0; have c1 := h.is.cell 1; have c2 := h.is.cell 2
 have f1 := h.is.free 1; have f2 := h.is.free 2
 simp only [aZ, aS] at c0 c1 c2
 have hfew := h.few
 have HM := aP h.miss
 by_cases hyes : kindP n T k bad 1 = true
 ·have HV : Hid (nameOf n T k bad = (T k).text) := aP (by simp [nameOf, hyes])
  obtain ⟨hb, hlt, hkd, hs1, hs2⟩ := kindP_yes hyes
  have HS1 := aP hs1
  have HS2 := aP hs2
  clear hyes hs1 hs2
  subst hb
  obtain ⟨A, c, rfl, hc, hm⟩ := h.row.form
  obtain ⟨g, c', hv, _, hcell⟩ := h.row.at_ hlt
  injection hv with hA _ hcc
  subst hA
  subst hcc
  have a0 := hcell 0 kom
  simp only [TokD.cells, aZ, Nat.add_zero, hkd] at a0
  have hd : decide ((n : Int) ≤ (k : Int)) = false := by simp; omega
  have HST := aP (h.step (k + 1))
  have HH := aP h
  have HDR := aP (fun nq : Nat => (HH.out.keep ((Kept.refl noX w).drewN nq)).step (k + 1))
  clear h hcell
  go_enter Tryz.func83, Tryz.ntmps83
  go_wp2_with fail
  go_quiet (fail)
  go_wp2_with fail
  have h2 := (HDR.out nq).1
  have hk2 := ((Kept.refl noX w).drewN nq).any.trans (HDR.out nq).2
  have e1 : Value.int .i64 ((k + 1 : Nat) : Int) = .int .i64 ((k : Int) + 1) := rfl
  rw [e1] at h2 hk2
  obtain ⟨g', c'', hv', _, hcell2⟩ := h2.row.at_ hlt
  injection hv' with hA' _ hcc'
  injection hA' with hA'
  injection hA' with hA'
  subst hA'
  have b1 := hcell2 1 kom
  have d0 := h2.is.cell 0
  simp only [TokD.cells, aZ, aS] at b1 d0
  have d1 : ((w.drewN nq).setCell ⟨R, 1, none⟩ (.int .i64 ((k : Int) + 1))).cell? ⟨R, 1, none⟩ = some (.int .i64 ((k : Int) + 1)) := h2.is.cell 1
  have HH2 := aP h2
  clear HDR HM HST HH h2 hcell2 c0 c1 c2 f1 f2 a0
  generalize (w.drewN nq).setCell ⟨R, 1, none⟩ (.int .i64 ((k : Int) + 1)) = W1 at b1 d0 d1 HH2 hk2 ⊢
  have e2 : (k : Int) + 1 - 1 = k := by omega
  go_wp2_with fail
  go_quiet (fail)
  go_wp2
  go_ret
  refine ⟨by rw [HV.out] <;> rfl, ?_, hk2.drewN _⟩
  rw [HS1.out, HS2.out]
  exact HH2.out.keep ((Kept.refl noX _).drewN _)
 ·have hno : kindP n T k bad 1 = false := by simpa using hyes
  have HN : Hid (nameOf n T k bad = ⟨#[]⟩) := aP (by simp [nameOf, hno])
  have HS1 := aP (kindP_no hno).1
  have HS2 := aP (kindP_no hno).2
  have HH := aP h
  have HDR := aP (fun nq : Nat => (HH.out.keep ((Kept.refl noX w).drewN nq)).miss)
  cases bad with
  | true =>
   clear h hno hyes HM HH
   go_enter Tryz.func83, Tryz.ntmps83
   go_wp2_with fail
   go_quiet (fail)
   go_wp2
   go_ret
   refine ⟨by rw [HN.out] <;> rfl, ?_, ((Kept.refl noX w).drewN nq).any.trans (HDR.out nq).2⟩
   rw [HS1.out, HS2.out]
   exact (HDR.out nq).1
  | false =>
   obtain ⟨A, c, rfl, hc, hm⟩ := h.row.form
   by_cases hlt : k < n
   ·obtain ⟨g, c', hv, _, hcell⟩ := h.row.at_ hlt
    injection hv with hA _ hcc
    subst hA
    subst hcc
    have a0 := hcell 0 kom
    simp only [TokD.cells, aZ, Nat.add_zero] at a0
    have hd : decide ((n : Int) ≤ (k : Int)) = false := by simp; omega
    have hkd : ((T k).kind != (1 : Int)) = true := by exact k_19
    clear h hno hyes HM HH hcell
    go_enter Tryz.func83, Tryz.ntmps83
    go_wp2_with fail
    go_quiet (fail)
    go_wp2
    go_ret
    refine ⟨by rw [HN.out] <;> rfl, ?_, ((Kept.refl noX w).drewN nq).any.trans (HDR.out nq).2⟩
    rw [HS1.out, HS2.out]
    exact (HDR.out nq).1
   ·have hd : decide ((n : Int) ≤ (k : Int)) = true := by simp; omega
    clear h hno hyes HM HH
    go_enter Tryz.func83, Tryz.ntmps83
    go_wp2_with fail
    go_quiet (fail)
    go_wp2
    go_ret
    refine ⟨by rw [HN.out] <;> rfl, ?_, ((Kept.refl noX w).drewN nq).any.trans (HDR.out nq).2⟩
    rw [HS1.out, HS2.out]
    exact (HDR.out nq).1
theorem rdnumber_any (R : Nat) (v : Value) (n : Nat) (T : Nat → TokD) (k : Nat) (bad : Bool) (w : World) (h : R2 w R v n T k bad) :
  Calls Tryz.prog 86 #[.pointer (some ⟨R, 0, none⟩)] w fun e w' => e = .returned (.int .i64 (numOf n T k bad)) ∧
   R2 w' R v n T (kindStep n T k bad 2) (kindBad n T k bad 2) ∧ Kept (· = R) w w' := by
 have c0 := h.is.cell 0; have c1 := h.is.cell 1; have c2 := h.is.cell 2
 have f1 := h.is.free 1; have f2 := h.is.free 2
 simp only [aZ, aS] at c0 c1 c2
 have hfew := h.few
 have HM := aP h.miss
 by_cases hyes : kindP n T k bad 2 = true
 ·have HV : Hid (numOf n T k bad = (T k).num) := aP (by simp [numOf, hyes])
  obtain ⟨hb, hlt, hkd, hs1, hs2⟩ := kindP_yes hyes
  have HS1 := aP hs1
  have HS2 := aP hs2
  clear hyes hs1 hs2
  subst hb
  obtain ⟨A, c, rfl, hc, hm⟩ := h.row.form
  obtain ⟨g, c', hv, _, hcell⟩ := h.row.at_ hlt
  injection hv with hA _ hcc
  subst hA
  subst hcc
  have a0 := hcell 0 kom
  simp only [TokD.cells, aZ, Nat.add_zero, hkd] at a0
  have hd : decide ((n : Int) ≤ (k : Int)) = false := by simp; omega
  have HST := aP (h.step (k + 1))
  have HH := aP h
  have HDR := aP (fun nq : Nat => (HH.out.keep ((Kept.refl noX w).drewN nq)).step (k + 1))
  clear h hcell
  go_enter Tryz.func86, Tryz.ntmps86
  go_wp2_with fail
  go_quiet (fail)
  go_wp2_with fail
  have h2 := (HDR.out nq).1
  have hk2 := ((Kept.refl noX w).drewN nq).any.trans (HDR.out nq).2
  have e1 : Value.int .i64 ((k + 1 : Nat) : Int) = .int .i64 ((k : Int) + 1) := rfl
  rw [e1] at h2 hk2
  obtain ⟨g', c'', hv', _, hcell2⟩ := h2.row.at_ hlt
  injection hv' with hA' _ hcc'
  injection hA' with hA'
  injection hA' with hA'
  subst hA'
  have b1 := hcell2 2 kom
  have d0 := h2.is.cell 0
  simp only [TokD.cells, aZ, aS] at b1 d0
  have d1 : ((w.drewN nq).setCell ⟨R, 1, none⟩ (.int .i64 ((k : Int) + 1))).cell? ⟨R, 1, none⟩ = some (.int .i64 ((k : Int) + 1)) := h2.is.cell 1
  have HH2 := aP h2
  clear HDR HM HST HH h2 hcell2 c0 c1 c2 f1 f2 a0
  generalize (w.drewN nq).setCell ⟨R, 1, none⟩ (.int .i64 ((k : Int) + 1)) = W1 at b1 d0 d1 HH2 hk2 ⊢
  have e2 : (k : Int) + 1 - 1 = k := by omega
  go_wp2_with fail
  go_quiet (fail)
  go_wp2
  go_ret
  refine ⟨by rw [HV.out] <;> rfl, ?_, hk2.drewN _⟩
  rw [HS1.out, HS2.out]
  exact HH2.out.keep ((Kept.refl noX _).drewN _)
 ·have hno : kindP n T k bad 2 = false := by simpa using hyes
  have HN : Hid (numOf n T k bad = 0) := aP (by simp [numOf, hno])
  have HS1 := aP (kindP_no hno).1
  have HS2 := aP (kindP_no hno).2
  have HH := aP h
  have HDR := aP (fun nq : Nat => (HH.out.keep ((Kept.refl noX w).drewN nq)).miss)
  cases bad with
  | true =>
   clear h hno hyes HM HH
   go_enter Tryz.func86, Tryz.ntmps86
   go_wp2_with fail
   go_quiet (fail)
   go_wp2
   go_ret
   refine ⟨by rw [HN.out] <;> rfl, ?_, ((Kept.refl noX w).drewN nq).any.trans (HDR.out nq).2⟩
   rw [HS1.out, HS2.out]
   exact (HDR.out nq).1
  | false =>
   obtain ⟨A, c, rfl, hc, hm⟩ := h.row.form
   by_cases hlt : k < n
   ·obtain ⟨g, c', hv, _, hcell⟩ := h.row.at_ hlt
    injection hv with hA _ hcc
    subst hA
    subst hcc
    have a0 := hcell 0 kom
    simp only [TokD.cells, aZ, Nat.add_zero] at a0
    have hd : decide ((n : Int) ≤ (k : Int)) = false := by simp; omega
    have hkd : ((T k).kind != (2 : Int)) = true := by exact k_19
    clear h hno hyes HM HH hcell
    go_enter Tryz.func86, Tryz.ntmps86
    go_wp2_with fail
    go_quiet (fail)
    go_wp2
    go_ret
    refine ⟨by rw [HN.out] <;> rfl, ?_, ((Kept.refl noX w).drewN nq).any.trans (HDR.out nq).2⟩
    rw [HS1.out, HS2.out]
    exact (HDR.out nq).1
   ·have hd : decide ((n : Int) ≤ (k : Int)) = true := by simp; omega
    clear h hno hyes HM HH
    go_enter Tryz.func86, Tryz.ntmps86
    go_wp2_with fail
    go_quiet (fail)
    go_wp2
    go_ret
    refine ⟨by rw [HN.out] <;> rfl, ?_, ((Kept.refl noX w).drewN nq).any.trans (HDR.out nq).2⟩
    rw [HS1.out, HS2.out]
    exact (HDR.out nq).1
def lineOf (n : Nat) (T : Nat → TokD) (k : Nat) : Int := if k < n then (T k).line else 0
def colOf (n : Nat) (T : Nat → TokD) (k : Nat) : Int := if k < n then (T k).col else 0
theorem resultsPos_of {W : World} {B : Nat} {tmps : Array Value} {a b : Value} (h : Cells W B 25 [a, b]) (h2 : tmps.getD 2 undef = .pointer (some ⟨B, 0, none⟩)) :
  (results Tryz.f81 tmps).run Tryz.prog W = .ok (.agg #[a, b]) W := by
 have d0 := h.cell 0; have d1 := h.cell 1
 simp only [aZ, aS] at d0 d1
 rw [Array.getD_eq_getD_getElem?] at h2
 simp [results, Tryz.results81, go_sem, h2, d0, d1]
theorem rdpos_any (R : Nat) (v : Value) (n : Nat) (T : Nat → TokD) (k : Nat) (bad : Bool) (w : World) (h : R2 w R v n T k bad) :
  Calls Tryz.prog 81 #[.pointer (some ⟨R, 0, none⟩)] w fun e w' => e = .returned (.agg #[.int .i64 (lineOf n T k), .int .i64 (colOf n T k)]) ∧ Kept noX w w' := by
 have hfew := h.few
 have hB := Cells.fresh w 25 [.int .i64 0, .int .i64 0]
 have hkA := (Kept.refl noX w).alloc (.cells #[.int .i64 0, .int .i64 0] 25)
 have hA := h.keep hkA
 have HA := aP hA
 have HB := aP hB
 have HKA := aP hkA
 obtain ⟨A, c, rfl, hc, hm⟩ := h.row.form
 by_cases hlt : k < n
 ·have HV1 : Hid (lineOf n T k = (T k).line) := aP (by simp [lineOf, hlt])
  have HV2 : Hid (colOf n T k = (T k).col) := aP (by simp [colOf, hlt])
  have hd : decide ((n : Int) ≤ (k : Int)) = false := by simp; omega
  clear h hA hB hkA
  go_enter Tryz.func81, Tryz.ntmps81
  go_wp2_with fail
  have c0 := HA.out.is.cell 0; have c1 := HA.out.is.cell 1
  obtain ⟨g, c', hv, _, hcell⟩ := HA.out.row.at_ hlt
  injection hv with hA' _ hcc
  subst hA'
  subst hcc
  have a3 := hcell 3 kom; have a4 := hcell 4 kom
  simp only [TokD.cells, aZ, aS] at c0 c1 a3 a4
  have b0 := HB.out.cell 0; have b1 := HB.out.cell 1; have f0 := HB.out.free 0; have f1 := HB.out.free 1
  simp only [aZ, aS] at b0 b1
  clear hcell
  generalize w.alloc (.cells #[.int .i64 0, .int .i64 0] 25) = W1 at c0 c1 a3 a4 b0 b1 f0 f1 HA HB HKA ⊢
  go_quiet (fail)
  go_wp2_with fail
  go_region
  go_wp2
  skip
  go_wp2
  refine bodyPost_ret (resultsPos_of (((HB.out.drewN _).put 0 _).put 1 _) rfl) rfl ⟨?_, ?_⟩
  ·rw [HV1.out, HV2.out]
  ·exact k_28
 ·have HV1 : Hid (lineOf n T k = 0) := aP (by simp [lineOf, hlt])
  have HV2 : Hid (colOf n T k = 0) := aP (by simp [colOf, hlt])
  have hd : decide ((n : Int) ≤ (k : Int)) = true := by simp; omega
  clear h hA hB hkA
  go_enter Tryz.func81, Tryz.ntmps81
  go_wp2_with fail
  have c0 := HA.out.is.cell 0; have c1 := HA.out.is.cell 1
  simp only [aZ, aS] at c0 c1
  have b0 := HB.out.cell 0; have b1 := HB.out.cell 1; have f0 := HB.out.free 0; have f1 := HB.out.free 1
  simp only [aZ, aS] at b0 b1
  generalize w.alloc (.cells #[.int .i64 0, .int .i64 0] 25) = W1 at c0 c1 b0 b1 f0 f1 HA HB HKA ⊢
  go_quiet (fail)
  go_wp2
  refine bodyPost_ret (resultsPos_of (((HB.out.drewN _).put 0 _).put 1 _) rfl) rfl ⟨?_, ?_⟩
  ·rw [HV1.out, HV2.out]
  ·exact k_28
structure Src where
 v : Value
 n : Nat
 T : Nat → TokD
 el : Int
 ec : Int
 forms : Nat
 fb : Nat → Nat
 lo : Nat
 inv : World → Prop
def Src.tok (S : Src) (k : Nat) : TokD := if k < S.n then S.T k else ⟨0, ⟨#[]⟩, 0, S.el, S.ec⟩
structure DR (W : World) (R : Nat) (S : Src) (k : Nat) : Prop where
 is : ∃ A C, Cells W R 80 [.slice A (S.n - k) C, .int .i64 S.el, .int .i64 S.ec, .map (some S.forms)] ∧ S.n - k ≤ C ∧ C ≤ maxLen ∧
  (k < S.n → ∃ g c, S.v = .slice (some ⟨g, 0, none⟩) S.n c ∧ A = some ⟨g, k * 5, none⟩)
 row : TokRow W S.v S.n S.T
 few : S.n ≤ 1000000
 le : k ≤ S.n
 vR : ∀ g, S.v.ownBlock = some g → g < R
 inv : S.inv W
 stab : ∀ W W', S.inv W → Kept (S.lo ≤ ·) W W' → S.inv W'
 loR : S.lo ≤ R
section
variable {W W' w : World} {R k : Nat} {S : Src}
theorem DR.lt (h : DR W R S k) : R < W.heap.size := by
 obtain ⟨A, C, hc, _⟩ := h.is
 exact hc.lt
theorem DR.kept {X : Nat → Prop} (h : DR W R S k) (hk : Kept X W W') (hx : ∀ g, X g → R < g) : DR W' R S k := by
 obtain ⟨⟨A, C, hc, hr⟩, h2, h3, h4, h5, h6, h7, h8⟩ := h
 exact ⟨⟨A, C, hc.kept hk (fun h => Nat.lt_irrefl _ (hx _ h)), hr⟩, h2.kept hk (fun g hg h => by have := h5 g hg; have := hx g h; omega), h3, h4, h5,
   h7 _ _ h6 (hk.mono (fun g _ h => by have := hx g h; omega)), h7, h8⟩
theorem DR.keep (h : DR W R S k) (hk : Kept noX W W') : DR W' R S k := h.kept hk (fun _ h => h.elim)
theorem DR.alloc (h : DR W R S k) (o : Obj) : DR (W.alloc o) R S k := h.keep ((Kept.refl _ _).alloc o)
theorem DR.drewN (h : DR W R S k) (n : Nat) : DR (W.drewN n) R S k := h.keep ((Kept.refl _ _).drewN n)
theorem DR.drew (h : DR W R S k) : DR W.drew R S k := h.keep ((Kept.refl _ _).drew)
theorem DR.set (h : DR W R S k) {p : Addr} (hp : R < p.block) (v : Value) : DR (W.setCell p v) R S k :=
 h.kept (X := (· = p.block)) ((Kept.refl _ _).setCell (fun _ => by rfl) v) (fun _ h => by rw [h]; exact hp)
theorem next_any (h : DR w R S k) :
  Calls Tryz.prog 77 #[.pointer (some ⟨R, 0, none⟩)] w fun e w' => e = .returned (.agg (S.tok k).cells.toArray) ∧ Kept noX w w' := by
 obtain ⟨A, C, hc, hC, hm, hA⟩ := h.is
 have c0 := hc.cell 0; have c1 := hc.cell 1; have c2 := hc.cell 2
 simp only [aZ, aS] at c0 c1 c2
 have hfew := h.few
 have hRl := hc.lt
 by_cases hlt : k < S.n
 ·obtain ⟨g, c, hv, rfl⟩ := hA hlt
  obtain ⟨g', c', hv', _, hcell⟩ := h.row.at_ hlt
  rw [hv] at hv'
  injection hv' with hgg _ _
  injection hgg with hgg
  injection hgg with hgg
  subst hgg
  have ht : S.tok k = S.T k := if_pos hlt
  have a0 := hcell 0 kom; have a1 := hcell 1 kom; have a2 := hcell 2 kom; have a3 := hcell 3 kom; have a4 := hcell 4 kom
  rw [ht]
  generalize S.T k = t at a0 a1 a2 a3 a4 ⊢
  simp only [TokD.cells, aZ, aS, Nat.add_zero] at a0 a1 a2 a3 a4 ⊢
  have hz : 0 < S.n - k := by omega
  have hz1 : S.n - k ≤ 1000000 := by omega
  have hd : (((S.n - k : Nat) : Int) == 0) = false := by simp; omega
  have hgl := block_lt_of a0
  clear h hcell hA ht hv hc
  generalize S.n - k = m at *
  go_enter Tryz.func77, Tryz.ntmps77
  go_wp2
  exact ret_box Tryz.results77 rfl (World.alloc_heap_new _ _) Tryz.underlying92 rfl krf rfl ⟨rfl, (Kept.refl _ _).alloc _⟩
 ·have ht : S.tok k = ⟨0, ⟨#[]⟩, 0, S.el, S.ec⟩ := if_neg hlt
  have hd : (((S.n - k : Nat) : Int) == 0) = true := by simp; omega
  have hz1 : S.n - k ≤ 1000000 := by omega
  rw [ht]
  simp only [TokD.cells]
  clear h hA ht hc
  generalize S.n - k = m at *
  go_enter Tryz.func77, Tryz.ntmps77
  go_wp2
  exact ret_box Tryz.results77 rfl (World.alloc_heap_new _ _) Tryz.underlying92 rfl krf rfl ⟨rfl, (Kept.refl _ _).alloc _⟩
@[go_sem] theorem field_tok0 (a b c d e : Value) (w : World) : (Instr.field 92 (.agg #[a, b, c, d, e]) 0).run Tryz.prog w = .ok a w := by kernel_rfl
@[go_sem] theorem field_tok1 (a b c d e : Value) (w : World) : (Instr.field 92 (.agg #[a, b, c, d, e]) 1).run Tryz.prog w = .ok b w := by kernel_rfl
@[go_sem] theorem field_tok2 (a b c d e : Value) (w : World) : (Instr.field 92 (.agg #[a, b, c, d, e]) 2).run Tryz.prog w = .ok c w := by kernel_rfl
@[go_sem] theorem field_tok3 (a b c d e : Value) (w : World) : (Instr.field 92 (.agg #[a, b, c, d, e]) 3).run Tryz.prog w = .ok (.agg #[d, e]) w := by kernel_rfl
def misfitV (S : Src) (k : Nat) : Value := .iface 73 (.agg #[.int .i64 (S.tok k).line, .int .i64 (S.tok k).col])
def Misfit (S : Src) (k : Nat) (e : Ending) : Prop := e = .panicked [{ v := misfitV S k, recovered := false }]
theorem refuse_any (h : DR w R S k) :
  Calls Tryz.prog 168 #[.pointer (some ⟨R, 0, none⟩)] w fun e w' => Misfit S k e ∧ Kept noX w w' := by
 unfold Misfit misfitV
 have HN := aP (next_any h)
 generalize S.tok k = t at *
 go_enter Tryz.func168, Tryz.ntmps168
 go_wp2_with fail
 refine HN.out.mono ?_
 rintro e W1 ⟨rfl, hk1⟩
 simp only [TokD.cells]
 go_wp2
 exact ⟨rfl, rfl, hk1⟩
theorem Kept.readsN {N : Nat} (h : Kept noX w W) (hN : w.heap.size = N) : (∀ b o, b < N → W.cell? ⟨b, o, none⟩ = w.cell? ⟨b, o, none⟩) ∧ (∀ b o, b < N → W.frozen? ⟨b, o, none⟩ = w.frozen? ⟨b, o, none⟩) ∧ N ≤ W.heap.size :=
 ⟨fun b _ hb => World.cell?_of_block (h.block b (hN ▸ hb) (fun h => h)), fun b _ hb => World.frozen?_of_block (h.block b (hN ▸ hb) (fun h => h)), hN ▸ h.size⟩
theorem Kept.readsR {N : Nat} (h : Kept (· = R) w W) (hN : w.heap.size = N) : (∀ b o, b < N → R < b → W.cell? ⟨b, o, none⟩ = w.cell? ⟨b, o, none⟩) ∧ (∀ b o, b < N → R < b → W.frozen? ⟨b, o, none⟩ = w.frozen? ⟨b, o, none⟩) ∧ N ≤ W.heap.size :=
 ⟨fun b _ hb hR => World.cell?_of_block (h.block b (hN ▸ hb) (fun h => by omega)), fun b _ hb hR => World.frozen?_of_block (h.block b (hN ▸ hb) (fun h => by omega)), hN ▸ h.size⟩
theorem DR.step (h : DR W R S k) (hk : k < S.n) : ∃ g c C, S.v = .slice (some ⟨g, 0, none⟩) S.n c ∧ W.cell? ⟨R, 0, none⟩ = some (.slice (some ⟨g, k * 5, none⟩) (S.n - k) C) ∧ W.frozen? ⟨R, 0, none⟩ = false ∧ S.n - k ≤ C ∧ C ≤ maxLen := by
 obtain ⟨A, C, hc, hC, hm, hA⟩ := h.is
 obtain ⟨g, c, hv, rfl⟩ := hA hk
 exact ⟨g, c, C, hv, hc.cell 0, hc.free 0, hC, hm⟩
theorem DR.put {m : Nat} (h : DR W R S k) (hm : S.n - k = m) (hk : 0 < m) {g c : Nat} (hv : S.v = .slice (some ⟨g, 0, none⟩) S.n c) (A : Option Addr) (C : Nat) (hA : 1 < m → A = some ⟨g, k * 5 + 5, none⟩) (hC : m - 1 ≤ C) (hm2 : C ≤ maxLen) :
  DR (W.setCell ⟨R, 0, none⟩ (.slice A (m - 1) C)) R S (k + 1) ∧ Kept (· = R) W (W.setCell ⟨R, 0, none⟩ (.slice A (m - 1) C)) := by
 have hkk : Kept (· = R) W (W.setCell ⟨R, 0, none⟩ (.slice A (m - 1) C)) := (Kept.refl _ _).setCell (fun _ => by rfl) _
 obtain ⟨A0, C0, hc, _⟩ := h.is
 have e : S.n - (k + 1) = m - 1 := by omega
 refine ⟨⟨⟨A, C, by rw [e]; exact hc.put 0 _, by rw [e]; exact hC, hm2, fun hlt => ⟨g, c, hv, by rw [hA kom, Nat.add_mul]⟩⟩, h.row.kept hkk (fun g hg e => Nat.lt_irrefl _ (e ▸ h.vR g hg)), h.few, by omega, h.vR,
   h.stab _ _ h.inv (hkk.mono (fun g _ e => by have := h.loR; omega)), h.stab, h.loR⟩, hkk⟩
theorem fin_box {fn : Func} {p : Tmp} {ty : TypeId} (h : fn.results = #[.cell p ty]) {a : Act} {Wf : World} {B : Nat} {t : TypeId} {old : List Value} (cs : List Value) {Post : Ending → World → Prop} {d : TypeDesc}
  (hp : a.tmps.getD p undef = .pointer (some ⟨B, 0, none⟩)) (hB : Cells W B t old) (hl : cs.length = old.length) (hd : DR W R S k) (hne : R < B) (hBw : w.heap.size ≤ B) (hk : Kept (· = R) w W)
  (hu : Tryz.prog.underlying ty = some d) (hdd : aggB d = true) (hi : (Tryz.prog.info? ty).map (·.size) = some cs.length)
  (hf : a.defers = []) (hw : Kept noX (putL W B 0 cs) Wf)
  (hR : DR Wf R S k → Kept (· = R) w Wf → Kept (· = B) W (putL W B 0 cs) → (putL W B 0 cs).heap.size = W.heap.size → Post (.returned (.agg cs.toArray)) Wf) : bodyPost Tryz.prog fn Post .ret a Wf := by
 obtain ⟨h1, h2⟩ := putL_all cs hB hl
 refine ret_box h hp (h1.kept hw (fun h => h)) hu hdd hi hf (hR ((hd.kept h2 (fun g hg => by rw [hg]; exact hne)).keep hw) ?_ h2 (putL_size _ _ _ _))
 exact (hk.join h2 (fun i hi hlt => by omega)).trans hw.any
def takeB (S : Src) (k : Nat) (s : ByteArray) : Bool := decide ((S.tok k).text = s)
theorem takeB_lt {s : ByteArray} (h : takeB S k s = true) (hs : s ≠ ⟨#[]⟩) : k < S.n := by
 by_cases hlt : k < S.n
 ·exact hlt
 ·have e : S.tok k = ⟨0, ⟨#[]⟩, 0, S.el, S.ec⟩ := if_neg hlt
  have h2 : (S.tok k).text = s := of_decide_eq_true h
  rw [e] at h2
  exact absurd h2.symm hs
theorem take_any {s : ByteArray} (hs : s ≠ ⟨#[]⟩) (h : DR w R S k) :
  Calls Tryz.prog 129 #[.pointer (some ⟨R, 0, none⟩), .string s] w fun e w' => e = .returned (.bool (takeB S k s)) ∧ DR w' R S (k + (takeB S k s).toNat) ∧ Kept (· = R) w w' := by
 have HN := aP (next_any h)
 have hbt := beq_text (S.tok k).text s
 cases ht : takeB S k s with
 | false =>
  have hne : ((S.tok k).text.toList == s.toList) = false := by rw [hbt]; exact ht
  have HH := aP h
  clear ht h hbt
  go_enter Tryz.func129, Tryz.ntmps129
  go_wp2_with fail
  refine HN.out.mono ?_
  rintro e W1 ⟨rfl, hk1⟩
  simp only [TokD.cells]
  go_wp2
  go_ret
  exact ⟨rfl, HH.out.keep hk1, hk1.any⟩
 | true =>
  have hne : ((S.tok k).text.toList == s.toList) = true := by rw [hbt]; exact ht
  have hlt := takeB_lt ht hs
  obtain ⟨g, c, C, hv, c0, f0, hC, hm⟩ := h.step hlt
  have hRl := h.lt
  unfold maxLen at hm
  have hfew := h.few
  have hz : 0 < S.n - k := by omega
  have hz1 : S.n - k ≤ 1000000 := by omega
  have HH := aP h
  have HV := aP hv
  clear ht h hbt hv
  generalize hmm : S.n - k = m at *
  have HM := aP hmm
  clear hmm
  go_enter Tryz.func129, Tryz.ntmps129
  go_wp2_with fail
  refine HN.out.mono ?_
  rintro e W1 ⟨rfl, hk1⟩
  obtain ⟨r1, r2, r3⟩ := hk1.readsN rfl
  simp only [TokD.cells]
  go_wp2
  all_goals
   go_ret
   have hp := fun A C h1 h2 h3 => (HH.out.keep hk1).put HM.out hz HV.out A C h1 h2 h3
   exact ⟨rfl, (hp _ _ (fun h => by first | rfl | omega) kom (by unfold maxLen; omega)).1, hk1.any.trans (hp _ _ (fun h => by first | rfl | omega) kom (by unfold maxLen; omega)).2⟩
def Parsed {α : Type} (w : World) (R : Nat) (S : Src) (ret : World → World → α → Ending → Prop) (r : Except Nat (α × Nat)) (e : Ending) (w' : World) : Prop :=
 match r with
 | .error k => Misfit S k e ∧ Kept (· = R) w w'
 | .ok p => ret w w' p.1 e ∧ DR w' R S p.2 ∧ Kept (· = R) w w'
theorem Parsed.cases {α : Type} {ret : World → World → α → Ending → Prop} {r : Except Nat (α × Nat)} {e : Ending} (h : Parsed w R S ret r e W) :
  (∃ k, r = .error k ∧ Misfit S k e ∧ Kept (· = R) w W) ∨ (∃ a k, r = .ok (a, k) ∧ ret w W a e ∧ DR W R S k ∧ Kept (· = R) w W) := by
 cases r with
 | error k => exact .inl ⟨k, rfl, h⟩
 | ok p => exact .inr ⟨p.1, p.2, rfl, h⟩
theorem Parsed.err {α : Type} {ret : World → World → α → Ending → Prop} {r : Except Nat (α × Nat)} {e : Ending} (hr : r = .error k) (hm : Misfit S k e) (hk : Kept (· = R) w W) : Parsed w R S ret r e W := by subst hr; exact ⟨hm, hk⟩
theorem Parsed.ok {α : Type} {ret : World → World → α → Ending → Prop} {r : Except Nat (α × Nat)} {e : Ending} {a : α} (hr : r = .ok (a, k)) (h1 : ret w W a e) (h2 : DR W R S k) (hk : Kept (· = R) w W) : Parsed w R S ret r e W := by subst hr; exact ⟨h1, h2, hk⟩
def thn {α β : Type} (r : Except Nat (α × Nat)) (f : α → Nat → Except Nat (β × Nat)) : Except Nat (β × Nat) :=
 match r with
 | .error k => .error k
 | .ok p => f p.1 p.2
theorem thn_err {α β : Type} (k : Nat) (f : α → Nat → Except Nat (β × Nat)) : thn (.error k) f = .error k := rfl
theorem thn_ok {α β : Type} (a : α) (k : Nat) (f : α → Nat → Except Nat (β × Nat)) : thn (.ok (a, k)) f = f a k := rfl
def retU (_ _ : World) (_ : Unit) (e : Ending) : Prop := e = .returned (.tuple #[])
def retS (_ _ : World) (s : ByteArray) (e : Ending) : Prop := e = .returned (.string s)
def retI (_ _ : World) (n : Int) (e : Ending) : Prop := e = .returned (.int .i64 n)
def retT (_ _ : World) (t : TokD) (e : Ending) : Prop := e = .returned (.agg t.cells.toArray)
def retE (w w' : World) (x : ET) (e : Ending) : Prop := ∃ cs, e = .returned (.agg cs.toArray) ∧ EV w' (· < w.heap.size) cs x
def retSt (w w' : World) (x : ST) (e : Ending) : Prop := ∃ cs, e = .returned (.agg cs.toArray) ∧ SV w' (· < w.heap.size) cs x
def retB (w w' : World) (x : List ST) (e : Ending) : Prop := ∃ v, e = .returned v ∧ RowV w' (· < w.heap.size) v (ST.ds x)
def retD (w w' : World) (x : DT) (e : Ending) : Prop := ∃ cs, e = .returned (.agg cs.toArray) ∧ DV w' (· < w.heap.size) cs x
def wantS (S : Src) (k : Nat) (s : ByteArray) : Except Nat (Unit × Nat) := if takeB S k s then .ok ((), k + 1) else .error k
theorem want_any {s : ByteArray} (hs : s ≠ ⟨#[]⟩) (h : DR w R S k) : Calls Tryz.prog 125 #[.pointer (some ⟨R, 0, none⟩), .string s] w (Parsed w R S retU (wantS S k s)) := by
 have HT := aP (take_any hs h)
 cases ht : takeB S k s with
 | true =>
  rw [ht] at HT
  have HW : Hid (wantS S k s = .ok ((), k + 1)) := aP (by simp [wantS, ht])
  clear ht h
  go_enter Tryz.func125, Tryz.ntmps125
  go_wp2_with fail
  refine HT.out.mono ?_
  rintro e W1 ⟨rfl, hd, hk1⟩
  go_wp2
  go_end0
  exact Parsed.ok HW.out rfl hd hk1
 | false =>
  rw [ht] at HT
  have HW : Hid (wantS S k s = .error k) := aP (by simp [wantS, ht])
  have HR := aP (fun W (h : DR W R S k) => refuse_any h)
  clear ht h
  go_enter Tryz.func125, Tryz.ntmps125
  go_wp2_with fail
  refine HT.out.mono ?_
  rintro e W1 ⟨rfl, hd, hk1⟩
  go_wp2_with fail
  refine (HR.out W1 hd).mono ?_
  rintro e W2 ⟨hm, hk2⟩
  unfold Misfit at hm
  subst hm
  go_wp2
  exact ⟨rfl, Parsed.err HW.out rfl (hk1.trans hk2.any)⟩
def kindB (S : Src) (k : Nat) (q : Int) : Bool := decide ((S.tok k).kind = q)
theorem Src.tok_lt {q : Int} (h : kindB S k q = true) (hq : q ≠ 0) : k < S.n := by
 by_cases hlt : k < S.n
 ·exact hlt
 ·have : S.tok k = ⟨0, ⟨#[]⟩, 0, S.el, S.ec⟩ := if_neg hlt
  unfold kindB at h
  rw [this] at h
  exact absurd (of_decide_eq_true h).symm hq
def ofS (S : Src) (k : Nat) (q : Int) : Except Nat (TokD × Nat) := if kindB S k q then .ok (S.tok k, k + 1) else .error k
theorem of_any {q : Int} (hq : q ≠ 0) (h : DR w R S k) : Calls Tryz.prog 167 #[.pointer (some ⟨R, 0, none⟩), .int .i64 q] w (Parsed w R S retT (ofS S k q)) := by
 have HN := aP (next_any (h.alloc (.cells #[.int .i64 0, .string ⟨#[]⟩, .int .i64 0, .int .i64 0, .int .i64 0] 92)))
 have hsz : (w.alloc (.cells #[.int .i64 0, .string ⟨#[]⟩, .int .i64 0, .int .i64 0, .int .i64 0] 92)).heap.size = w.heap.size + 1 := by simp
 have hRl := h.lt
 have HH := aP h
 cases ht : kindB S k q with
 | false =>
  have hne : ((S.tok k).kind != q) = true := by rw [bne_iff_ne]; exact of_decide_eq_false ht
  have HW : Hid (ofS S k q = .error k) := aP (by simp [ofS, ht])
  have HR := aP (fun W (h : DR W R S k) => refuse_any h)
  clear ht h hsz
  go_enter Tryz.func167, Tryz.ntmps167
  go_wp2_with fail
  refine HN.out.mono ?_
  rintro e W1 ⟨rfl, hk1⟩
  have hd1 := (HH.out.alloc _).keep hk1
  simp only [TokD.cells]
  go_wp2_with fail
  refine (HR.out _ (hd1.alloc _)).mono ?_
  rintro e W2 ⟨hm, hk2⟩
  unfold Misfit at hm
  subst hm
  go_wp2
  exact ⟨rfl, Parsed.err HW.out rfl (((((Kept.refl _ _).alloc _).trans hk1).alloc _).trans hk2).any⟩
 | true =>
  have hne : ((S.tok k).kind != q) = false := by have : (S.tok k).kind = q := of_decide_eq_true ht; rw [this]; simp
  have HW : Hid (ofS S k q = .ok (S.tok k, k + 1)) := aP (by simp [ofS, ht])
  have hlt := Src.tok_lt ht hq
  obtain ⟨g, c, C, hv, c0, f0, hC, hm⟩ := h.step hlt
  unfold maxLen at hm
  have hfew := h.few
  have hz : 0 < S.n - k := by omega
  have hz1 : S.n - k ≤ 1000000 := by omega
  have HV := aP hv
  clear ht h hv
  generalize hmm : S.n - k = m at *
  have HM := aP hmm
  clear hmm
  go_enter Tryz.func167, Tryz.ntmps167
  go_wp2_with fail
  refine HN.out.mono ?_
  rintro e W1 ⟨rfl, hk1⟩
  obtain ⟨r1, r2, r3⟩ := hk1.readsN hsz
  have l1 : R < W1.heap.size := by omega
  have l2 : w.heap.size < W1.heap.size := by omega
  clear hsz
  simp only [TokD.cells]
  have HP := aP (fun A C h1 h2 h3 => ((HH.out.alloc (.cells #[.int .i64 0, .string ⟨#[]⟩, .int .i64 0, .int .i64 0, .int .i64 0] 92)).keep hk1).put HM.out hz HV.out A C h1 h2 h3)
  have hB1 := (Cells.fresh w 92 [.int .i64 0, .string ⟨#[]⟩, .int .i64 0, .int .i64 0, .int .i64 0]).kept hk1 (fun h => h)
  have HB1 := aP hB1
  clear hB1
  go_wp2
  all_goals
   refine fin_box (W := W1.setCell ⟨R, 0, none⟩ _) (B := w.heap.size) Tryz.results167 [.int .i64 (S.tok k).kind, .string (S.tok k).text, .int .i64 (S.tok k).num, .int .i64 (S.tok k).line, .int .i64 (S.tok k).col] rfl
    (HB1.out.kept (HP.out _ _ (fun h => by first | rfl | (exfalso; omega)) kom (by unfold maxLen; omega)).2 kom) rfl (HP.out _ _ (fun h => by first | rfl | (exfalso; omega)) kom (by unfold maxLen; omega)).1 hRl (Nat.le_refl _)
    ((((Kept.refl _ _).alloc _).trans hk1).any.trans (HP.out _ _ (fun h => by first | rfl | (exfalso; omega)) kom (by unfold maxLen; omega)).2) Tryz.underlying92 rfl krf rfl ((Kept.refl _ _).alloc _) (fun hd hk _ _ => Parsed.ok HW.out rfl hd hk)
def nameS (S : Src) (k : Nat) : Except Nat (ByteArray × Nat) := thn (ofS S k 1) fun t k => .ok (t.text, k)
def numS (S : Src) (k : Nat) : Except Nat (Int × Nat) := thn (ofS S k 2) fun t k => .ok (t.num, k)
theorem name_calls (h : DR w R S k) : Calls Tryz.prog 124 #[.pointer (some ⟨R, 0, none⟩)] w (Parsed w R S retS (nameS S k)) := by
 have HS : Hid (nameS S k = thn (ofS S k 1) fun t k => .ok (t.text, k)) := aP rfl
 have HO := aP (of_any (q := 1) (by decide) h)
 clear h
 go_enter Tryz.func124, Tryz.ntmps124
 go_wp2_with fail
 refine (HO.out).mono ?_
 intro e W1 hq
 rcases hq.cases with ⟨kx, hr, hm, hk1⟩ | ⟨a1, k1, hr, hret, hd1, hk1⟩
 ·exact k_3
 replace HS := aP (HS.out.trans (by rw [hr, thn_ok]))
 clear hr hq
 have hret : e = _ := hret
 subst hret
 simp only [TokD.cells]
 go_wp2
 go_ret
 exact Parsed.ok HS.out rfl hd1 hk1
theorem number_calls (h : DR w R S k) : Calls Tryz.prog 134 #[.pointer (some ⟨R, 0, none⟩)] w (Parsed w R S retI (numS S k)) := by
 have HS : Hid (numS S k = thn (ofS S k 2) fun t k => .ok (t.num, k)) := aP rfl
 have HO := aP (of_any (q := 2) (by decide) h)
 clear h
 go_enter Tryz.func134, Tryz.ntmps134
 go_wp2_with fail
 refine (HO.out).mono ?_
 intro e W1 hq
 rcases hq.cases with ⟨kx, hr, hm, hk1⟩ | ⟨a1, k1, hr, hret, hd1, hk1⟩
 ·exact k_3
 replace HS := aP (HS.out.trans (by rw [hr, thn_ok]))
 clear hr hq
 have hret : e = _ := hret
 subst hret
 simp only [TokD.cells]
 go_wp2
 go_ret
 exact Parsed.ok HS.out rfl hd1 hk1
end
def rankL : List Int := [0, 1, 2, 3, 3, 3, 3, 4, 4, 5, 5, 5]
def signB : List ByteArray := [⟨#[]⟩, ⟨#[124, 124]⟩, ⟨#[38, 38]⟩, ⟨#[61, 61]⟩, ⟨#[33, 61]⟩, ⟨#[60]⟩, ⟨#[60, 61]⟩, ⟨#[43]⟩, ⟨#[45]⟩, ⟨#[42]⟩, ⟨#[47]⟩, ⟨#[37]⟩]
def rankOf (o : Nat) : Int := rankL.getD o 0
def signOf (o : Nat) : ByteArray := signB.getD o ⟨#[]⟩
theorem rank_any (o : Nat) (ho : o < 12) (w : World) : Calls Tryz.prog 55 #[.int .i64 (o : Nat)] w fun e w' => e = .returned (.int .i64 (rankOf o)) ∧ Kept noX w w' := by
 have hc := (Cells.fresh w 3 (rankL.map (Value.int .i64))).cell o
 have hk := (Kept.refl noX w).alloc (.cells (rankL.map (Value.int .i64)).toArray 3)
 have hl : o < rankL.length := ho
 have e : (rankL.map (Value.int .i64))[o]? = some (.int .i64 (rankOf o)) := by
  rw [List.getElem?_map, rankOf, List.getD_eq_getElem?_getD, List.getElem?_eq_getElem hl]
  rfl
 rw [e] at hc
 have HK := aP hk
 clear e hl hk
 generalize rankOf o = r at hc ⊢
 simp only [rankL, List.map_cons, List.map_nil] at hc HK
 go_enter Tryz.func55, Tryz.ntmps55
 go_wp2
 go_ret
 exact ⟨rfl, HK.out⟩
theorem rsign_any (o : Nat) (ho : o < 12) (w : World) : Calls Tryz.prog 56 #[.int .i64 (o : Nat)] w fun e w' => e = .returned (.string (signOf o)) ∧ Kept noX w w' := by
 have hc := (Cells.fresh w 9 (signB.map Value.string)).cell o
 have hk := (Kept.refl noX w).alloc (.cells (signB.map Value.string).toArray 9)
 have hl : o < signB.length := ho
 have e : (signB.map Value.string)[o]? = some (.string (signOf o)) := by
  rw [List.getElem?_map, signOf, List.getD_eq_getElem?_getD, List.getElem?_eq_getElem hl]
  rfl
 rw [e] at hc
 have HK := aP hk
 clear e hl hk
 generalize signOf o = r at hc ⊢
 simp only [signB, List.map_cons, List.map_nil] at hc HK
 go_enter Tryz.func56, Tryz.ntmps56
 go_wp2
 go_ret
 exact ⟨rfl, HK.out⟩
def firstOf (f : Nat → Bool) : Nat → Nat → Nat
 | _, 0 => 0
 | o, c + 1 => if f o then o else firstOf f (o + 1) c
def opOk (n : Nat) (T : Nat → TokD) (k : Nat) (bad : Bool) (q : Int) (o : Nat) : Bool := decide (rankOf o = q) && isP n T k bad (signOf o)
def nextP (n : Nat) (T : Nat → TokD) (k : Nat) (bad : Bool) (q : Int) : Nat := firstOf (opOk n T k bad q) 1 11
theorem rdnext_any (R : Nat) (v : Value) (n : Nat) (T : Nat → TokD) (k : Nat) (bad : Bool) (q : Int) (w : World) (h : R2 w R v n T k bad) :
  Calls Tryz.prog 189 #[.pointer (some ⟨R, 0, none⟩), .int .i64 q] w fun e w' => e = .returned (.int .i64 (nextP n T k bad q : Nat)) ∧ Kept noX w w' := by
 go_enter Tryz.func189, Tryz.ntmps189
 go_wp2
 go_loopw [5] (fun i wr => ∃ o c : Nat, i = .int .i64 o ∧ 1 ≤ o ∧ o + c = 12 ∧ firstOf (opOk n T k bad q) o c = nextP n T k bad q ∧ Kept noX w wr) (fun i _ => 12 - (intOf i).toNat)
 case atStart => exact ⟨1, 11, rfl, Nat.le_refl _, rfl, rfl, Kept.refl _ _⟩
 case round =>
  obtain ⟨o, c, rfl, ho, hoc, hf, hkr⟩ := hrel
  cases c with
  | zero =>
   obtain rfl : o = 12 := by omega
   have HF : Hid (nextP n T k bad q = 0) := aP (by rw [← hf] <;> rfl)
   clear hf
   go_wp2
   go_ret
   exact ⟨by rw [HF.out] <;> rfl, hkr⟩
  | succ c =>
   have hlt : o < 12 := by omega
   have hle : (o : Int) ≤ 11 := by omega
   have HR := aP (rank_any o hlt wr)
   have HG := aP (fun W => rsign_any o hlt W)
   have HI := aP (fun W (hk : Kept noX wr W) => rdis_any R v n T k bad (signOf o) W (h.keep (hkr.trans hk)))
   have hfe : firstOf (opOk n T k bad q) o (c + 1) = if opOk n T k bad q o then o else firstOf (opOk n T k bad q) (o + 1) c := rfl
   rw [hfe] at hf
   by_cases hrk : rankOf o = q
   ·have hq : ((rankOf o : Int) == q) = true := by simpa using hrk
    cases hp : isP n T k bad (signOf o) with
    | true =>
     have HF : Hid (nextP n T k bad q = o) := aP (by rw [← hf]; simp [opOk, hrk, hp])
     rw [hp] at HI
     clear hf hfe hp hrk
     go_wp2_with fail
     refine HR.out.mono ?_
     rintro e W1 ⟨rfl, hk1⟩
     go_wp2_with fail
     refine (HG.out _).mono ?_
     rintro e W2 ⟨rfl, hk2⟩
     go_wp2_with fail
     refine (HI.out _ (hk1.trans hk2)).mono ?_
     rintro e W3 ⟨rfl, hk3⟩
     go_wp2
     go_ret
     exact ⟨by rw [HF.out] <;> rfl, ((hkr.trans hk1).trans hk2).trans hk3⟩
    | false =>
     have HF : Hid (firstOf (opOk n T k bad q) (o + 1) c = nextP n T k bad q) := aP (by rw [← hf]; simp [opOk, hp])
     rw [hp] at HI
     clear hf hfe hp hrk
     go_wp2_with fail
     refine HR.out.mono ?_
     rintro e W1 ⟨rfl, hk1⟩
     go_wp2_with fail
     refine (HG.out _).mono ?_
     rintro e W2 ⟨rfl, hk2⟩
     go_wp2_with fail
     refine (HI.out _ (hk1.trans hk2)).mono ?_
     rintro e W3 ⟨rfl, hk3⟩
     go_wp2
     go_roundw
     case rel => exact ⟨o + 1, c, by go_num, by omega, by omega, HF.out, ((hkr.trans hk1).trans hk2).trans hk3⟩
     case measure => simp [intOf]; omega
   ·have hq : ((rankOf o : Int) == q) = false := by simpa using hrk
    have HF : Hid (firstOf (opOk n T k bad q) (o + 1) c = nextP n T k bad q) := aP (by rw [← hf]; simp [opOk, hrk])
    clear hf hfe hrk
    go_wp2_with fail
    refine HR.out.mono ?_
    rintro e W1 ⟨rfl, hk1⟩
    go_wp2
    go_roundw
    case rel => exact ⟨o + 1, c, by go_num, by omega, by omega, HF.out, hkr.trans hk1⟩
    case measure => simp [intOf]; omega
section
variable (n : Nat) (T : Nat → TokD)
def numP (k : Nat) : Bool := decide (k < n) && decide ((T k).kind = 2)
def mustK (k : Nat) (bad : Bool) (s : ByteArray) : Nat × Bool := (stepP n T k bad s, bad || !isP n T k bad s)
mutual
def primP : Nat → Nat → Bool → ET × Nat × Bool
 | 0, k, bad => (numE 0, k, bad)
 | f + 1, k, bad =>
  if isP n T k bad ⟨#[40]⟩ then
   ((exprP f 1 (k + 1) bad).1, mustK n T (exprP f 1 (k + 1) bad).2.1 (exprP f 1 (k + 1) bad).2.2 ⟨#[41]⟩)
  else if numP n T k then (numE (numOf n T k bad), kindStep n T k bad 2, kindBad n T k bad 2)
  else if isP n T (kindStep n T k bad 1) (kindBad n T k bad 1) ⟨#[91]⟩ then
   (cellE (nameOf n T k bad) (exprP f 1 (kindStep n T k bad 1 + 1) (kindBad n T k bad 1)).1,
     mustK n T (exprP f 1 (kindStep n T k bad 1 + 1) (kindBad n T k bad 1)).2.1 (exprP f 1 (kindStep n T k bad 1 + 1) (kindBad n T k bad 1)).2.2 ⟨#[93]⟩)
  else (nameE (nameOf n T k bad), kindStep n T k bad 1, kindBad n T k bad 1)
def unP : Nat → Nat → Bool → ET × Nat × Bool
 | 0, k, bad => (numE 0, k, bad)
 | f + 1, k, bad =>
  if isP n T k bad ⟨#[45]⟩ then (negE (unP f (k + 1) bad).1, (unP f (k + 1) bad).2)
  else if isP n T k bad ⟨#[33]⟩ then (notE (unP f (k + 1) bad).1, (unP f (k + 1) bad).2)
  else primP f k bad
def exprP : Nat → Nat → Nat → Bool → ET × Nat × Bool
 | 0, _, k, bad => (numE 0, k, bad)
 | f + 1, q, k, bad =>
  if 5 < q then unP f k bad
  else loopP f q (exprP f (q + 1) k bad).1 (exprP f (q + 1) k bad).2.1 (exprP f (q + 1) k bad).2.2
def loopP : Nat → Nat → ET → Nat → Bool → ET × Nat × Bool
 | 0, _, e, k, bad => (e, k, bad)
 | f + 1, q, e, k, bad =>
  if nextP n T k bad q = 0 then (e, k, bad)
  else if q = 3 then (binE (nextP n T k bad q : Nat) e (exprP f (q + 1) (k + 1) bad).1, (exprP f (q + 1) (k + 1) bad).2)
  else loopP f q (binE (nextP n T k bad q : Nat) e (exprP f (q + 1) (k + 1) bad).1) (exprP f (q + 1) (k + 1) bad).2.1 (exprP f (q + 1) (k + 1) bad).2.2
end
theorem stepP_le (k : Nat) (bad : Bool) (s : ByteArray) : k ≤ stepP n T k bad s := by unfold stepP; split <;> omega
theorem kindStep_le (k : Nat) (bad : Bool) (q : Int) : k ≤ kindStep n T k bad q := by unfold kindStep; split <;> omega
theorem reads_on : ∀ f, (∀ k bad, k ≤ (primP n T f k bad).2.1) ∧ (∀ k bad, k ≤ (unP n T f k bad).2.1) ∧ (∀ q k bad, k ≤ (exprP n T f q k bad).2.1) ∧ (∀ q e k bad, k ≤ (loopP n T f q e k bad).2.1) := by
 intro f
 induction f with
 | zero =>
  refine ⟨fun k bad => ?_, fun k bad => ?_, fun q k bad => ?_, fun q e k bad => ?_⟩
  ·rw [primP]; exact Nat.le_refl _
  ·rw [unP]; exact Nat.le_refl _
  ·rw [exprP]; exact Nat.le_refl _
  ·rw [loopP]; exact Nat.le_refl _
 | succ f ih =>
  obtain ⟨h1, h2, h3, h4⟩ := ih
  refine ⟨fun k bad => ?_, fun k bad => ?_, fun q k bad => ?_, fun q e k bad => ?_⟩
  ·rw [primP]
   split
   ·have a := h3 1 (k + 1) bad
    have b := stepP_le n T (exprP n T f 1 (k + 1) bad).2.1 (exprP n T f 1 (k + 1) bad).2.2 ⟨#[41]⟩
    show k ≤ stepP n T _ _ _
    omega
   ·split
    ·exact kindStep_le n T k bad 2
    ·have a0 := kindStep_le n T k bad 1
     split
     ·have a := h3 1 (kindStep n T k bad 1 + 1) (kindBad n T k bad 1)
      have b := stepP_le n T (exprP n T f 1 (kindStep n T k bad 1 + 1) (kindBad n T k bad 1)).2.1 (exprP n T f 1 (kindStep n T k bad 1 + 1) (kindBad n T k bad 1)).2.2 ⟨#[93]⟩
      show k ≤ stepP n T _ _ _
      omega
     ·exact a0
  ·rw [unP]
   split
   ·have := h2 (k + 1) bad; dsimp only; omega
   ·split
    ·have := h2 (k + 1) bad; dsimp only; omega
    ·exact h1 k bad
  ·rw [exprP]
   split
   ·exact h2 k bad
   ·have a := h3 (q + 1) k bad
    have b := h4 q (exprP n T f (q + 1) k bad).1 (exprP n T f (q + 1) k bad).2.1 (exprP n T f (q + 1) k bad).2.2
    omega
  ·rw [loopP]
   have a := h3 (q + 1) (k + 1) bad
   split
   ·exact Nat.le_refl _
   ·split
    ·dsimp only; omega
    ·have b := h4 q (binE (nextP n T k bad q : Nat) e (exprP n T f (q + 1) (k + 1) bad).1) (exprP n T f (q + 1) (k + 1) bad).2.1 (exprP n T f (q + 1) (k + 1) bad).2.2
     omega
end
def Reads (w : World) (R : Nat) (v : Value) (n : Nat) (T : Nat → TokD) (r : ET × Nat × Bool) (e : Ending) (W' : World) : Prop :=
 ∃ cs, e = .returned (.agg cs.toArray) ∧ EV W' (· < w.heap.size) cs r.1 ∧ R2 W' R v n T r.2.1 r.2.2 ∧ Kept (· = R) w W'
def UnC (n : Nat) (T : Nat → TokD) (f : Nat) : Prop := ∀ R v k bad w, R2 w R v n T k bad → k ≤ n → (n - k) * 10 + 2 ≤ f → Calls Tryz.prog 188 #[.pointer (some ⟨R, 0, none⟩)] w (Reads w R v n T (unP n T f k bad))
def PrimC (n : Nat) (T : Nat → TokD) (f : Nat) : Prop := ∀ R v k bad w, R2 w R v n T k bad → k ≤ n → (n - k) * 10 + 1 ≤ f → Calls Tryz.prog 197 #[.pointer (some ⟨R, 0, none⟩)] w (Reads w R v n T (primP n T f k bad))
def ExprC (n : Nat) (T : Nat → TokD) (f : Nat) : Prop := ∀ R v (q : Nat) k bad w, R2 w R v n T k bad → k ≤ n → 1 ≤ q → q ≤ 6 → (n - k) * 10 + (9 - q) ≤ f → Calls Tryz.prog 171 #[.pointer (some ⟨R, 0, none⟩), .int .i64 q] w (Reads w R v n T (exprP n T f q k bad))
def put7 (W : World) (B : Nat) (a b c d e f g : Value) : World :=
 ((((((W.setCell ⟨B, 0, none⟩ a).setCell ⟨B, 1, none⟩ b).setCell ⟨B, 2, none⟩ c).setCell ⟨B, 3, none⟩ d).setCell ⟨B, 4, none⟩ e).setCell ⟨B, 5, none⟩ f).setCell ⟨B, 6, none⟩ g
theorem put7_is {W : World} {B : Nat} {t : TypeId} {a b c d e f g a0 b0 c0 d0 e0 f0 g0 : Value} (h : Cells W B t [a0, b0, c0, d0, e0, f0, g0]) :
  Cells (put7 W B a b c d e f g) B t [a, b, c, d, e, f, g] ∧ Kept (· = B) W (put7 W B a b c d e f g) :=
 ⟨((((((h.put 0 a).put 1 b).put 2 c).put 3 d).put 4 e).put 5 f).put 6 g,
   (((((((Kept.refl _ _).setCell (fun _ => by rfl) a).setCell (fun _ => by rfl) b).setCell (fun _ => by rfl) c).setCell (fun _ => by rfl) d).setCell (fun _ => by rfl) e).setCell (fun _ => by rfl) f).setCell (fun _ => by rfl) g⟩
theorem resultsUn_of {W : World} {B : Nat} {tmps : Array Value} {a b c d e f g : Value} (h : Cells W B 44 [a, b, c, d, e, f, g]) (h2 : tmps.getD 2 undef = .pointer (some ⟨B, 0, none⟩)) :
  (results Tryz.f188 tmps).run Tryz.prog W = .ok (.agg #[a, b, c, d, e, f, g]) W := by
 have d0 := h.cell 0; have d1 := h.cell 1; have d2 := h.cell 2; have d3 := h.cell 3; have d4 := h.cell 4; have d5 := h.cell 5; have d6 := h.cell 6
 simp only [aZ, aS] at d0 d1 d2 d3 d4 d5 d6
 rw [Array.getD_eq_getD_getElem?] at h2
 simp [results, Tryz.results188, go_sem, h2, d0, d1, d2, d3, d4, d5, d6]
theorem Reads.boxed {w W W3 : World} {R B : Nat} {v : Value} {n : Nat} {T : Nat → TokD} {r : ET × Nat × Bool} {cs : List Value} {e : Ending} (hB : B = w.heap.size) (hRB : R ≠ B)
  (hev : EV W (· < B + 1) cs r.1) (hr : R2 W R v n T r.2.1 r.2.2) (hk : Kept (· = R) w W) (hk3 : Kept (· = B) W W3) (hvB : ∀ g, v.ownBlock = some g → g ≠ B) (he : e = .returned (.agg cs.toArray)) : Reads w R v n T r e W3 :=
 ⟨cs, he, (hev.kept hk3 (fun g _ h => by omega)).mono (fun g _ h => by omega), hr.kept hk3 hRB hvB, hk.join hk3 (fun i hi hlt => by omega)⟩
theorem un_step {n : Nat} {T : Nat → TokD} {f : Nat} (hu : UnC n T f) (hp : PrimC n T f) : UnC n T (f + 1) := by
 intro R v k bad w h hkn hf
 have hB := Cells.fresh w 44 [.int .i64 0, .int .i64 0, .string ⟨#[]⟩, .int .i64 0, .bool false, .int .i64 0, .slice none 0 0]
 have hkA := (Kept.refl noX w).alloc (.cells #[.int .i64 0, .int .i64 0, .string ⟨#[]⟩, .int .i64 0, .bool false, .int .i64 0, .slice none 0 0] 44)
 have hA := h.keep hkA
 have HB := aP hB
 have HA := aP hA
 have HKA := aP hkA
 have HT := aP (rdtake_any R v n T k bad ⟨#[45]⟩ _ hA)
 have hRB : R ≠ w.heap.size := by have := h.is.lt; omega
 have hvB : ∀ g, v.ownBlock = some g → g ≠ w.heap.size := fun g hg => by
  obtain ⟨xs, ho, _⟩ := h.row
  have := (ho.lt g hg).2
  omega
 have hue : unP n T (f + 1) k bad = if isP n T k bad ⟨#[45]⟩ then (negE (unP n T f (k + 1) bad).1, (unP n T f (k + 1) bad).2)
  else if isP n T k bad ⟨#[33]⟩ then (notE (unP n T f (k + 1) bad).1, (unP n T f (k + 1) bad).2) else primP n T f k bad := by rw [unP]
 clear h hA hB hkA
 cases h1 : isP n T k bad ⟨#[45]⟩ with
 | true =>
  rw [h1, if_pos rfl] at hue
  have hst : stepP n T k bad ⟨#[45]⟩ = k + 1 := by simp [stepP, h1]
  have hlt := (isP_lt h1).1
  rw [h1, hst] at HT
  have HU := aP (fun W (hr : R2 W R v n T (k + 1) bad) => hu R v (k + 1) bad W hr kom kom)
  have HUE := aP hue
  clear hue h1 hst
  go_enter Tryz.func188, Tryz.ntmps188
  go_wp2_with fail
  refine HT.out.mono ?_
  rintro e W1 ⟨rfl, hr1, hk1⟩
  go_wp2_with fail
  refine (HU.out _ hr1).mono ?_
  rintro e W2 ⟨cs, rfl, hev, hr2, hk2⟩
  obtain ⟨kk, mm, ss, sl, lo, oo, A1, N1, C1, rfl⟩ := hev.form
  have hB2 := (HB.out.kept hk1 (fun h => hRB h.symm)).kept hk2 (fun h => hRB h.symm)
  have hsz : (w.alloc (.cells #[.int .i64 0, .int .i64 0, .string ⟨#[]⟩, .int .i64 0, .bool false, .int .i64 0, .slice none 0 0] 44)).heap.size = w.heap.size + 1 := by simp
  have hs1 := hk1.size
  have hs2 := hk2.size
  rw [hsz] at hs1
  have hev1 := hev.one kom 4 0 ⟨#[]⟩ 0 44
  have hB3 := hB2.alloc (.cells #[.int .i64 kk, .int .i64 mm, .string ss, .int .i64 sl, .bool lo, .int .i64 oo, .slice A1 N1 C1] 44)
  have HEV := aP hev1
  have HB3 := aP hB3
  have HR := aP hr2
  have HK := aP ((HKA.out.any.trans hk1).trans hk2)
  have b0 := hB3.cell 0; have b1 := hB3.cell 1; have b2 := hB3.cell 2; have b3 := hB3.cell 3; have b4 := hB3.cell 4; have b5 := hB3.cell 5; have b6 := hB3.cell 6
  have g0 := hB3.free 0; have g1 := hB3.free 1; have g2 := hB3.free 2; have g3 := hB3.free 3; have g4 := hB3.free 4; have g5 := hB3.free 5; have g6 := hB3.free 6
  simp only [aZ, aS] at b0 b1 b2 b3 b4 b5 b6
  clear hev hev1 hB2 hB3 hr1 hr2 hk1 hk2 HT HU HB HA HKA
  go_wp2
  have hp := put7_is (a := .int .i64 4) (b := .int .i64 0) (c := .string ⟨#[]⟩) (d := .int .i64 0) (e := .bool false) (f := .int .i64 0) (g := .slice (some ⟨W2.heap.size, 0, none⟩) 1 1) HB3.out
  refine bodyPost_ret (resultsUn_of hp.1 rfl) rfl ?_
  rw [HUE.out]
  refine Reads.boxed (W := W2.alloc (.cells #[.int .i64 kk, .int .i64 mm, .string ss, .int .i64 sl, .bool lo, .int .i64 oo, .slice A1 N1 C1] 44)) rfl hRB (HEV.out.mono (fun g _ h => by have h : g < w.heap.size + 1 := h; show g < W1.heap.size; omega)) (HR.out.keep ((Kept.refl _ _).alloc _)) (HK.out.alloc _) hp.2 ?_ rfl
  exact hvB
 | false =>
  rw [h1, if_neg Bool.false_ne_true] at hue
  have hst : stepP n T k bad ⟨#[45]⟩ = k := by simp [stepP, h1]
  rw [h1, hst] at HT
  have HT2 := aP (fun W (hr : R2 W R v n T k bad) => rdtake_any R v n T k bad ⟨#[33]⟩ W hr)
  clear h1 hst
  cases h2 : isP n T k bad ⟨#[33]⟩ with
  | true =>
   rw [h2, if_pos rfl] at hue
   have hst : stepP n T k bad ⟨#[33]⟩ = k + 1 := by simp [stepP, h2]
   have hlt := (isP_lt h2).1
   rw [h2, hst] at HT2
   have HU := aP (fun W (hr : R2 W R v n T (k + 1) bad) => hu R v (k + 1) bad W hr kom kom)
   have HUE := aP hue
   clear hue h2 hst
   go_enter Tryz.func188, Tryz.ntmps188
   go_wp2_with fail
   refine HT.out.mono ?_
   rintro e W0 ⟨rfl, hr0, hk0⟩
   go_wp2_with fail
   refine (HT2.out _ hr0).mono ?_
   rintro e W1 ⟨rfl, hr1, hk1'⟩
   have hk1 := hk0.trans hk1'
   go_wp2_with fail
   refine (HU.out _ hr1).mono ?_
   rintro e W2 ⟨cs, rfl, hev, hr2, hk2⟩
   obtain ⟨kk, mm, ss, sl, lo, oo, A1, N1, C1, rfl⟩ := hev.form
   have hB2 := (HB.out.kept hk1 (fun h => hRB h.symm)).kept hk2 (fun h => hRB h.symm)
   have hsz : (w.alloc (.cells #[.int .i64 0, .int .i64 0, .string ⟨#[]⟩, .int .i64 0, .bool false, .int .i64 0, .slice none 0 0] 44)).heap.size = w.heap.size + 1 := by simp
   have hs1 := hk1.size
   have hs2 := hk2.size
   rw [hsz] at hs1
   have hev1 := hev.one kom 5 0 ⟨#[]⟩ 0 44
   have hB3 := hB2.alloc (.cells #[.int .i64 kk, .int .i64 mm, .string ss, .int .i64 sl, .bool lo, .int .i64 oo, .slice A1 N1 C1] 44)
   have HEV := aP hev1
   have HB3 := aP hB3
   have HR := aP hr2
   have HK := aP ((HKA.out.any.trans hk1).trans hk2)
   have b0 := hB3.cell 0; have b1 := hB3.cell 1; have b2 := hB3.cell 2; have b3 := hB3.cell 3; have b4 := hB3.cell 4; have b5 := hB3.cell 5; have b6 := hB3.cell 6
   have g0 := hB3.free 0; have g1 := hB3.free 1; have g2 := hB3.free 2; have g3 := hB3.free 3; have g4 := hB3.free 4; have g5 := hB3.free 5; have g6 := hB3.free 6
   simp only [aZ, aS] at b0 b1 b2 b3 b4 b5 b6
   clear hev hev1 hB2 hB3 hr1 hr2 hk1 hk2 HT HU HB HA HKA HT2 hr0 hk0 hk1'
   go_wp2
   have hp := put7_is (a := .int .i64 5) (b := .int .i64 0) (c := .string ⟨#[]⟩) (d := .int .i64 0) (e := .bool false) (f := .int .i64 0) (g := .slice (some ⟨W2.heap.size, 0, none⟩) 1 1) HB3.out
   refine bodyPost_ret (resultsUn_of hp.1 rfl) rfl ?_
   rw [HUE.out]
   refine Reads.boxed (W := W2.alloc (.cells #[.int .i64 kk, .int .i64 mm, .string ss, .int .i64 sl, .bool lo, .int .i64 oo, .slice A1 N1 C1] 44)) rfl hRB (HEV.out.mono (fun g _ h => by have h : g < w.heap.size + 1 := h; show g < W1.heap.size; omega)) (HR.out.keep ((Kept.refl _ _).alloc _)) (HK.out.alloc _) hp.2 ?_ rfl
   exact hvB
  | false =>
   rw [h2, if_neg Bool.false_ne_true] at hue
   have hst : stepP n T k bad ⟨#[33]⟩ = k := by simp [stepP, h2]
   rw [h2, hst] at HT2
   have HU := aP (fun W (hr : R2 W R v n T k bad) => hp R v k bad W hr kom kom)
   have HUE := aP hue
   clear hue h2 hst
   go_enter Tryz.func188, Tryz.ntmps188
   go_wp2_with fail
   refine HT.out.mono ?_
   rintro e W0 ⟨rfl, hr0, hk0⟩
   go_wp2_with fail
   refine (HT2.out _ hr0).mono ?_
   rintro e W1 ⟨rfl, hr1, hk1'⟩
   have hk1 := hk0.trans hk1'
   go_wp2_with fail
   refine (HU.out _ hr1).mono ?_
   rintro e W2 ⟨cs, rfl, hev, hr2, hk2⟩
   obtain ⟨kk, mm, ss, sl, lo, oo, A1, N1, C1, rfl⟩ := hev.form
   have hB3 := (HB.out.kept hk1 (fun h => hRB h.symm)).kept hk2 (fun h => hRB h.symm)
   have hsz : (w.alloc (.cells #[.int .i64 0, .int .i64 0, .string ⟨#[]⟩, .int .i64 0, .bool false, .int .i64 0, .slice none 0 0] 44)).heap.size = w.heap.size + 1 := by simp
   have hs1 := hk1.size
   have hs2 := hk2.size
   rw [hsz] at hs1
   have HEV := aP hev
   have HB3 := aP hB3
   have HR := aP hr2
   have HK := aP ((HKA.out.any.trans hk1).trans hk2)
   have b0 := hB3.cell 0; have b1 := hB3.cell 1; have b2 := hB3.cell 2; have b3 := hB3.cell 3; have b4 := hB3.cell 4; have b5 := hB3.cell 5; have b6 := hB3.cell 6
   have g0 := hB3.free 0; have g1 := hB3.free 1; have g2 := hB3.free 2; have g3 := hB3.free 3; have g4 := hB3.free 4; have g5 := hB3.free 5; have g6 := hB3.free 6
   simp only [aZ, aS] at b0 b1 b2 b3 b4 b5 b6
   clear hev hB3 hr1 hr2 hk1 hk2 HT HU HB HA HKA HT2 hr0 hk0 hk1'
   go_wp2
   have hp := put7_is (a := .int .i64 kk) (b := .int .i64 mm) (c := .string ss) (d := .int .i64 sl) (e := .bool lo) (f := .int .i64 oo) (g := .slice A1 N1 C1) HB3.out
   refine bodyPost_ret (resultsUn_of hp.1 rfl) rfl ?_
   rw [HUE.out]
   refine Reads.boxed (W := W2) rfl hRB (HEV.out.mono (fun g _ h => by have h : g < w.heap.size + 1 := h; show g < W1.heap.size; omega)) HR.out HK.out hp.2 ?_ rfl
   exact hvB
end Go.Proofs.YtjkgepppoopheaaGreatDoor
