/- The document's question whether an expression may be (conditions: names fit an int). -/
import Derived.Test.YtjkgepppoopheaaGreatDoorRight
namespace Go.Proofs.YtjkgepppoopheaaGreatDoor
open Go.RowKit Go.Shelf

theorem isEmpty_nm (s : ByteArray) : s.toList.isEmpty = nmB s false := by
  rw [ByteArray.toList_eq, nmB]
  simp only [Bool.false_eq_true, if_false]
  by_cases h : s = ⟨#[]⟩
  · subst h; simp
  · rw [decide_eq_false h]
    cases hl : s.data.toList.isEmpty with
    | false => rfl
    | true =>
      refine absurd ?_ h
      rw [List.isEmpty_iff] at hl
      exact ByteArray.ext (Array.toList_inj.1 (by rw [hl]))
theorem numB_no (m : Int) : numB m false = (m == 0) := by simp [numB, int_beq0]
theorem numB_yes (m : Int) : numB m true = (decide (0 ≤ m) && decide (m ≤ 2147483647)) := by
  rw [numB, Bool.true_and, Bool.eq_iff_iff]
  simp only [Bool.or_eq_true, Bool.and_eq_true, decide_eq_true_eq]
  omega
theorem opB_no (o : Int) : opB o false = (o == 0) := by simp [opB, int_beq0]
theorem opB_yes (o : Int) : opB o true = (decide (1 ≤ o) && decide (o ≤ 11)) := by
  rw [opB, if_pos rfl, Bool.eq_iff_iff]
  simp only [Bool.and_eq_true, decide_eq_true_eq]
  omega
theorem all_nil {f : ET → Bool} {l : List ET} (h : l.length = 0) : l.all f = true := by
  rw [List.eq_nil_of_length_eq_zero h]; rfl
theorem len_all {f : ET → Bool} {l : List ET} : (decide (l.length = 0) && l.all f) = decide (l.length = 0) := by
  by_cases h : l.length = 0
  · rw [all_nil h, Bool.and_true]
  · rw [decide_eq_false h]; rfl
theorem bool_ac5 (a b c d e : Bool) : (a && b && c && d && e) = (b && a && c && d && e) := by cases a <;> cases b <;> rfl

set_option maxRecDepth 100000 in
set_option maxHeartbeats 1000000 in
theorem rright_zero (e : ET) (cs : List Value) (w : World) (h : EV w noX cs e) : Calls Tryz.prog 27 #[.agg cs.toArray, .int .i64 0] w (Says w false) := by
  obtain ⟨k, m, s, sl, lo, o, A, N, C, rfl⟩ := h.form
  clear h
  have hkw : Kept noX w (w.alloc (.cells #[.int .i64 k, .int .i64 m, .string s, .int .i64 sl, .bool lo, .int .i64 o, .slice A N C] 44)) := (Kept.refl _ _).alloc _
  go_enter Tryz.func27, Tryz.ntmps27
  go_wp2
  go_ret
  exact ⟨rfl, hkw⟩

section
variable {d : Nat} {q m : Int} {s : ByteArray} {sl : Int} {lo : Bool} {o : Int} {l : List ET} {v : Value} {w : World}
set_option maxRecDepth 100000 in
set_option maxHeartbeats 1000000 in
theorem rright_none (hd : d ≤ 1000) (hv : RowV w noX v (ET.ds l)) (h1 : (q == 1) = false) (h2 : (q == 2) = false) (h3 : (q == 3) = false) (h4 : (q == 4) = false) (h5 : (q == 5) = false) (h6 : (q == 6) = false) :
    Calls Tryz.prog 27 #[.agg #[.int .i64 q, .int .i64 m, .string s, .int .i64 sl, .bool lo, .int .i64 o, v], .int .i64 ((d + 1 : Nat) : Int)] w (Says w false) := by
  have ih : True := trivial
  have hsm : True := trivial
  have E : Bool := true
  obtain ⟨A, n, c, rfl, hn, hnc, hcm⟩ := hv.form
  rw [ET.ds_length] at hn
  subst hn
  unfold maxLen at hcm
  obtain ⟨D, hD⟩ : ∃ D : Int, D = ((d + 1 : Nat) : Int) := ⟨_, rfl⟩
  have hd0 : decide (D < 1) = false := by simp; omega
  have hd1 : wrap64 (D - 1) = (d : Nat) := by unfold wrap64; omega
  rw [← hD]
  clear hD
  have HV := Lib.hid hv
  have HIH := Lib.hid ih
  have HSM := Lib.hid hsm
  clear hv ih hsm
  obtain ⟨w0, hw0⟩ : ∃ w0, w0 = w.alloc (.cells #[.int .i64 q, .int .i64 m, .string s, .int .i64 sl, .bool lo, .int .i64 o, .slice A l.length c] 44) := ⟨_, rfl⟩
  have hkw : Kept noX w w0 := by rw [hw0]; exact (Kept.refl _ _).alloc _
  have HB := Lib.hid (show Cells w0 w.heap.size 44 [.int .i64 q, .int .i64 m, .string s, .int .i64 sl, .bool lo, .int .i64 o, .slice A l.length c] from by rw [hw0]; exact Cells.fresh w 44 _)
  have e0 := HB.out.cell 0; have e1 := HB.out.cell 1; have e2 := HB.out.cell 2; have e5 := HB.out.cell 5; have e6 := HB.out.cell 6
  simp only [List.getElem?_cons_zero, List.getElem?_cons_succ] at e0 e1 e2 e5 e6
  have b1 : (q != 1) = true := by rw [bne, h1]; rfl
  have b2 : (q != 2) = true := by rw [bne, h2]; rfl
  have b3 : (q != 3) = true := by rw [bne, h3]; rfl
  have b6 : (q != 6) = true := by rw [bne, h6]; rfl
  clear hw0 HB
  cases hm : (m == 0) with
  | false =>
    have hm1 : (m != 0) = !(m == 0) := rfl
    rw [hm] at hm1
    go_enter Tryz.func27, Tryz.ntmps27
    go_wp2
    go_ret
    exact ⟨rfl, (Kept.refl _ _).alloc _⟩
  | true =>
  have hm1 : (m != 0) = !(m == 0) := rfl
  rw [hm] at hm1
  cases hs : s.toList.isEmpty with
  | false =>
    go_enter Tryz.func27, Tryz.ntmps27
    go_wp2
    go_ret
    exact ⟨rfl, (Kept.refl _ _).alloc _⟩
  | true =>
  cases ho : (o == 0) with
  | false =>
    have ho1 : (o != 0) = !(o == 0) := rfl
    rw [ho] at ho1
    go_enter Tryz.func27, Tryz.ntmps27
    go_wp2
    go_ret
    exact ⟨rfl, (Kept.refl _ _).alloc _⟩
  | true =>
    have ho1 : (o != 0) = !(o == 0) := rfl
    rw [ho] at ho1
    go_enter Tryz.func27, Tryz.ntmps27
    go_wp2
    go_ret
    exact ⟨rfl, (Kept.refl _ _).alloc _⟩
end

theorem rright_any : ∀ d, d ≤ 1000 → RightC d := by
  intro d
  induction d with
  | zero =>
    intro _ e cs w h _
    rw [show mayE 0 e = false from by cases e; rfl]
    exact rright_zero e cs w h
  | succ d ih =>
    intro hd e cs w h hsm
    obtain ⟨q, m, s, sl, lo, o, l⟩ := e
    obtain ⟨v, rfl, hv⟩ := EV.iff.1 h
    have hih := ih (by omega)
    have hd' : d ≤ 1000 := by omega
    have hs := hsm.name
    have hsl : ∀ e ∈ l, SmE e := fun e he => hsm.arg he
    by_cases h1 : q = 1
    · subst h1
      refine rright_num hd' hv _ (Lib.hid ?_)
      rw [mayE, isEmpty_nm, show (decide ((0 : Int) < 1) && decide ((1 : Int) ≤ 6)) = true from rfl, show decide ((1 : Int) = 2 ∨ (1 : Int) = 3) = false from rfl, show decide ((1 : Int) = 1) = true from rfl, show decide ((1 : Int) = 6) = false from rfl, show argsN 1 = 0 from rfl, numB_yes, Bool.and_assoc _ (decide (l.length = 0)), len_all, opB_no]
      generalize nmB s false = a
      generalize (o == 0) = b
      cases a <;> cases b <;> simp
    by_cases h2 : q = 2
    · subst h2
      refine rright_name hd' hv _ hs (Lib.hid ?_)
      rw [mayE, show (decide ((0 : Int) < 2) && decide ((2 : Int) ≤ 6)) = true from rfl, show decide ((2 : Int) = 2 ∨ (2 : Int) = 3) = true from rfl, show decide ((2 : Int) = 1) = false from rfl, show decide ((2 : Int) = 6) = false from rfl, show argsN 2 = 0 from rfl, Bool.and_assoc _ (decide (l.length = 0)), len_all, show nmB s true = nameIs s.data.toList from rfl, numB_no, opB_no]
      generalize (m == 0) = a
      generalize (o == 0) = b
      generalize nameIs s.data.toList = c
      cases a <;> cases b <;> cases c <;> simp
    by_cases h3 : q = 3
    · subst h3
      refine rright_cell hd' hv _ hs hih hsl (Lib.hid ?_)
      rw [mayE, show (decide ((0 : Int) < 3) && decide ((3 : Int) ≤ 6)) = true from rfl, show decide ((3 : Int) = 2 ∨ (3 : Int) = 3) = true from rfl, show decide ((3 : Int) = 1) = false from rfl, show decide ((3 : Int) = 6) = false from rfl, show argsN 3 = 1 from rfl, show nmB s true = nameIs s.data.toList from rfl, numB_no, opB_no]
      generalize (m == 0) = a
      generalize (o == 0) = b
      generalize nameIs s.data.toList = c
      cases a <;> cases b <;> cases c <;> simp
    by_cases h4 : q = 4
    · subst h4
      refine rright_neg hd' hv _ hih hsl (Lib.hid ?_)
      rw [mayE, isEmpty_nm, show (decide ((0 : Int) < 4) && decide ((4 : Int) ≤ 6)) = true from rfl, show decide ((4 : Int) = 2 ∨ (4 : Int) = 3) = false from rfl, show decide ((4 : Int) = 1) = false from rfl, show decide ((4 : Int) = 6) = false from rfl, show argsN 4 = 1 from rfl, numB_no, opB_no]
      generalize (m == 0) = a
      generalize (o == 0) = b
      generalize nmB s false = c
      cases a <;> cases b <;> cases c <;> simp
    by_cases h5 : q = 5
    · subst h5
      refine rright_not hd' hv _ hih hsl (Lib.hid ?_)
      rw [mayE, isEmpty_nm, show (decide ((0 : Int) < 5) && decide ((5 : Int) ≤ 6)) = true from rfl, show decide ((5 : Int) = 2 ∨ (5 : Int) = 3) = false from rfl, show decide ((5 : Int) = 1) = false from rfl, show decide ((5 : Int) = 6) = false from rfl, show argsN 5 = 1 from rfl, numB_no, opB_no]
      generalize (m == 0) = a
      generalize (o == 0) = b
      generalize nmB s false = c
      cases a <;> cases b <;> cases c <;> simp
    by_cases h6 : q = 6
    · subst h6
      refine rright_bin hd' hv _ hih hsl (Lib.hid ?_)
      rw [mayE, isEmpty_nm, show (decide ((0 : Int) < 6) && decide ((6 : Int) ≤ 6)) = true from rfl, show decide ((6 : Int) = 2 ∨ (6 : Int) = 3) = false from rfl, show decide ((6 : Int) = 1) = false from rfl, show decide ((6 : Int) = 6) = true from rfl, show argsN 6 = 2 from rfl, opB_yes, numB_no]
      generalize (m == 0) = a
      generalize nmB s false = c
      cases a <;> cases c <;> simp
    have hno : mayE (d + 1) (.node q m s sl lo o l) = false := by
      rw [mayE]
      by_cases hq : 0 < q
      · rw [decide_eq_false (show ¬ q ≤ 6 by omega)]; simp
      · rw [decide_eq_false hq]; rfl
    rw [hno]
    exact rright_none hd' hv (by simpa using h1) (by simpa using h2) (by simpa using h3) (by simpa using h4) (by simpa using h5) (by simpa using h6)
end Go.Proofs.YtjkgepppoopheaaGreatDoor
