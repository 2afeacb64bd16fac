/- The document's text of an expression that may be (conditions: the library's table of powers of ten stands). -/
import Derived.Test.YtjkgepppoopheaaGreatDoorPrtE
import Derived.Test.YtjkgepppoopheaaGreatDoorG36
import Derived.Deep.RegionHeld3
namespace Go.Proofs.YtjkgepppoopheaaGreatDoor
open Go.RowKit Go.Shelf

/-- How tightly an expression's outermost part binds. -/
def bindP (k o : Int) : Int := if k = 6 then rankOf o.toNat else if k = 4 ∨ k = 5 then 6 else 7
theorem op_nat {o : Int} (h1 : 0 < o) (h2 : o ≤ 11) : ∃ u : Nat, o = u ∧ 0 < u ∧ u < 12 := ⟨o.toNat, by omega, by omega, by omega⟩
theorem rankOf_is {u : Nat} (h1 : 0 < u) (h2 : u < 12) : rankOf u = (opRank (u : Int) : Int) + 1 ∧ opRank (u : Int) ≤ 4 := by
  have key : ∀ u : Fin 12, 0 < (u : Nat) → rankOf u = (opRank ((u : Nat) : Int) : Int) + 1 ∧ opRank ((u : Nat) : Int) ≤ 4 := by decide +kernel
  exact key ⟨u, h2⟩ h1
theorem signOf_is {u : Nat} (h1 : 0 < u) (h2 : u < 12) : signOf u = opSign (u : Int) := by
  have key : ∀ u : Fin 12, 0 < (u : Nat) → signOf u = opSign ((u : Nat) : Int) := by decide +kernel
  exact key ⟨u, h2⟩ h1

/-- Parentheses stand just where the outermost part binds less. -/
theorem exprT_inner {d n : Nat} {k m : Int} {s : ByteArray} {sl : Int} {lo : Bool} {o : Int} {l : List ET} (h : mayE (d + 1) (.node k m s sl lo o l) = true) (hn : n ≤ 5) :
    exprT (d + 1) n (.node k m s sl lo o l) = if bindP k o < (n : Int) + 1 then (⟨#[40]⟩ ++ exprT (d + 1) 0 (.node k m s sl lo o l)) ++ ⟨#[41]⟩ else exprT (d + 1) 0 (.node k m s sl lo o l) := by
  obtain ⟨h1, h2, h3, h4, h5, h6, h7⟩ := mayE_parts h
  have hk : k = 1 ∨ k = 2 ∨ k = 3 ∨ k = 4 ∨ k = 5 ∨ k = 6 := by omega
  rcases hk with rfl | rfl | rfl | rfl | rfl | rfl
  · rw [if_neg (by simp [bindP]; omega), exprT, exprT]; rfl
  · rw [if_neg (by simp [bindP]; omega), exprT, exprT]; rfl
  · rw [if_neg (by simp [bindP]; omega), exprT, exprT]; rfl
  · rw [if_neg (by simp [bindP]; omega), exprT, exprT]; rfl
  · rw [if_neg (by simp [bindP]; omega), exprT, exprT]; rfl
  · have hb : 0 < o ∧ o ≤ 11 := by simpa [opB] using h5
    obtain ⟨u, rfl, hu1, hu2⟩ := op_nat hb.1 hb.2
    obtain ⟨hr, hr4⟩ := rankOf_is hu1 hu2
    have hbp : bindP 6 (u : Int) = (opRank (u : Int) : Int) + 1 := by rw [← hr]; simp [bindP]
    rw [hbp]
    have e (q : Nat) : exprT (d + 1) q (.node 6 m s sl lo u l) = if opRank u < q then
      (((⟨#[40]⟩ ++ exprT d (leftS (opRank u)) (l.getD 0 zeroT)) ++ catL [⟨#[32]⟩, opSign u, ⟨#[32]⟩]) ++ exprT d (opRank u + 1) (l.getD 1 zeroT)) ++ ⟨#[41]⟩
      else ((exprT d (leftS (opRank u)) (l.getD 0 zeroT)) ++ catL [⟨#[32]⟩, opSign u, ⟨#[32]⟩]) ++ exprT d (opRank u + 1) (l.getD 1 zeroT) := by
      rw [exprT, if_neg (by decide), if_neg (by decide), if_neg (by decide), if_neg (by decide), if_neg (by decide)]
    rw [e n, e 0, if_neg (Nat.not_lt_zero _)]
    by_cases hlt : opRank (u : Int) < n
    · rw [if_pos hlt, if_pos (by omega)]
      simp only [ByteArray.append_assoc]
    · rw [if_neg hlt, if_neg (by omega)]

/-- What a text's call answers. -/
def Tells (w : World) (s : ByteArray) (e : Ending) (w' : World) : Prop := e = .returned (.string s) ∧ Kept noX w w'
abbrev RExpC (d : Nat) : Prop := ∀ (e : ET) (cs : List Value) (w : World), EV w noX cs e → mayE d e = true → TabAt w → Calls Tryz.prog 28 #[.agg cs.toArray] w (Tells w (exprT d 0 e))
abbrev RInC (d : Nat) : Prop := ∀ (n : Nat), n ≤ 5 → ∀ (e : ET) (cs : List Value) (w : World), EV w noX cs e → mayE d e = true → TabAt w → Calls Tryz.prog 54 #[.agg cs.toArray, .int .i64 ((n : Int) + 1)] w (Tells w (exprT d n e))

set_option maxRecDepth 100000 in
set_option maxHeartbeats 1000000 in
theorem rbind_any {k m : Int} {s : ByteArray} {sl : Int} {lo : Bool} {o : Int} {A : Option Addr} {N C : Nat} (h6 : k = 6 → 0 < o ∧ o ≤ 11) (w : World) :
    Calls Tryz.prog 106 #[.agg #[.int .i64 k, .int .i64 m, .string s, .int .i64 sl, .bool lo, .int .i64 o, .slice A N C]] w (fun e w' => e = .returned (.int .i64 (bindP k o)) ∧ Kept noX w w') := by
  have hkA : Kept noX w (w.alloc (.cells #[.int .i64 k, .int .i64 m, .string s, .int .i64 sl, .bool lo, .int .i64 o, .slice A N C] 44)) := (Kept.refl _ _).alloc _
  cases hk6 : (k == 6) with
  | true =>
    obtain rfl : k = 6 := by simpa using hk6
    obtain ⟨u, rfl, hu1, hu2⟩ := op_nat (h6 rfl).1 (h6 rfl).2
    have HR := Lib.hid (fun W => rank_any u hu2 W)
    have HV : Hid (bindP 6 (u : Int) = rankOf u) := Lib.hid (by simp [bindP])
    clear h6 hu1 hu2 hk6
    go_enter Tryz.func106, Tryz.ntmps106
    go_wp2_with fail
    refine (HR.out _).mono ?_
    rintro e W1 ⟨rfl, hk1⟩
    go_wp2
    go_ret
    exact ⟨by rw [HV.out]; rfl, hkA.trans hk1⟩
  | false =>
    have hn6 : ¬ k = 6 := by simpa using hk6
    cases hk4 : (k == 4) with
    | true =>
      have HV : Hid (bindP k o = 6) := Lib.hid (by have : k = 4 := by simpa using hk4
                                                   simp [bindP, this])
      go_enter Tryz.func106, Tryz.ntmps106
      go_wp2
      go_ret
      exact ⟨by rw [HV.out]; rfl, hkA⟩
    | false =>
      cases hk5 : (k == 5) with
      | true =>
        have HV : Hid (bindP k o = 6) := Lib.hid (by have : k = 5 := by simpa using hk5
                                                     simp [bindP, this])
        go_enter Tryz.func106, Tryz.ntmps106
        go_wp2
        go_ret
        exact ⟨by rw [HV.out]; rfl, hkA⟩
      | false =>
        have HV : Hid (bindP k o = 7) := Lib.hid (by have a : ¬ k = 4 := by simpa using hk4
                                                     have b : ¬ k = 5 := by simpa using hk5
                                                     simp [bindP, hn6, a, b])
        go_enter Tryz.func106, Tryz.ntmps106
        go_wp2
        go_ret
        exact ⟨by rw [HV.out]; rfl, hkA⟩

set_option maxRecDepth 100000 in
set_option maxHeartbeats 1000000 in
theorem rinner_of {d : Nat} (hd : d ≤ 24) (hE : RExpC d) : RInC d := by
  intro n hn e cs w h hm hT
  cases d with
  | zero => simp [mayE] at hm
  | succ d =>
  obtain ⟨k, m, s, sl, lo, o, l⟩ := e
  obtain ⟨v, rfl, hv⟩ := EV.iff.1 h
  obtain ⟨A, N, C, rfl, hNN, hxx⟩ := hv.form
  clear hNN hxx
  obtain ⟨h1, h2, h3, h4, h5, h6, h7⟩ := mayE_parts hm
  have h6' : k = 6 → 0 < o ∧ o ≤ 11 := fun h => by subst h; simpa [opB] using h5
  have HI := Lib.hid (exprT_inner (n := n) hm hn)
  have hsz := (exprT_size (d + 1) 0 _ hm).2
  have h2d : 2 ^ (d + 1) ≤ 2 ^ 24 := Nat.pow_le_pow_right (by decide) hd
  obtain ⟨w0, hw0⟩ : ∃ w0, w0 = w.alloc (.cells #[.int .i64 k, .int .i64 m, .string s, .int .i64 sl, .bool lo, .int .i64 o, .slice A N C] 44) := ⟨_, rfl⟩
  have hkw : Kept noX w w0 := by rw [hw0]; exact (Kept.refl _ _).alloc _
  have HB := Lib.hid (show Cells w0 w.heap.size 44 [.int .i64 k, .int .i64 m, .string s, .int .i64 sl, .bool lo, .int .i64 o, .slice A N C] from by rw [hw0]; exact Cells.fresh w 44 _)
  have HR := Lib.hid (fun W => rbind_any (k := k) (m := m) (s := s) (sl := sl) (lo := lo) (o := o) (A := A) (N := N) (C := C) h6' W)
  have HE := Lib.hid (fun W (hk : Kept noX w W) => hE _ _ W (h.keep hk) hm (hT.kept hk (fun _ h => h.elim)))
  obtain ⟨t0, ht0⟩ : ∃ t, t = exprT (d + 1) 0 (.node k m s sl lo o l) := ⟨_, rfl⟩
  obtain ⟨t1, ht1⟩ : ∃ t, t = exprT (d + 1) n (.node k m s sl lo o l) := ⟨_, rfl⟩
  rw [← ht0] at hsz HI HE
  rw [← ht1] at HI ⊢
  have hb : t0.size ≤ 1000000000 := by omega
  obtain ⟨N1, hN1⟩ : ∃ N1 : Int, N1 = (n : Int) + 1 := ⟨_, rfl⟩
  rw [← hN1] at HI ⊢
  obtain ⟨B, hB⟩ : ∃ B, B = bindP k o := ⟨_, rfl⟩
  rw [← hB] at HI HR
  clear h hv hm hT h1 h2 h3 h4 h5 h6 h7 h6' hE ht0 ht1 hsz h2d hN1 hB
  cases hlt : decide (B < N1) with
  | true =>
    have HT : Hid (t1 = (⟨#[40]⟩ ++ t0) ++ ⟨#[41]⟩) := Lib.hid (by rw [HI.out, if_pos (of_decide_eq_true hlt)])
    go_enter Tryz.func54, Tryz.ntmps54
    go_wp2_with ((with_reducible show wpList _ _ _ (Oper.mk _ (Op.load _ _) _ _ _ _ :: _) _ _); refine wpList_load_cells rfl 44 (.tmp 2) rfl (w.heap.size) rfl _ Tryz.underlying44 rfl (Cells.fresh w 44 [.int .i64 k, .int .i64 m, .string s, .int .i64 sl, .bool lo, .int .i64 o, .slice A N C]) (by kernel_rfl) ?_)
    rw [← hw0]
    clear hw0
    refine (HR.out _).mono ?_
    rintro e W1 ⟨rfl, hk1⟩
    have hb1 := HB.out.keep hk1
    have p0 := hb1.cell 0; have p1 := hb1.cell 1; have p2 := hb1.cell 2; have p3 := hb1.cell 3; have p4 := hb1.cell 4; have p5 := hb1.cell 5; have p6 := hb1.cell 6
    simp only [List.getElem?_cons_zero, List.getElem?_cons_succ] at p0 p1 p2 p3 p4 p5 p6
    have hk01 := hkw.trans hk1
    clear hb1
    go_wp2_with fail
    refine (HE.out _ hk01).mono ?_
    rintro e W2 ⟨rfl, hk2⟩
    clear p0 p1 p2 p3 p4 p5 p6
    go_wp2
    go_ret
    exact ⟨by rw [HT.out]; rfl, hk01.trans hk2⟩
  | false =>
    have HT : Hid (t1 = t0) := Lib.hid (by rw [HI.out, if_neg (of_decide_eq_false hlt)])
    go_enter Tryz.func54, Tryz.ntmps54
    go_wp2_with ((with_reducible show wpList _ _ _ (Oper.mk _ (Op.load _ _) _ _ _ _ :: _) _ _); refine wpList_load_cells rfl 44 (.tmp 2) rfl (w.heap.size) rfl _ Tryz.underlying44 rfl (Cells.fresh w 44 [.int .i64 k, .int .i64 m, .string s, .int .i64 sl, .bool lo, .int .i64 o, .slice A N C]) (by kernel_rfl) ?_)
    rw [← hw0]
    clear hw0
    refine (HR.out _).mono ?_
    rintro e W1 ⟨rfl, hk1⟩
    have hb1 := HB.out.keep hk1
    have p0 := hb1.cell 0; have p1 := hb1.cell 1; have p2 := hb1.cell 2; have p3 := hb1.cell 3; have p4 := hb1.cell 4; have p5 := hb1.cell 5; have p6 := hb1.cell 6
    simp only [List.getElem?_cons_zero, List.getElem?_cons_succ] at p0 p1 p2 p3 p4 p5 p6
    have hk01 := hkw.trans hk1
    clear hb1
    go_wp2_with fail
    refine (HE.out _ hk01).mono ?_
    rintro e W2 ⟨rfl, hk2⟩
    clear p0 p1 p2 p3 p4 p5 p6
    go_wp2
    go_ret
    exact ⟨by rw [HT.out]; rfl, hk01.trans hk2⟩
end Go.Proofs.YtjkgepppoopheaaGreatDoor
