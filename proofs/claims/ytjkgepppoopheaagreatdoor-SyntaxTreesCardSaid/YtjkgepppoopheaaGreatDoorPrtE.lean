/- The project's Expr (conditions: the tables stand; names fit an int). -/
import Derived.Test.YtjkgepppoopheaaGreatDoorG30
import Derived.Lib.ItoaLen
namespace Go.Proofs.YtjkgepppoopheaaGreatDoor
open Go.RowKit Go.Shelf

/-- What Expr answers. -/
def exprV (e : ET) : Value := if mayE 24 e then .tuple #[.string (exprT 24 0 e), .int .i64 0] else .tuple #[.string ⟨#[]⟩, .int .i64 2]

theorem itoaB_size (m : Int) (h0 : 0 ≤ m) (h1 : m ≤ 2147483647) : 0 < (itoaB m).size ∧ (itoaB m).size ≤ 21 := by
  have e : (itoaB m).size = (Lib.itoa m).length := by simp [itoaB, ByteArray.size]
  rw [e]
  refine ⟨?_, Lib.itoa_length_le m (by omega) (by omega)⟩
  obtain ⟨u, rfl⟩ : ∃ u : Nat, m = u := ⟨m.toNat, by omega⟩
  rw [Lib.itoa_nonneg]
  rw [Lib.decDigits_length]
  exact Lib.nDigits_pos u
theorem nameIs_size {s : ByteArray} (h : nameIs s.data.toList = true) : 0 < s.size ∧ s.size ≤ 16 := by
  have hl : s.data.toList.length = s.size := by simp
  rw [← hl]
  generalize s.data.toList = l at h
  match l, h with
  | b :: r, h =>
    rw [nameIs_cons] at h
    simp only [Bool.and_eq_true, decide_eq_true_eq] at h
    simp
    omega
theorem opSign_size (o : Int) (h1 : 0 < o) (h2 : o ≤ 11) : (opSign o).size ≤ 2 := by
  obtain ⟨u, rfl⟩ : ∃ u : Nat, o = u := ⟨o.toNat, by omega⟩
  have hu : u < 12 := by omega
  have key : ∀ u : Fin 12, (opSign ((u : Nat) : Int)).size ≤ 2 := by decide +kernel
  exact key ⟨u, hu⟩

/-- A text of an expression that may be is not empty, and not long. -/
theorem exprT_size : ∀ (d least : Nat) (e : ET), mayE d e = true → 0 < (exprT d least e).size ∧ (exprT d least e).size + 40 ≤ 40 * 2 ^ d := by
  intro d
  induction d with
  | zero => intro least e h; simp [mayE] at h
  | succ d ih =>
    intro least e h
    obtain ⟨k, m, s, sl, lo, o, l⟩ := e
    obtain ⟨h1, h2, h3, h4, h5, h6, h7⟩ := mayE_parts h
    have hp : 0 < 2 ^ d := Nat.two_pow_pos d
    have h2d : 2 ^ (d + 1) = 2 * 2 ^ d := by rw [Nat.pow_succ, Nat.mul_comm]
    rw [h2d]
    have hk : k = 1 ∨ k = 2 ∨ k = 3 ∨ k = 4 ∨ k = 5 ∨ k = 6 := by omega
    rcases hk with rfl | rfl | rfl | rfl | rfl | rfl
    · rw [show exprT (d + 1) least (.node 1 m s sl lo o l) = itoaB m from by rw [exprT]; rfl]
      have hb : 0 ≤ m ∧ m ≤ 2147483647 := by
        simp [numB] at h4
        omega
      have := itoaB_size m hb.1 hb.2
      omega
    · rw [show exprT (d + 1) least (.node 2 m s sl lo o l) = s from by rw [exprT]; rfl]
      have := nameIs_size (s := s) (by simpa [nmB] using h3)
      omega
    · obtain ⟨x, rfl⟩ := one_arg h6
      rw [show exprT (d + 1) least (.node 3 m s sl lo o [x]) = (catL [s, ⟨#[91]⟩] ++ exprT d 0 x) ++ catL [⟨#[93]⟩] from by rw [exprT]; rfl]
      have hs := nameIs_size (s := s) (by simpa [nmB] using h3)
      have hx := ih 0 x (h7 x (by simp))
      simp only [catL, ByteArray.size_append, show (⟨#[91]⟩ : ByteArray).size = 1 from rfl, show (⟨#[93]⟩ : ByteArray).size = 1 from rfl, show (⟨#[]⟩ : ByteArray).size = 0 from rfl]
      omega
    · obtain ⟨x, rfl⟩ := one_arg h6
      rw [show exprT (d + 1) least (.node 4 m s sl lo o [x]) = ⟨#[45]⟩ ++ exprT d 5 x from by rw [exprT]; rfl]
      have hx := ih 5 x (h7 x (by simp))
      simp only [ByteArray.size_append, show (⟨#[45]⟩ : ByteArray).size = 1 from rfl]
      omega
    · obtain ⟨x, rfl⟩ := one_arg h6
      rw [show exprT (d + 1) least (.node 5 m s sl lo o [x]) = ⟨#[33]⟩ ++ exprT d 5 x from by rw [exprT]; rfl]
      have hx := ih 5 x (h7 x (by simp))
      simp only [ByteArray.size_append, show (⟨#[33]⟩ : ByteArray).size = 1 from rfl]
      omega
    · obtain ⟨x, y, rfl⟩ := two_args h6
      have hb : 0 < o ∧ o ≤ 11 := by simpa [opB] using h5
      have ho := opSign_size o hb.1 hb.2
      have hx := ih (leftS (opRank o)) x (h7 x (by simp))
      have hy := ih (opRank o + 1) y (h7 y (by simp))
      have e6 : exprT (d + 1) least (.node 6 m s sl lo o [x, y]) = if opRank o < least then
          (((⟨#[40]⟩ ++ exprT d (leftS (opRank o)) x) ++ catL [⟨#[32]⟩, opSign o, ⟨#[32]⟩]) ++ exprT d (opRank o + 1) y) ++ ⟨#[41]⟩
        else ((exprT d (leftS (opRank o)) x) ++ catL [⟨#[32]⟩, opSign o, ⟨#[32]⟩]) ++ exprT d (opRank o + 1) y := by rw [exprT]; rfl
      rw [e6]
      split
      all_goals
        simp only [catL, ByteArray.size_append, show (⟨#[32]⟩ : ByteArray).size = 1 from rfl, show (⟨#[40]⟩ : ByteArray).size = 1 from rfl, show (⟨#[41]⟩ : ByteArray).size = 1 from rfl, show (⟨#[]⟩ : ByteArray).size = 0 from rfl]
        omega

set_option maxRecDepth 100000 in
set_option maxHeartbeats 1000000 in
theorem expr_any {e : ET} {cs : List Value} {w : World} (h : EV w noX cs e) (hT : Tabs w) (hsm : smE 24 e = true) :
    Calls Tryz.prog 26 #[.agg cs.toArray] w fun r w' => r = .returned (exprV e) ∧ Kept noX w w' := by
  obtain ⟨k, m, s, sl, lo, o, A, N, C, rfl⟩ := h.form
  have hkA : Kept noX w (w.alloc (.cells #[.int .i64 k, .int .i64 m, .string s, .int .i64 sl, .bool lo, .int .i64 o, .slice A N C] 44)) := (Kept.refl _ _).alloc _
  have hM := mayExpr_any 24 (by decide) e _ _ (h.keep hkA) (hT.exprs.keep hkA) hsm
  have HM := Lib.hid hM
  have HB := Lib.hid (Cells.fresh w 44 [.int .i64 k, .int .i64 m, .string s, .int .i64 sl, .bool lo, .int .i64 o, .slice A N C])
  have HKA := Lib.hid hkA
  have HT := Lib.hid hT
  have HEV := Lib.hid h
  clear h hM hT hsm hkA
  cases hall : mayE 24 e with
  | false =>
    have HA := Lib.hid hall
    rw [hall] at HM
    clear hall
    have p0 := HB.out.cell 0; have p1 := HB.out.cell 1; have p2 := HB.out.cell 2; have p3 := HB.out.cell 3; have p4 := HB.out.cell 4; have p5 := HB.out.cell 5; have p6 := HB.out.cell 6
    simp only [List.getElem?_cons_zero, List.getElem?_cons_succ] at p0 p1 p2 p3 p4 p5 p6
    go_enter Tryz.func26, Tryz.ntmps26
    go_wp2_with fail
    refine HM.out.mono ?_
    rintro e W1 ⟨rfl, hk1⟩
    clear p0 p1 p2 p3 p4 p5 p6
    go_wp2
    refine ret_two Tryz.results26 rfl rfl rfl ?_
    exact ⟨by rw [exprV, HA.out]; rfl, HKA.out.trans hk1⟩
  | true =>
    have HA := Lib.hid hall
    have hsz := exprT_size 24 0 e hall
    have hsz0 : (exprT 24 0 e).size ≠ 0 := by omega
    have hsz1 : (exprT 24 0 e).size ≤ most := by unfold most; omega
    rw [hall] at HM
    clear hall hsz
    have p0 := HB.out.cell 0; have p1 := HB.out.cell 1; have p2 := HB.out.cell 2; have p3 := HB.out.cell 3; have p4 := HB.out.cell 4; have p5 := HB.out.cell 5; have p6 := HB.out.cell 6
    simp only [List.getElem?_cons_zero, List.getElem?_cons_succ] at p0 p1 p2 p3 p4 p5 p6
    go_enter Tryz.func26, Tryz.ntmps26
    go_wp2_with fail
    refine HM.out.mono ?_
    rintro r W1 ⟨rfl, hk1⟩
    clear p0 p1 p2 p3 p4 p5 p6
    have hb1 := HB.out.keep hk1
    have hev1 := (HEV.out.keep HKA.out).keep hk1
    have hT1 := (HT.out.keep HKA.out).keep hk1
    have hk1' := HKA.out.trans hk1
    obtain ⟨W2, hW2⟩ : ∃ W2, W2 = W1.alloc (.cells #[.pointer none, .slice none 0 0] 99) := ⟨_, rfl⟩
    have HF2 := Lib.hid (show Cells W2 W1.heap.size 99 [.pointer none, .slice none 0 0] from by rw [hW2]; exact Cells.fresh W1 99 [.pointer none, .slice none 0 0])
    have hk2 : Kept noX W1 W2 := by rw [hW2]; exact (Kept.refl _ _).alloc _
    have HP2 := Lib.hid (show PW W1 W1.heap.size W2 ⟨#[]⟩ from ⟨⟨_, _, HF2.out, .inl rfl, World.ownsRow_nil W2 _ 5 1⟩, hk2.any, Nat.le_refl _, hT1.ops, hT1.tab⟩)
    have HB1 := Lib.hid hb1
    have HPE := Lib.hid (pexpr_all W1 W1.heap.size 24 W2 ⟨#[]⟩ 0 e _ HP2.out hev1 HA.out (by decide) (by rw [show (⟨#[]⟩ : ByteArray).size = 0 from rfl, Nat.zero_add]; exact hsz1))
    have HK1 := Lib.hid hk1'
    clear hb1 hev1 hT1 hk1 hk1' hk2 HB HKA HT HEV HM
    go_wp2_with ((with_reducible show wpList _ _ _ (Oper.mk _ (Op.load _ _) _ _ _ _ :: _) _ _); refine wpList_load_cells rfl 44 (.tmp 1) rfl (w.heap.size) rfl _ Tryz.underlying44 rfl (HB1.out.keep ((Kept.refl _ _).alloc _)) (by kernel_rfl) ?_)
    rw [← hW2]
    clear hW2
    refine HPE.out.mono ?_
    rintro r W3 ⟨rfl, hw3, hp3⟩
    have e0 : (⟨#[]⟩ : ByteArray) ++ exprT 24 0 e = exprT 24 0 e := by simp [ba_na]
    rw [e0] at hw3
    have HS := Lib.hid (string_calls hw3.at_ hsz0 hsz1)
    have HK3 := Lib.hid hw3.kept.older
    clear hw3 hp3 e0
    go_wp2_with fail
    refine HS.out.mono ?_
    rintro r W6 ⟨rfl, hk6⟩
    go_wp2
    refine ret_two Tryz.results26 rfl rfl rfl ?_
    refine ⟨by rw [exprV, HA.out]; rfl, (HK1.out.trans HK3.out).join hk6 (fun i hi hlt2 => ?_)⟩
    have hi : W1.heap.size ≤ i := hi
    have := HK1.out.size
    omega
end Go.Proofs.YtjkgepppoopheaaGreatDoor
