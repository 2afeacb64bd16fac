/- What SyntaxTrees answers: true, of each expression (conditions: the tables stand; names fit an int). -/
import Derived.Test.YtjkgepppoopheaaGreatDoorBig
import Derived.Test.YtjkgepppoopheaaGreatDoorRight2
import Derived.Test.YtjkgepppoopheaaGreatDoorRExp2
import Derived.Test.YtjkgepppoopheaaGreatDoorG30
namespace Go.Proofs.YtjkgepppoopheaaGreatDoor
open Go.RowKit Go.Shelf

set_option maxRecDepth 100000 in
set_option maxHeartbeats 1000000 in
theorem syntaxTrees_any {e : ET} {cs : List Value} {w : World} (h : EV w noX cs e) (hsm : SmE e) (hT : Tabs w) : Calls Tryz.prog 7 #[.agg cs.toArray] w (Says w true) := by
  obtain ⟨k, m, s, sl, lo, o, A, N, C, rfl⟩ := h.form
  have hkA : Kept noX w (w.alloc (.cells #[.int .i64 k, .int .i64 m, .string s, .int .i64 sl, .bool lo, .int .i64 o, .slice A N C] 44)) := (Kept.refl _ _).alloc _
  have HB := Lib.hid (Cells.fresh w 44 [.int .i64 k, .int .i64 m, .string s, .int .i64 sl, .bool lo, .int .i64 o, .slice A N C])
  have H1 := Lib.hid (fun W (hk : Kept noX w W) => big_any 3000 (SizeOf.sizeOf e) e (Nat.le_refl _) _ W (h.keep hk) hsm)
  have H2 := Lib.hid (fun W (hk : Kept noX w W) => expr_any (h.keep hk) (hT.keep hk) (hsm 24))
  have H3 := Lib.hid (fun W (hk : Kept noX w W) => rright_any 24 (by decide) e _ W (h.keep hk) hsm)
  have H4 := Lib.hid (fun W (hk : Kept noX w W) (hm : mayE 24 e = true) => rexpr_any 24 (Nat.le_refl _) e _ W (h.keep hk) hm (hT.keep hk).tab)
  have H5 := Lib.hid (fun W (hk : Kept noX w W) => works2_any W (hT.keep hk))
  have HKA := Lib.hid hkA
  obtain ⟨w0, hw0⟩ : ∃ w0, w0 = w.alloc (.cells #[.int .i64 k, .int .i64 m, .string s, .int .i64 sl, .bool lo, .int .i64 o, .slice A N C] 44) := ⟨_, rfl⟩
  clear h hsm hT hkA
  go_enter Tryz.func7, Tryz.ntmps7
  go_wp2_with ((with_reducible show wpList _ _ _ (Oper.mk _ (Op.load _ _) _ _ _ _ :: _) _ _); refine wpList_load_cells rfl 44 (.tmp 1) rfl (w.heap.size) rfl _ Tryz.underlying44 rfl HB.out (by kernel_rfl) ?_)
  rw [← hw0]
  rw [← hw0] at HB HKA
  clear hw0
  refine (H1.out _ HKA.out).mono ?_
  rintro r W1 ⟨⟨n, rfl⟩, hk1⟩
  have hkw1 := HKA.out.trans hk1
  cases hn : decide (3000 < n) with
  | true =>
    go_wp2_with fail
    refine (H5.out _ hkw1).mono ?_
    rintro r W2 ⟨rfl, hk2⟩
    go_wp2
    go_ret
    exact ⟨rfl, hkw1.trans hk2⟩
  | false =>
    have HB1 := Lib.hid (HB.out.keep hk1)
    go_wp2_with ((with_reducible show wpList _ _ _ (Oper.mk _ (Op.load _ _) _ _ _ _ :: _) _ _); refine wpList_load_cells rfl 44 (.tmp 1) rfl (w.heap.size) rfl _ Tryz.underlying44 rfl HB1.out (by kernel_rfl) ?_)
    refine (H2.out _ hkw1).mono ?_
    rintro r W2 ⟨rfl, hk2⟩
    have HB2 := Lib.hid (HB1.out.keep hk2)
    have hkw2 := hkw1.trans hk2
    clear hk1 hk2 HB HB1
    cases hm : mayE 24 e with
    | false =>
      rw [show exprV e = .tuple #[.string ⟨#[]⟩, .int .i64 2] from by rw [exprV, hm]; rfl]
      rw [hm] at H3
      clear hm H4
      go_wp2_with ((with_reducible show wpList _ _ _ (Oper.mk _ (Op.load _ _) _ _ _ _ :: _) _ _); refine wpList_load_cells rfl 44 (.tmp 1) rfl (w.heap.size) rfl _ Tryz.underlying44 rfl HB2.out (by kernel_rfl) ?_)
      refine (H3.out _ hkw2).mono ?_
      rintro r W3 ⟨rfl, hk3⟩
      have hkw3 := hkw2.trans hk3
      go_wp2_with fail
      refine (num2_any _ _).mono ?_
      rintro r W4 ⟨rfl, rfl⟩
      go_wp2_with fail
      refine (H5.out _ hkw3).mono ?_
      rintro r W5 ⟨rfl, hk5⟩
      go_wp2
      go_ret
      exact ⟨rfl, hkw3.trans hk5⟩
    | true =>
      have HX := Lib.hid (fun W hk => H4.out W hk hm)
      obtain ⟨t, ht⟩ : ∃ t, t = exprT 24 0 e := ⟨_, rfl⟩
      rw [show exprV e = .tuple #[.string t, .int .i64 0] from by rw [exprV, hm, ht]; rfl]
      rw [← ht] at HX
      rw [hm] at H3
      clear hm H4 ht
      go_wp2_with ((with_reducible show wpList _ _ _ (Oper.mk _ (Op.load _ _) _ _ _ _ :: _) _ _); refine wpList_load_cells rfl 44 (.tmp 1) rfl (w.heap.size) rfl _ Tryz.underlying44 rfl HB2.out (by kernel_rfl) ?_)
      refine (H3.out _ hkw2).mono ?_
      rintro r W3 ⟨rfl, hk3⟩
      have hkw3 := hkw2.trans hk3
      have HB3 := Lib.hid (HB2.out.keep hk3)
      go_wp2_with ((with_reducible show wpList _ _ _ (Oper.mk _ (Op.load _ _) _ _ _ _ :: _) _ _); refine wpList_load_cells rfl 44 (.tmp 1) rfl (w.heap.size) rfl _ Tryz.underlying44 rfl HB3.out (by kernel_rfl) ?_)
      refine (HX.out _ hkw3).mono ?_
      rintro r W4 ⟨rfl, hk4⟩
      have hkw4 := hkw3.trans hk4
      have hbt : (t.toList == t.toList) = true := by simp
      go_wp2_with fail
      refine (num2_any _ _).mono ?_
      rintro r W5 ⟨rfl, rfl⟩
      go_wp2_with fail
      refine (H5.out _ hkw4).mono ?_
      rintro r W6 ⟨rfl, hk6⟩
      go_wp2
      go_ret
      exact ⟨rfl, hkw4.trans hk6⟩
end Go.Proofs.YtjkgepppoopheaaGreatDoor
