/- What the law SyntaxDecls answers: true (conditions: the tables stand). -/
import Derived.Test.YtjkgepppoopheaaGreatDoorQ37
namespace Go.Proofs.YtjkgepppoopheaaGreatDoor
open Go.RowKit Go.Shelf

set_option maxRecDepth 100000 in
set_option maxHeartbeats 1000000 in
theorem syntaxDecls_any (s : ByteArray) (w : World) (hT : Tabs w) : Calls Tryz.prog 12 #[.string s] w fun e w' => e = .returned (.bool true) ∧ Kept noX w w' := by
  have HT := Lib.hid hT
  clear hT
  by_cases hs : s.size ≤ 500
  · have hd : decide ((500 : Int) < (s.size : Int)) = false := by simp; omega
    obtain ⟨T, hTT⟩ : ∃ T : ByteArray, T = ⟨#[99, 111, 110, 100, 32, 99, 59, 10]⟩ ++ s := ⟨_, rfl⟩
    have hTs : T.size ≤ 65536 := by rw [hTT]; (simp only [ByteArray.size_append]; have h1 : (⟨#[99, 111, 110, 100, 32, 99, 59, 10]⟩ : ByteArray).size = 8 := rfl; omega)
    have HTT := Lib.hid hTT
    have HTS := Lib.hid hTs
    clear hTT hTs
    go_enter Tryz.func12, Tryz.ntmps12
    go_wp2_with fail
    rw [← HTT.out]
    refine (parse_calls T HTS.out w HT.out.ops HT.out.decls).mono ?_
    rintro e W1 ⟨r, hr, hv, hk1⟩
    obtain ⟨v, a, b, c, l, hf, rfl, hrow⟩ := hv.flat
    have HR := Lib.hid hr
    have HF := Lib.hid hf
    clear hr hv hf
    go_wp2_with fail
    refine (rparse_any T HTS.out _).mono ?_
    rintro e W2 ⟨r', hr', hv', hk2⟩
    obtain rfl := HR.out.unique hr'
    obtain ⟨v', a', b', c', l', hf', rfl, hrow'⟩ := hv'.flat
    have hf2 := HF.out.symm.trans hf'
    injection hf2 with h1 h2
    injection h2 with h2 h3
    injection h3 with h3 h4
    subst h1 h2 h3 h4
    have hp1 := (Cells.fresh W1 25 [.int .i64 a, .int .i64 b]).kept hk2 (fun h => h)
    have hr1 := (hrow.keep ((Kept.refl noX W1).alloc (.cells #[.int .i64 a, .int .i64 b] 25))).keep hk2
    have hkw := (hk1.alloc (.cells #[.int .i64 a, .int .i64 b] 25)).trans hk2
    have HT2 := Lib.hid (HT.out.keep hkw)
    clear hf' hv' hr' hrow hk1 hk2
    go_wp2_with fail
    have hp2 := Cells.fresh W2 25 [.int .i64 a, .int .i64 b]
    have hp1' := hp1.alloc (.cells #[.int .i64 a, .int .i64 b] 25)
    have hkk := (Kept.refl noX W2).alloc (.cells #[.int .i64 a, .int .i64 b] 25)
    refine (rsameD_true l l v v' _ (hr1.keep hkk) (hrow'.keep hkk)).mono ?_
    rintro e W3 ⟨rfl, hk3⟩
    rw [sameDL_refl]
    have hq1 := hp1'.kept hk3 (fun h => h)
    have hq2 := hp2.kept hk3 (fun h => h)
    have hkw3 := (hkw.alloc (.cells #[.int .i64 a, .int .i64 b] 25)).trans hk3
    have p0 := hq1.cell 0; have p1 := hq1.cell 1; have p2 := hq2.cell 0; have p3 := hq2.cell 1
    simp only [List.getElem?_cons_zero, List.getElem?_cons_succ] at p0 p1 p2 p3
    have HK := Lib.hid hkw3
    have HT3 := Lib.hid (HT.out.keep hkw3)
    clear hp1 hp1' hp2 hq1 hq2 hk3 hkw hr1 hrow' hkw3 HT2 hkk
    go_wp2_with (first | (go_at_call 19; refine (num2_any _ _).mono ?_; rintro e W3' ⟨rfl, rfl⟩) | (go_at_call 15; refine (works2_any _ HT3.out).mono ?_; rintro e W4 ⟨rfl, hk4⟩))
    go_ret
    exact ⟨rfl, HK.out.trans hk4⟩
  · have hd : decide ((500 : Int) < (s.size : Int)) = true := by simp; omega
    go_enter Tryz.func12, Tryz.ntmps12
    go_wp2_with (go_at_call 15; refine (works2_any _ HT.out).mono ?_; rintro e W3 ⟨rfl, hk3⟩)
    go_ret
    exact ⟨rfl, hk3⟩
end Go.Proofs.YtjkgepppoopheaaGreatDoor
