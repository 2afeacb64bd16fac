/- What LexTexts, LexWords and LexTwo answer: true (conditions: none). -/
import Derived.Test.YthknjkmkhjjmmaaRef3
import Derived.Test.YthknjkmkhjjmmaaSame
namespace Go.Proofs.Ythknjkmkhjjmmaa
open Go.RowKit Go.Shelf

theorem tokRow_nil (W : World) (T : Nat → TokD) : TokRow W (.slice none 0 0) 0 T := ⟨[], World.ownsRow_nil _ _ _ _, fun k hk => by omega⟩

/-- What a call of a Lex tells, in one form. -/
theorem LexOut.both {s : ByteArray} {w W1 : World} {e1 : Ending} (h1 : LexOut s w e1 W1) :
    ∃ (v : Value) (n : Nat) (T : Nat → TokD) (a b c : Int), n ≤ s.size ∧ e1 = .returned (.tuple #[v, .agg #[.int .i64 a, .int .i64 b], .int .i64 c]) ∧ TokRow W1 v n T ∧ Kept noX w W1 ∧
      ∀ w2 e2 W2, LexOut s w2 e2 W2 → ∃ v2, e2 = .returned (.tuple #[v2, .agg #[.int .i64 a, .int .i64 b], .int .i64 c]) ∧ TokRow W2 v2 n T ∧ Kept noX w2 W2 := by
  rcases h1 with ⟨n, v, hg, he, he1, ho, hb, hk⟩ | ⟨n, hg, hlt, hbad, he1, hk⟩
  · refine ⟨v, n, fun k => tokD s (posW s.data.toList k), 0, 0, 0, ?_, he1, ⟨_, ho, fun k hk j hj => toks_at s _ _ k j hk hj⟩, hk, ?_⟩
    · have h1 := posW_ge hg
      have h2 : s.data.toList.length = s.size := by simp
      omega
    · intro w2 e2 W2 h2
      obtain ⟨v2, hv2, hr, _, hk2⟩ := h2.all hg he
      exact ⟨v2, hv2, hr, hk2⟩
  · refine ⟨.slice none 0 0, 0, fun k => tokD s k, _, _, _, Nat.zero_le _, he1, tokRow_nil _ _, hk, ?_⟩
    intro w2 e2 W2 h2
    obtain ⟨hv2, hk2⟩ := h2.bad hg hlt hbad
    exact ⟨_, hv2, tokRow_nil _ _, hk2⟩

set_option maxRecDepth 100000 in
set_option maxHeartbeats 1000000 in
theorem lexTexts_any (s : ByteArray) (w : World) : Calls Try.prog 3 #[.string s] w fun e w' => e = .returned (.bool true) ∧ Kept noX w w' := by
  by_cases hs : s.size ≤ 4000
  · have hd : decide ((4000 : Int) < (s.size : Int)) = false := by simp; omega
    go_enter Try.func3, Try.ntmps3
    go_wp2_with fail
    refine (lex_calls s (by omega) _).mono ?_
    intro e W1 h1
    obtain ⟨v, n, T, a, b, c, hn, rfl, hr1, hk1, hnext⟩ := h1.both
    clear h1
    go_wp2_with fail
    refine (rlex_any s (by omega) _).mono ?_
    intro e W2 h2
    obtain ⟨v2, rfl, hr2, hk2⟩ := hnext _ _ _ h2
    clear h2 hnext
    have hp1 := (Cells.fresh W1 25 [.int .i64 a, .int .i64 b]).kept hk2 (fun h => h)
    have hr1' := (hr1.kept ((Kept.refl noX W1).alloc (.cells #[.int .i64 a, .int .i64 b] 25)) (fun _ _ h => h)).kept hk2 (fun _ _ h => h)
    have hkw := (hk1.alloc (.cells #[.int .i64 a, .int .i64 b] 25)).trans hk2
    clear hr1 hk1 hk2
    go_wp2_with fail
    have hp2 := Cells.fresh W2 25 [.int .i64 a, .int .i64 b]
    have hp1' := hp1.alloc (.cells #[.int .i64 a, .int .i64 b] 25)
    have hs := Lib.hid (same_any v v2 n (by omega) T (W2.alloc (.cells #[.int .i64 a, .int .i64 b] 25)) (hr1'.kept ((Kept.refl noX W2).alloc _) (fun _ _ h => h)) (hr2.kept ((Kept.refl noX W2).alloc _) (fun _ _ h => h)))
    refine hs.out.mono ?_
    rintro e W3 ⟨rfl, hk3⟩
    have hq1 := hp1'.kept hk3 (fun h => h)
    have hq2 := hp2.kept hk3 (fun h => h)
    have hkw3 := (hkw.alloc (.cells #[.int .i64 a, .int .i64 b] 25)).trans hk3
    have p0 := hq1.cell 0; have p1 := hq1.cell 1; have p2 := hq2.cell 0; have p3 := hq2.cell 1
    simp only [List.getElem?_cons_zero, List.getElem?_cons_succ] at p0 p1 p2 p3
    clear hs hp1 hp1' hp2 hq1 hq2 hk3 hkw hr1' hr2
    have HK := Lib.hid hkw3
    clear hkw3
    go_wp2_with (first | (go_at_call 14; refine (num_any _ _).mono ?_; rintro e W3' ⟨rfl, rfl⟩) | (go_at_call 10; refine (works_any _).mono ?_; rintro e W4 ⟨rfl, hk4⟩))
    go_ret
    exact ⟨rfl, HK.out.trans hk4⟩
  · have hd : decide ((4000 : Int) < (s.size : Int)) = true := by simp; omega
    go_enter Try.func3, Try.ntmps3
    go_wp2_with (go_at_call 10; refine (works_any _).mono ?_; rintro e W3 ⟨rfl, hk3⟩)
    go_ret
    exact ⟨rfl, hk3⟩

set_option maxRecDepth 100000 in
set_option maxHeartbeats 1000000 in
theorem lexTwo_any (x y : ByteArray) (w : World) : Calls Try.prog 8 #[.string x, .string y] w fun e w' => e = .returned (.bool true) ∧ Kept noX w w' := by
  by_cases hs : x.size ≤ 100 ∧ y.size ≤ 100
  · have hd : decide ((100 : Int) < (x.size : Int)) = false := by simp; omega
    have hd2 : decide ((100 : Int) < (y.size : Int)) = false := by simp; omega
    go_enter Try.func8, Try.ntmps8
    go_wp2_with fail
    refine (lex_calls (x ++ y) (by rw [ByteArray.size_append]; omega) _).mono ?_
    intro e W1 h1
    obtain ⟨v, n, T, a, b, c, hn, rfl, hr1, hk1, hnext⟩ := h1.both
    clear h1
    go_wp2_with fail
    refine (rlex_any (x ++ y) (by rw [ByteArray.size_append]; omega) _).mono ?_
    intro e W2 h2
    obtain ⟨v2, rfl, hr2, hk2⟩ := hnext _ _ _ h2
    clear h2 hnext
    have hp1 := (Cells.fresh W1 25 [.int .i64 a, .int .i64 b]).kept hk2 (fun h => h)
    have hr1' := (hr1.kept ((Kept.refl noX W1).alloc (.cells #[.int .i64 a, .int .i64 b] 25)) (fun _ _ h => h)).kept hk2 (fun _ _ h => h)
    have hkw := (hk1.alloc (.cells #[.int .i64 a, .int .i64 b] 25)).trans hk2
    clear hr1 hk1 hk2
    go_wp2_with fail
    have hp2 := Cells.fresh W2 25 [.int .i64 a, .int .i64 b]
    have hp1' := hp1.alloc (.cells #[.int .i64 a, .int .i64 b] 25)
    have hs := Lib.hid (same_any v v2 n (by rw [ByteArray.size_append] at hn; omega) T (W2.alloc (.cells #[.int .i64 a, .int .i64 b] 25)) (hr1'.kept ((Kept.refl noX W2).alloc _) (fun _ _ h => h)) (hr2.kept ((Kept.refl noX W2).alloc _) (fun _ _ h => h)))
    refine hs.out.mono ?_
    rintro e W3 ⟨rfl, hk3⟩
    have hq1 := hp1'.kept hk3 (fun h => h)
    have hq2 := hp2.kept hk3 (fun h => h)
    have hkw3 := (hkw.alloc (.cells #[.int .i64 a, .int .i64 b] 25)).trans hk3
    have p0 := hq1.cell 0; have p1 := hq1.cell 1; have p2 := hq2.cell 0; have p3 := hq2.cell 1
    simp only [List.getElem?_cons_zero, List.getElem?_cons_succ] at p0 p1 p2 p3
    clear hs hp1 hp1' hp2 hq1 hq2 hk3 hkw hr1' hr2
    have HK := Lib.hid hkw3
    clear hkw3
    go_wp2_with (first | (go_at_call 14; refine (num_any _ _).mono ?_; rintro e W3' ⟨rfl, rfl⟩) | (go_at_call 10; refine (works_any _).mono ?_; rintro e W4 ⟨rfl, hk4⟩))
    go_ret
    exact ⟨rfl, HK.out.trans hk4⟩
  · by_cases hx : x.size ≤ 100
    · have hd : decide ((100 : Int) < (x.size : Int)) = false := by simp; omega
      have hd2 : decide ((100 : Int) < (y.size : Int)) = true := by simp; omega
      go_enter Try.func8, Try.ntmps8
      go_wp2_with (go_at_call 10; refine (works_any _).mono ?_; rintro e W3 ⟨rfl, hk3⟩)
      go_ret
      exact ⟨rfl, hk3⟩
    · have hd : decide ((100 : Int) < (x.size : Int)) = true := by simp; omega
      go_enter Try.func8, Try.ntmps8
      go_wp2_with (go_at_call 10; refine (works_any _).mono ?_; rintro e W3 ⟨rfl, hk3⟩)
      go_ret
      exact ⟨rfl, hk3⟩

theorem words_ends : (⟨#[97, 10]⟩ : ByteArray).size = 2 ∧ (⟨#[32, 98]⟩ : ByteArray).size = 2 := ⟨rfl, rfl⟩

set_option maxRecDepth 100000 in
set_option maxHeartbeats 1000000 in
theorem lexWords_any (x : ByteArray) (w : World) : Calls Try.prog 4 #[.string x] w fun e w' => e = .returned (.bool true) ∧ Kept noX w w' := by
  by_cases hs : x.size ≤ 500
  · have hd : decide ((500 : Int) < (x.size : Int)) = false := by simp; omega
    go_enter Try.func4, Try.ntmps4
    go_wp2_with fail
    refine (lex_calls _ ?z1 _).mono ?_
    case z1 => simp only [ByteArray.size_append]; rw [words_ends.1, words_ends.2]; omega
    intro e W1 h1
    obtain ⟨v, n, T, a, b, c, hn, rfl, hr1, hk1, hnext⟩ := h1.both
    clear h1
    go_wp2_with fail
    refine (rlex_any _ ?z2 _).mono ?_
    case z2 => simp only [ByteArray.size_append]; rw [words_ends.1, words_ends.2]; omega
    intro e W2 h2
    obtain ⟨v2, rfl, hr2, hk2⟩ := hnext _ _ _ h2
    clear h2 hnext
    have hp1 := (Cells.fresh W1 25 [.int .i64 a, .int .i64 b]).kept hk2 (fun h => h)
    have hr1' := (hr1.kept ((Kept.refl noX W1).alloc (.cells #[.int .i64 a, .int .i64 b] 25)) (fun _ _ h => h)).kept hk2 (fun _ _ h => h)
    have hkw := (hk1.alloc (.cells #[.int .i64 a, .int .i64 b] 25)).trans hk2
    clear hr1 hk1 hk2
    go_wp2_with fail
    have hp2 := Cells.fresh W2 25 [.int .i64 a, .int .i64 b]
    have hp1' := hp1.alloc (.cells #[.int .i64 a, .int .i64 b] 25)
    have hn2 : n ≤ 1000000 := by simp only [ByteArray.size_append] at hn; rw [words_ends.1, words_ends.2] at hn; omega
    have hs := Lib.hid (same_any v v2 n hn2 T (W2.alloc (.cells #[.int .i64 a, .int .i64 b] 25)) (hr1'.kept ((Kept.refl noX W2).alloc _) (fun _ _ h => h)) (hr2.kept ((Kept.refl noX W2).alloc _) (fun _ _ h => h)))
    refine hs.out.mono ?_
    rintro e W3 ⟨rfl, hk3⟩
    have hq1 := hp1'.kept hk3 (fun h => h)
    have hq2 := hp2.kept hk3 (fun h => h)
    have hkw3 := (hkw.alloc (.cells #[.int .i64 a, .int .i64 b] 25)).trans hk3
    have p0 := hq1.cell 0; have p1 := hq1.cell 1; have p2 := hq2.cell 0; have p3 := hq2.cell 1
    simp only [List.getElem?_cons_zero, List.getElem?_cons_succ] at p0 p1 p2 p3
    clear hs hp1 hp1' hp2 hq1 hq2 hk3 hkw hr1' hr2
    have HK := Lib.hid hkw3
    clear hkw3
    go_wp2_with (first | (go_at_call 14; refine (num_any _ _).mono ?_; rintro e W3' ⟨rfl, rfl⟩) | (go_at_call 10; refine (works_any _).mono ?_; rintro e W4 ⟨rfl, hk4⟩))
    go_ret
    exact ⟨rfl, HK.out.trans hk4⟩
  · have hd : decide ((500 : Int) < (x.size : Int)) = true := by simp; omega
    go_enter Try.func4, Try.ntmps4
    go_wp2_with (go_at_call 10; refine (works_any _).mono ?_; rintro e W3 ⟨rfl, hk3⟩)
    go_ret
    exact ⟨rfl, hk3⟩
end Go.Proofs.Ythknjkmkhjjmmaa
