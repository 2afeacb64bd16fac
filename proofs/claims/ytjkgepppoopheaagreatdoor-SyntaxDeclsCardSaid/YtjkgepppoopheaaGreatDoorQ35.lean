/- What the document's Lex answers: the same as lex.Lex (conditions: the text is of at most 65536 bytes; of a longer one: of at most 1000000). -/
import Derived.Test.YtjkgepppoopheaaGreatDoorAbb
import Derived.Test.YtjkgepppoopheaaGreatDoorQ24
set_option maxRecDepth 100000
set_option maxHeartbeats 1000000
namespace Go.Proofs.YtjkgepppoopheaaGreatDoor
open Go.RowKit Go.Shelf
def sgRL : List (List UInt8) := sgR.map (·.data.toList)
def sgFits (l : List UInt8) (j : Nat) : Prop := (sgRL.getD j []).length ≤ l.length ∧ l.take (sgRL.getD j []).length = sgRL.getD j []
theorem sg_two {l : List UInt8} (h : 2 ≤ l.length ∧ l.take 2 ∈ sgL) : ∃ j, j < 5 ∧ sgFits l j := by
 have h5 : ∀ t ∈ sgL, t.length = 2 → ∃ j, j < 5 ∧ sgRL.getD j [] = t := by decide
 obtain ⟨j, hj, e⟩ := h5 _ h.2 (by rw [List.length_take]; omega)
 refine ⟨j, hj, ?_⟩
 unfold sgFits
 rw [e, List.length_take, Nat.min_eq_left h.1]
 exact ⟨h.1, rfl⟩
theorem sg_one {l : List UInt8} (h : 1 ≤ l.length ∧ l.take 1 ∈ sgL) : ∃ j, j < 20 ∧ sgFits l j := by
 have h5 : ∀ t ∈ sgL, t.length = 1 → ∃ j, j < 20 ∧ sgRL.getD j [] = t := by decide
 obtain ⟨j, hj, e⟩ := h5 _ h.2 (by rw [List.length_take]; omega)
 refine ⟨j, hj, ?_⟩
 unfold sgFits
 rw [e, List.length_take, Nat.min_eq_left h.1]
 exact ⟨h.1, rfl⟩
theorem sg_len (j : Nat) (h : j < 20) : (j < 5 → (sgRL.getD j []).length = 2) ∧ (5 ≤ j → (sgRL.getD j []).length = 1) ∧ sgRL.getD j [] ∈ sgL := by
 have : ∀ j, j < 20 → (j < 5 → (sgRL.getD j []).length = 2) ∧ (5 ≤ j → (sgRL.getD j []).length = 1) ∧ sgRL.getD j [] ∈ sgL := by decide
 exact this j h
theorem sg_hit {l : List UInt8} {k : Nat} (hk : k < 20) (hm : sgFits l k) (hno : ∀ j, j < k → ¬ sgFits l j) : sgN l = (sgRL.getD k []).length := by
 obtain ⟨h2, h1, hin⟩ := sg_len k hk
 unfold sgN
 by_cases h5 : k < 5
 ·have hl := h2 h5
  unfold sgFits at hm
  rw [hl] at hm
  rw [if_pos ⟨hm.1, by rw [hm.2]; exact hin⟩, hl]
 ·have hl := h1 kom
  unfold sgFits at hm
  rw [hl] at hm
  rw [if_neg (fun h => ?_), if_pos ⟨hm.1, by rw [hm.2]; exact hin⟩, hl]
  obtain ⟨j, hj, hf⟩ := sg_two h
  exact hno j kom hf
theorem sg_miss {l : List UInt8} (hno : ∀ j, j < 20 → ¬ sgFits l j) : sgN l = 0 := by
 unfold sgN
 rw [if_neg (fun h => ?_), if_neg (fun h => ?_)]
 ·obtain ⟨j, hj, hf⟩ := sg_one h
  exact hno j hj hf
 ·obtain ⟨j, hj, hf⟩ := sg_two h
  exact hno j kom hf
def oneV (s : ByteArray) (i : Nat) : Value :=
 let r := wordR (s.data.toList.drop i)
 if r.2.2.2 = 0 then .tuple #[.agg #[.int .i64 r.1, .string (s.extract i (i + r.2.1)), .int .i64 r.2.2.1, .int .i64 0, .int .i64 0], .int .i64 (r.2.1 : Nat), .int .i64 0]
 else .tuple #[.agg tok0.toArray, .int .i64 0, .int .i64 r.2.2.2]
theorem oneV_ok {s : ByteArray} {i n : Nat} {a c : Int} (h : wordR (s.data.toList.drop i) = (a, n, c, 0)) :
  oneV s i = .tuple #[.agg #[.int .i64 a, .string (s.extract i (i + n)), .int .i64 c, .int .i64 0, .int .i64 0], .int .i64 (n : Nat), .int .i64 0] := by
 unfold oneV
 rw [h]
 rfl
theorem oneV_bad {s : ByteArray} {i n : Nat} {a c e : Int} (h : wordR (s.data.toList.drop i) = (a, n, c, e)) (he : e ≠ 0) :
  oneV s i = .tuple #[.agg tok0.toArray, .int .i64 0, .int .i64 e] := by
 unfold oneV
 rw [h]
 dsimp only
 rw [if_neg he]
theorem results24_of {W : World} {R : Nat} {tmps : Array Value} {c0 c1 c2 c3 c4 a b : Value} (h : Cells W R 92 [c0, c1, c2, c3, c4]) (h4 : tmps.getD 4 undef = .pointer (some ⟨R, 0, none⟩)) (h5 : tmps.getD 5 undef = a) (h6 : tmps.getD 6 undef = b) :
  (results Tryz.f80 tmps).run Tryz.prog W = .ok (.tuple #[.agg #[c0, c1, c2, c3, c4], a, b]) W := by
 have d0 := h.cell 0; have d1 := h.cell 1; have d2 := h.cell 2; have d3 := h.cell 3; have d4 := h.cell 4
 simp only [aZ, aS] at d0 d1 d2 d3 d4
 rw [Array.getD_eq_getD_getElem?] at h4 h5 h6
 simp [results, Tryz.results80, go_sem, h4, h5, h6, d0, d1, d2, d3, d4]
theorem put5 {w W : World} {R : Nat} (h : Cells W R 92 tok0) (hk : Kept noX w W) (hR : w.heap.size ≤ R) (a0 a1 a2 a3 a4 : Value) :
  Cells (((((W.setCell ⟨R, 0, none⟩ a0).setCell ⟨R, 1, none⟩ a1).setCell ⟨R, 2, none⟩ a2).setCell ⟨R, 3, none⟩ a3).setCell ⟨R, 4, none⟩ a4) R 92 [a0, a1, a2, a3, a4] ∧
  Kept noX w (((((W.setCell ⟨R, 0, none⟩ a0).setCell ⟨R, 1, none⟩ a1).setCell ⟨R, 2, none⟩ a2).setCell ⟨R, 3, none⟩ a3).setCell ⟨R, 4, none⟩ a4) := by
 refine ⟨((((h.put 0 a0).put 1 a1).put 2 a2).put 3 a3).put 4 a4, ?_⟩
 refine ((((hk.setCell (fun hh => ?_) a0).setCell (fun hh => ?_) a1).setCell (fun hh => ?_) a2).setCell (fun hh => ?_) a3).setCell (fun hh => ?_) a4
 all_goals dsimp only at hh; omega
theorem one_letter (s : ByteArray) (hs : s.size ≤ 1000000) (i0 : Nat) (hi : i0 < s.size) (w : World) (hl : letB (s[i0].toNat : Nat) = true) :
  Calls Tryz.prog 80 #[.string s, .int .i64 i0] w fun e w' => e = .returned (oneV s i0) ∧ Kept noX w w' := by
 have hb0 := drop_at (s := s) (Nat.le_refl i0) hi
 rw [Nat.sub_self] at hb0
 have hn1 : i0 + runQ alnB (s.data.toList.drop i0) ≤ s.size := by
  have h1 := runQ_le alnB (s.data.toList.drop i0)
  rw [drop_len] at h1
  omega
 have hst := runQ_step (q := alnB) hi
 have HB0 := aP hb0
 have HST := aP hst
 clear hb0 hst
 obtain ⟨t, ht⟩ : ∃ t, t = s.extract i0 (i0 + runQ alnB (s.data.toList.drop i0)) := ⟨_, rfl⟩
 have htl : t.data.toList = (s.data.toList.drop i0).take (runQ alnB (s.data.toList.drop i0)) := by rw [ht, extract_list]
 have hts : t.size = runQ alnB (s.data.toList.drop i0) := by rw [ht, ByteArray.size_extract]; omega
 obtain ⟨n, hn⟩ : ∃ n, n = runQ alnB (s.data.toList.drop i0) := ⟨_, rfl⟩
 rw [← hn] at hn1 hts ht
 have HT := aP ht
 have HTL := aP htl
 have HN := aP hn
 have hrun : Calls Tryz.prog 135 #[.string s, .int .i64 i0] (w.alloc (.cells tok0.toArray 92)) fun e w' => e = .returned (.int .i64 (n : Nat)) ∧ Kept noX (w.alloc (.cells tok0.toArray 92)) w' := by rw [hn]; exact run_any s hs i0 kom _
 have HRUN := aP hrun
 clear ht htl hn hrun
 go_enter Tryz.func80, Tryz.ntmps80
 go_wp2_with fail
 refine HRUN.out.mono ?_
 rintro e W1 ⟨rfl, hk1⟩
 have hR := (Cells.fresh w 92 tok0).kept hk1 (fun h => h)
 have hkw := ((Kept.refl noX w).alloc (.cells tok0.toArray 92)).trans hk1
 clear hk1 HRUN
 have hx : 97 ≤ (s[i0].toNat : Int) := by simp [letB] at hl; omega
 have hdg : digB (s[i0].toNat : Nat) = false := by
  rw [Bool.eq_false_iff]; intro h; have := (digB_iff _).1 h; omega
 have hn0 : 0 < n := by
  rw [HN.out, HST.out, if_pos (by simp [alnB, hl])]; omega
 have HC : Hid (∀ W, Calls Tryz.prog 94 #[.int .u8 (s[i0].toNat : Nat)] W fun e w' => e = .returned (.bool false) ∧ W = w') := aP (fun W => by rw [← hdg]; exact rdigit_any _ W)
 have hw := wordR_let HB0.out hl
 rw [← HN.out] at hw
 rw [← HN.out] at HTL
 rw [← HTL.out] at hw
 have HW := aP hw
 clear hl hdg hw hx
 cases hkwd : kwIs t.data.toList with
 | true =>
  have hin : t.data.toList ∈ kwL := by simpa [kwIs] using hkwd
  have h16 := kw_short hin
  have HK : Hid (∀ W, Calls Tryz.prog 93 #[.string t] W fun e w' => e = .returned (.bool true) ∧ Kept noX W w') := aP (fun W => by rw [← hkwd]; exact rkeyword_any t W)
  have HV : Hid (oneV s i0 = .tuple #[.agg #[.int .i64 3, .string t, .int .i64 0, .int .i64 0, .int .i64 0], .int .i64 (n : Nat), .int .i64 0]) := aP (by
    have hw := HW.out
    rw [if_pos hin, if_pos kom] at hw
    rw [oneV_ok hw, HT.out])
  clear hkwd hin h16
  obtain rfl := HT.out
  have hnl : (0 : Int) < (n : Int) := by omega
  go_wp2_with fail
  refine (HC.out _).mono ?_
  rintro e W1' ⟨rfl, rfl⟩
  go_wp2_with fail
  refine (HK.out _).mono ?_
  rintro e W2 ⟨rfl, hk2⟩
  have hR2 := hR.kept hk2 (fun h => h)
  have hkw2 := hkw.trans hk2
  have r0 := hR2.cell 0; have r1 := hR2.cell 1; have r2 := hR2.cell 2; have r3 := hR2.cell 3; have r4 := hR2.cell 4
  have q0 := hR2.free 0; have q1 := hR2.free 1; have q2 := hR2.free 2; have q3 := hR2.free 3; have q4 := hR2.free 4
  simp only [tok0, aZ, aS] at r0 r1 r2 r3 r4
  clear hR hk2 hkw
  go_wp2
  obtain ⟨hf1, hf2⟩ := put5 hR2 hkw2 (Nat.le_refl _) (.int .i64 3) ((.string (s.extract i0 (i0 + n)))) (.int .i64 0) (.int .i64 0) (.int .i64 0)
  refine bodyPost_ret (results24_of hf1 rfl rfl rfl) rfl ?_
  exact ⟨by rw [HV.out] <;> rfl, hf2⟩
 | false =>
  have hin : t.data.toList ∉ kwL := by simpa [kwIs] using hkwd
  have HK : Hid (∀ W, Calls Tryz.prog 93 #[.string t] W fun e w' => e = .returned (.bool false) ∧ Kept noX W w') := aP (fun W => by rw [← hkwd]; exact rkeyword_any t W)
  have hnl : (0 : Int) < (n : Int) := by omega
  by_cases h16 : n ≤ 16
  ·have HV : Hid (oneV s i0 = .tuple #[.agg #[.int .i64 1, .string t, .int .i64 0, .int .i64 0, .int .i64 0], .int .i64 (n : Nat), .int .i64 0]) := aP (by
     have hw := HW.out
     rw [if_neg hin, if_pos h16] at hw
     rw [oneV_ok hw, HT.out])
   clear hkwd hin
   obtain rfl := HT.out
   go_wp2_with fail
   refine (HC.out _).mono ?_
   rintro e W1' ⟨rfl, rfl⟩
   go_wp2_with fail
   refine (HK.out _).mono ?_
   rintro e W2 ⟨rfl, hk2⟩
   have hR2 := hR.kept hk2 (fun h => h)
   have hkw2 := hkw.trans hk2
   have r0 := hR2.cell 0; have r1 := hR2.cell 1; have r2 := hR2.cell 2; have r3 := hR2.cell 3; have r4 := hR2.cell 4
   have q0 := hR2.free 0; have q1 := hR2.free 1; have q2 := hR2.free 2; have q3 := hR2.free 3; have q4 := hR2.free 4
   simp only [tok0, aZ, aS] at r0 r1 r2 r3 r4
   clear hR hk2 hkw
   go_wp2
   obtain ⟨hf1, hf2⟩ := put5 hR2 hkw2 (Nat.le_refl _) (.int .i64 1) ((.string (s.extract i0 (i0 + n)))) (.int .i64 0) (.int .i64 0) (.int .i64 0)
   refine bodyPost_ret (results24_of hf1 rfl rfl rfl) rfl ?_
   exact ⟨by rw [HV.out] <;> rfl, hf2⟩
  ·have HV : Hid (oneV s i0 = .tuple #[.agg tok0.toArray, .int .i64 0, .int .i64 111]) := aP (by
     have hw := HW.out
     rw [if_neg hin, if_neg h16] at hw
     exact oneV_bad hw (by decide))
   clear hkwd hin
   obtain rfl := HT.out
   go_wp2_with fail
   refine (HC.out _).mono ?_
   rintro e W1' ⟨rfl, rfl⟩
   go_wp2_with fail
   refine (HK.out _).mono ?_
   rintro e W2 ⟨rfl, hk2⟩
   have hR2 := hR.kept hk2 (fun h => h)
   have hkw2 := hkw.trans hk2
   have r0 := hR2.cell 0; have r1 := hR2.cell 1; have r2 := hR2.cell 2; have r3 := hR2.cell 3; have r4 := hR2.cell 4
   have q0 := hR2.free 0; have q1 := hR2.free 1; have q2 := hR2.free 2; have q3 := hR2.free 3; have q4 := hR2.free 4
   simp only [tok0, aZ, aS] at r0 r1 r2 r3 r4
   clear hR hk2 hkw
   go_wp2
   obtain ⟨hf1, hf2⟩ := put5 hR2 hkw2 (Nat.le_refl _) (.int .i64 0) (.string ⟨#[]⟩) (.int .i64 0) (.int .i64 0) (.int .i64 0)
   refine bodyPost_ret (results24_of hf1 rfl rfl rfl) rfl ?_
   exact ⟨by rw [HV.out] <;> rfl, hf2⟩
theorem one_digit (s : ByteArray) (hs : s.size ≤ 1000000) (i0 : Nat) (hi : i0 < s.size) (w : World) (hl : letB (s[i0].toNat : Nat) = false) (hdg : digB (s[i0].toNat : Nat) = true) :
  Calls Tryz.prog 80 #[.string s, .int .i64 i0] w fun e w' => e = .returned (oneV s i0) ∧ Kept noX w w' := by
 have hb0 := drop_at (s := s) (Nat.le_refl i0) hi
 rw [Nat.sub_self] at hb0
 have hn1 : i0 + runQ alnB (s.data.toList.drop i0) ≤ s.size := by
  have h1 := runQ_le alnB (s.data.toList.drop i0)
  rw [drop_len] at h1
  omega
 have hst := runQ_step (q := alnB) hi
 have HB0 := aP hb0
 have HST := aP hst
 clear hb0 hst
 obtain ⟨t, ht⟩ : ∃ t, t = s.extract i0 (i0 + runQ alnB (s.data.toList.drop i0)) := ⟨_, rfl⟩
 have htl : t.data.toList = (s.data.toList.drop i0).take (runQ alnB (s.data.toList.drop i0)) := by rw [ht, extract_list]
 have hts : t.size = runQ alnB (s.data.toList.drop i0) := by rw [ht, ByteArray.size_extract]; omega
 obtain ⟨n, hn⟩ : ∃ n, n = runQ alnB (s.data.toList.drop i0) := ⟨_, rfl⟩
 rw [← hn] at hn1 hts ht
 have HT := aP ht
 have HTL := aP htl
 have HN := aP hn
 have hrun : Calls Tryz.prog 135 #[.string s, .int .i64 i0] (w.alloc (.cells tok0.toArray 92)) fun e w' => e = .returned (.int .i64 (n : Nat)) ∧ Kept noX (w.alloc (.cells tok0.toArray 92)) w' := by rw [hn]; exact run_any s hs i0 kom _
 have HRUN := aP hrun
 clear ht htl hn hrun
 go_enter Tryz.func80, Tryz.ntmps80
 go_wp2_with fail
 refine HRUN.out.mono ?_
 rintro e W1 ⟨rfl, hk1⟩
 have hR := (Cells.fresh w 92 tok0).kept hk1 (fun h => h)
 have hkw := ((Kept.refl noX w).alloc (.cells tok0.toArray 92)).trans hk1
 clear hk1 HRUN
 have hn0 : 0 < n := by
  rw [HN.out, HST.out, if_pos (by simp [alnB, hdg])]; omega
 have HC : Hid (∀ W, Calls Tryz.prog 94 #[.int .u8 (s[i0].toNat : Nat)] W fun e w' => e = .returned (.bool true) ∧ W = w') := aP (fun W => by rw [← hdg]; exact rdigit_any _ W)
 have hw := wordR_dig HB0.out hl hdg
 rw [← HN.out] at hw
 rw [← HN.out] at HTL
 rw [← HTL.out] at hw
 obtain ⟨nr, hnr⟩ : ∃ nr, nr = numRes t.data.toList := ⟨_, rfl⟩
 rw [← hnr] at hw
 have HNR := aP hnr
 have HW := aP hw
 clear hnr
 have HK := aP (fun W => rnumber_any t kom kom W)
 have hnl : (0 : Int) < (n : Int) := by omega
 clear hl hdg hw
 cases hok : numOk t.data.toList with
 | true =>
  have HOK := aP hok
  have HV : Hid (oneV s i0 = .tuple #[.agg #[.int .i64 2, .string t, .int .i64 nr, .int .i64 0, .int .i64 0], .int .i64 (n : Nat), .int .i64 0]) := aP (by
    have hw := HW.out
    rw [if_pos hok] at hw
    rw [oneV_ok hw, HT.out])
  clear hok
  obtain rfl := HT.out
  go_wp2_with fail
  refine (HC.out _).mono ?_
  rintro e W1' ⟨rfl, rfl⟩
  go_wp2_with fail
  refine (HK.out _).mono ?_
  rintro e W2 ⟨⟨x, rfl, hx⟩, hk2⟩
  obtain rfl := (hx HOK.out).trans HNR.out.symm
  rw [HOK.out]
  have hR2 := hR.kept hk2 (fun h => h)
  have hkw2 := hkw.trans hk2
  have r0 := hR2.cell 0; have r1 := hR2.cell 1; have r2 := hR2.cell 2; have r3 := hR2.cell 3; have r4 := hR2.cell 4
  have q0 := hR2.free 0; have q1 := hR2.free 1; have q2 := hR2.free 2; have q3 := hR2.free 3; have q4 := hR2.free 4
  simp only [tok0, aZ, aS] at r0 r1 r2 r3 r4
  clear hR hk2 hkw hx
  go_wp2
  obtain ⟨hf1, hf2⟩ := put5 hR2 hkw2 (Nat.le_refl _) (.int .i64 2) ((.string (s.extract i0 (i0 + n)))) (.int .i64 x) (.int .i64 0) (.int .i64 0)
  refine bodyPost_ret (results24_of hf1 rfl rfl rfl) rfl ?_
  exact ⟨by rw [HV.out] <;> rfl, hf2⟩
 | false =>
  have HOK := aP hok
  have HV : Hid (oneV s i0 = .tuple #[.agg tok0.toArray, .int .i64 0, .int .i64 112]) := aP (by
    have hw := HW.out
    rw [if_neg (by rw [hok]; decide)] at hw
    exact oneV_bad hw (by decide))
  clear hok
  obtain rfl := HT.out
  go_wp2_with fail
  refine (HC.out _).mono ?_
  rintro e W1' ⟨rfl, rfl⟩
  go_wp2_with fail
  refine (HK.out _).mono ?_
  rintro e W2 ⟨⟨x, rfl, hx⟩, hk2⟩
  rw [HOK.out]
  have hR2 := hR.kept hk2 (fun h => h)
  have hkw2 := hkw.trans hk2
  have r0 := hR2.cell 0; have r1 := hR2.cell 1; have r2 := hR2.cell 2; have r3 := hR2.cell 3; have r4 := hR2.cell 4
  have q0 := hR2.free 0; have q1 := hR2.free 1; have q2 := hR2.free 2; have q3 := hR2.free 3; have q4 := hR2.free 4
  simp only [tok0, aZ, aS] at r0 r1 r2 r3 r4
  clear hR hk2 hkw hx
  go_wp2
  obtain ⟨hf1, hf2⟩ := put5 hR2 hkw2 (Nat.le_refl _) (.int .i64 0) (.string ⟨#[]⟩) (.int .i64 0) (.int .i64 0) (.int .i64 0)
  refine bodyPost_ret (results24_of hf1 rfl rfl rfl) rfl ?_
  exact ⟨by rw [HV.out] <;> rfl, hf2⟩
theorem one_sign (s : ByteArray) (hs : s.size ≤ 1000000) (i0 : Nat) (hi : i0 < s.size) (w : World) (hl : letB (s[i0].toNat : Nat) = false) (hdg : digB (s[i0].toNat : Nat) = false) :
  Calls Tryz.prog 80 #[.string s, .int .i64 i0] w fun e w' => e = .returned (oneV s i0) ∧ Kept noX w w' := by
 have hb0 := drop_at (s := s) (Nat.le_refl i0) hi
 rw [Nat.sub_self] at hb0
 have hn1 : i0 + runQ alnB (s.data.toList.drop i0) ≤ s.size := by
  have h1 := runQ_le alnB (s.data.toList.drop i0)
  rw [drop_len] at h1
  omega
 have hst := runQ_step (q := alnB) hi
 have HB0 := aP hb0
 have HST := aP hst
 clear hb0 hst
 obtain ⟨t, ht⟩ : ∃ t, t = s.extract i0 (i0 + runQ alnB (s.data.toList.drop i0)) := ⟨_, rfl⟩
 have htl : t.data.toList = (s.data.toList.drop i0).take (runQ alnB (s.data.toList.drop i0)) := by rw [ht, extract_list]
 have hts : t.size = runQ alnB (s.data.toList.drop i0) := by rw [ht, ByteArray.size_extract]; omega
 obtain ⟨n, hn⟩ : ∃ n, n = runQ alnB (s.data.toList.drop i0) := ⟨_, rfl⟩
 rw [← hn] at hn1 hts ht
 have HT := aP ht
 have HTL := aP htl
 have HN := aP hn
 have hrun : Calls Tryz.prog 135 #[.string s, .int .i64 i0] (w.alloc (.cells tok0.toArray 92)) fun e w' => e = .returned (.int .i64 (n : Nat)) ∧ Kept noX (w.alloc (.cells tok0.toArray 92)) w' := by rw [hn]; exact run_any s hs i0 kom _
 have HRUN := aP hrun
 clear ht htl hn hrun
 go_enter Tryz.func80, Tryz.ntmps80
 go_wp2_with fail
 refine HRUN.out.mono ?_
 rintro e W1 ⟨rfl, hk1⟩
 have hR := (Cells.fresh w 92 tok0).kept hk1 (fun h => h)
 have hkw := ((Kept.refl noX w).alloc (.cells tok0.toArray 92)).trans hk1
 clear hk1 HRUN
 have hn0 : n = 0 := by
  rw [HN.out, HST.out, if_neg (by simp [alnB, hl, hdg])]
 have hw := wordR_sig HB0.out hl hdg
 have HW := aP hw
 have hnl : ¬ (0 : Int) < (n : Int) := by omega
 have hn16 : n ≤ 16 := by omega
 have HN0 := aP hn0
 have hdl : (s.data.toList.drop i0).length = s.size - i0 := drop_len
 have HDL := aP hdl
 clear hl hdg hw hn0 hts hdl
 go_wp2_with fail
 refine (rsigns_any _).mono ?_
 rintro e W2 ⟨rfl, hrow, hk2⟩
 have hR2 := hR.kept hk2 (fun h => h)
 have hkw2 := hkw.trans hk2
 have hg2 : W1.heap.size ≠ w.heap.size := by have := hR.lt; omega
 clear hR hk2 hkw
 go_wp2_with fail
 go_loopw [12] (fun i wr => ∃ k q : Nat, i = .int .i64 k ∧ k ≤ 20 ∧ (∀ j, j < k → ¬ sgFits (s.data.toList.drop i0) j) ∧ wr = W2.drewN q) (fun i _ => 20 - (intOf i).toNat)
 case atStart => exact ⟨0, 0, rfl, by omega, fun j h => by omega, rfl⟩
 case round =>
  obtain ⟨k, q, rfl, hk, hno, hwr⟩ := hrel
  have hR2 : Cells wr w.heap.size 92 tok0 := by rw [hwr]; exact hR2
  have hkw2 : Kept noX w wr := by rw [hwr]; exact hkw2.drewN q
  have hrow : Cells wr W1.heap.size 9 (sgR.map Value.string) := by rw [hwr]; exact hrow
  have HWR := aP hwr
  have HNO := aP hno
  clear hno hwr
  by_cases hlt : k < 20
  ·have hc := row_at hrow (k := k) (by simpa [sgR] using hlt)
   have hkb : k < sgR.length := by simpa [sgR] using hlt
   obtain ⟨b, hb⟩ : ∃ b, b = sgR[k] := ⟨_, rfl⟩
   have hbl : sgRL.getD k [] = b.data.toList := by
    rw [hb]
    unfold sgRL
    rw [List.getD_eq_getElem?_getD, List.getElem?_map, List.getElem?_eq_getElem hkb]
    rfl
   have hbs : b.data.toList.length = b.size := by simp
   have hb2 : b.size ≤ 2 := by
    obtain ⟨h2, h1, _⟩ := sg_len k hlt
    rw [hbl, hbs] at h2 h1
    by_cases h : k < 5
    ·have := h2 h; omega
    ·have := h1 kom; omega
   rw [← hb] at hc
   have hfit : sgFits (s.data.toList.drop i0) k ↔ i0 + b.size ≤ s.size ∧ (s.extract i0 (i0 + b.size)).data.toList = b.data.toList := by
    unfold sgFits
    rw [hbl, hbs, HDL.out, extract_list]
    constructor
    ·rintro ⟨h1, h2⟩; exact ⟨by omega, h2⟩
    ·rintro ⟨h1, h2⟩; exact ⟨by omega, h2⟩
   have HF := aP hfit
   have HBL := aP hbl
   have HBS := aP hbs
   clear hb hrow hfit hbl hbs
   by_cases hle : i0 + b.size ≤ s.size
   ·have dle : decide ((i0 : Int) + (b.size : Int) ≤ (s.size : Int)) = true := by simp; omega
    by_cases he : (s.extract i0 (i0 + b.size)).data.toList = b.data.toList
    ·have te : ((s.extract i0 (i0 + b.size)).toList == b.toList) = true := by rw [toList_beq]; simpa using he
     have HV : Hid (oneV s i0 = .tuple #[.agg #[.int .i64 4, .string b, .int .i64 0, .int .i64 0, .int .i64 0], .int .i64 (b.size : Nat), .int .i64 0]) := aP (by
       have h1 := sg_hit hlt (HF.out.2 ⟨hle, he⟩) HNO.out
       rw [HBL.out, HBS.out] at h1
       have hpos : b.size ≠ 0 := by
         obtain ⟨h2, h3, _⟩ := sg_len k hlt
         rw [HBL.out, HBS.out] at h2 h3
         by_cases h : k < 5
         · have := h2 h; omega
         · have := h3 kom; omega
       have hw := HW.out
       rw [h1, if_neg hpos] at hw
       rw [oneV_ok hw]
       have : s.extract i0 (i0 + b.size) = b := by
         apply ByteArray.ext
         exact Array.toList_inj.1 he
       rw [this])
     clear he
     go_wp2_with fail
     go_quiet (fail)
     have hR3 : Cells (wr.drewN nq) w.heap.size 92 tok0 := hR2
     have hkw3 : Kept noX w (wr.drewN nq) := hkw2.drewN _
     have hc3 : (wr.drewN nq).cell? ⟨W1.heap.size, k, none⟩ = some (.string b) := hc
     clear hR2 hkw2 hc HWR
     generalize wr.drewN nq = W3 at hR3 hkw3 hc3 ⊢
     have r0 := hR3.cell 0; have r1 := hR3.cell 1; have r2 := hR3.cell 2; have r3 := hR3.cell 3; have r4 := hR3.cell 4
     have q0 := hR3.free 0; have q1 := hR3.free 1; have q2 := hR3.free 2; have q3 := hR3.free 3; have q4 := hR3.free 4
     simp only [tok0, aZ, aS] at r0 r1 r2 r3 r4
     go_wp2
     obtain ⟨hf1, hf2⟩ := put5 hR3 hkw3 (Nat.le_refl _) (.int .i64 4) (.string b) (.int .i64 0) (.int .i64 0) (.int .i64 0)
     refine bodyPost_ret (results24_of hf1 rfl rfl rfl) rfl ?_
     exact ⟨by rw [HV.out] <;> rfl, hf2⟩
    ·have te : ((s.extract i0 (i0 + b.size)).toList == b.toList) = false := by rw [toList_beq]; simpa using he
     have HE := aP he
     clear he
     go_wp2_with fail
     go_quiet (fail)
     go_wp2
     go_roundw
     case rel =>
      refine ⟨k + 1, _, by go_num, by omega, ?_, by rw [HWR.out, World.drewN_drewN]⟩
      intro j hj hf
      by_cases hjk : j = k
      ·subst hjk; exact HE.out (HF.out.1 hf).2
      ·exact HNO.out j kom hf
     case measure => simp [intOf]; omega
   ·have dle : decide ((i0 : Int) + (b.size : Int) ≤ (s.size : Int)) = false := by simp; omega
    go_wp2_with fail
    go_quiet (fail)
    go_wp2
    go_roundw
    case rel =>
     refine ⟨k + 1, _, by go_num, by omega, ?_, by rw [HWR.out, World.drewN_drewN]⟩
     intro j hj hf
     by_cases hjk : j = k
     ·subst hjk; exact hle (HF.out.1 hf).1
     ·exact HNO.out j kom hf
    case measure => simp [intOf]; omega
  ·obtain rfl : k = 20 := by omega
   have HV : Hid (oneV s i0 = .tuple #[.agg tok0.toArray, .int .i64 0, .int .i64 110]) := aP (by
     have hw := HW.out
     rw [sg_miss HNO.out, if_pos rfl] at hw
     exact oneV_bad hw (by decide))
   clear hrow
   have r0 := hR2.cell 0; have r1 := hR2.cell 1; have r2 := hR2.cell 2; have r3 := hR2.cell 3; have r4 := hR2.cell 4
   have q0 := hR2.free 0; have q1 := hR2.free 1; have q2 := hR2.free 2; have q3 := hR2.free 3; have q4 := hR2.free 4
   simp only [tok0, aZ, aS] at r0 r1 r2 r3 r4
   go_wp2
   obtain ⟨hf1, hf2⟩ := put5 hR2 hkw2 (Nat.le_refl _) (.int .i64 0) (.string ⟨#[]⟩) (.int .i64 0) (.int .i64 0) (.int .i64 0)
   refine bodyPost_ret (results24_of hf1 rfl rfl rfl) rfl ?_
   exact ⟨by rw [HV.out] <;> rfl, hf2⟩
theorem one_any (s : ByteArray) (hs : s.size ≤ 1000000) (i0 : Nat) (hi : i0 < s.size) (w : World) :
  Calls Tryz.prog 80 #[.string s, .int .i64 i0] w fun e w' => e = .returned (oneV s i0) ∧ Kept noX w w' := by
 cases hl : letB (s[i0].toNat : Nat) with
 | true => exact one_letter s hs i0 hi w hl
 | false =>
  cases hdg : digB (s[i0].toNat : Nat) with
  | true => exact one_digit s hs i0 hi w hl hdg
  | false => exact one_sign s hs i0 hi w hl hdg
def skT (l : List UInt8) : Nat := runS (fun r b => remB r (b.toNat : Nat)) (fun r b => remB r (b.toNat : Nat) || blkB (b.toNat : Nat)) true l
theorem skN_cons (b : UInt8) (l : List UInt8) : skN (b :: l) = if (remB false (b.toNat : Nat) || blkB (b.toNat : Nat)) = true then (if remB false (b.toNat : Nat) = true then skT l else skN l) + 1 else 0 := by
 unfold skN skT
 conv => lhs; unfold runS
 cases h : remB false (b.toNat : Nat) <;> simp
theorem skT_cons (b : UInt8) (l : List UInt8) : skT (b :: l) = if (remB true (b.toNat : Nat) || blkB (b.toNat : Nat)) = true then (if remB true (b.toNat : Nat) = true then skT l else skN l) + 1 else 0 := by
 unfold skN skT
 conv => lhs; unfold runS
 cases h : remB true (b.toNat : Nat) <;> simp
theorem sk_blank {b : UInt8} {l : List UInt8} (h : blkB (b.toNat : Nat) = true) (h35 : (b.toNat : Int) ≠ 35) : skN (b :: l) = skN l + 1 := by
 rw [skN_cons]
 simp [remB, h, h35]
theorem sk_hash {b : UInt8} {l : List UInt8} (h35 : (b.toNat : Int) = 35) : skN (b :: l) = skT (b :: l) := by
 rw [skN_cons, skT_cons]
 simp [remB, h35]
theorem skT_other {b : UInt8} {l : List UInt8} (h10 : (b.toNat : Int) ≠ 10) : skT (b :: l) = skT l + 1 := by
 rw [skT_cons]
 simp [remB, h10]
theorem skT_nl {b : UInt8} {l : List UInt8} (h10 : (b.toNat : Int) = 10) : skT (b :: l) = skN (b :: l) := by
 rw [skN_cons, skT_cons]
 simp [remB, h10, blkB]
theorem sk_word {b : UInt8} {l : List UInt8} (h35 : (b.toNat : Int) ≠ 35) (hb : blkB (b.toNat : Nat) = false) : skN (b :: l) = 0 := by
 rw [skN_cons]
 simp [remB, h35, hb]
theorem drop_cons {s : ByteArray} {k : Nat} (hk : k < s.size) : s.data.toList.drop k = s[k] :: s.data.toList.drop (k + 1) := by
 rw [List.drop_eq_getElem_cons (by simpa using hk)]
 rfl
theorem plOf_run {s : List UInt8} {k : Nat} : ∀ m, (∀ j, j < m → s[k + j]? ≠ some 10) → plOf s (k + m) = ((plOf s k).1, (plOf s k).2 + m) := by
 intro m
 induction m with
 | zero => intro _; rfl
 | succ m ih =>
  intro h
  have h1 := ih (fun j hj => h j kom)
  rw [show k + (m + 1) = (k + m) + 1 from by omega]
  conv => lhs; unfold plOf
  rw [if_neg (h m kom), h1]
  rfl
theorem runQ_in {q : Int → Bool} {l : List UInt8} {j : Nat} {b : UInt8} (hj : j < runQ q l) (hb : l[j]? = some b) : q (b.toNat : Nat) = true :=
 runS_yes (σ := Unit) (fun _ _ => ()) (fun _ b => q (b.toNat : Nat)) l () j b hj hb
theorem sgN_in {l : List UInt8} {j : Nat} {b : UInt8} (hj : j < sgN l) (hb : l[j]? = some b) : b ≠ 10 := by
 have hs : ∀ t ∈ sgL, ∀ x ∈ t, x ≠ 10 := by decide
 unfold sgN at hj
 split at hj
 ·rename_i h
  refine hs _ h.2 b (List.mem_of_getElem? (i := j) ?_)
  rw [List.getElem?_take, if_pos hj]; exact hb
 ·split at hj
  ·rename_i h
   refine hs _ h.2 b (List.mem_of_getElem? (i := j) ?_)
   rw [List.getElem?_take, if_pos hj]; exact hb
  ·omega
theorem word_no10 {l : List UInt8} {j : Nat} (hj : j < (wordR l).2.1) : l[j]? ≠ some 10 := by
 intro hb
 cases l with
 | nil => simp at hb
 | cons a l =>
  have haln : ∀ h : j < runQ alnB (a :: l), False := fun h => by
   have := runQ_in h hb
   revert this
   decide
  unfold wordR at hj
  dsimp only at hj
  split at hj
  ·exact haln hj
  ·split at hj
   ·exact haln hj
   ·exact sgN_in hj hb rfl
theorem pl_word (s : ByteArray) (k : Nat) : plOf s.data.toList (k + (wordR (s.data.toList.drop k)).2.1) = ((plOf s.data.toList k).1, (plOf s.data.toList k).2 + (wordR (s.data.toList.drop k)).2.1) := by
 refine plOf_run _ (fun j hj h => ?_)
 refine word_no10 hj ?_
 rw [List.getElem?_drop]
 exact h
theorem pl_step {s : ByteArray} {k : Nat} (hk : k < s.size) (h10 : (s[k].toNat : Int) ≠ 10) : plOf s.data.toList (k + 1) = ((plOf s.data.toList k).1, (plOf s.data.toList k).2 + 1) := by
 conv => lhs; unfold plOf
 rw [byte_at hk, if_neg]
 intro h
 apply h10
 rw [Option.some.inj h]
 rfl
theorem pl_nl {s : ByteArray} {k : Nat} (hk : k < s.size) (h10 : (s[k].toNat : Int) = 10) : plOf s.data.toList (k + 1) = ((plOf s.data.toList k).1 + 1, 1) := by
 conv => lhs; unfold plOf
 rw [byte_at hk, if_pos]
 congr 1
 apply UInt8.toNat_inj.1
 show _ = 10
 omega
theorem oneV_bad2 {s : ByteArray} {i n : Nat} {a c e : Int} (h : wordR (s.data.toList.drop i) = (a, n, c, e)) (he : e ≠ 0) :
  oneV s i = .tuple #[.agg #[.int .i64 0, .string ⟨#[]⟩, .int .i64 0, .int .i64 0, .int .i64 0], .int .i64 0, .int .i64 e] := oneV_bad h he
structure RI (f : List UInt8 → Nat) (w : World) (s : ByteArray) (k n : Nat) (v : Value) (W : World) : Prop where
 res : Cells W w.heap.size 25 zero2
 pl : Cells W (w.heap.size + 1) 25 [.int .i64 ((plOf s.data.toList k).1 : Nat), .int .i64 ((plOf s.data.toList k).2 : Nat)]
 own : W.ownsRow 0 92 5 v n (toks s ((List.range n).map (posW s.data.toList)))
 new : ∀ g, v.ownBlock = some g → w.heap.size ≤ g
 good : goodW s.data.toList n
 le : k ≤ s.size
 at_ : k + f (s.data.toList.drop k) = posW s.data.toList n
 kept : Kept noX w W
theorem RI.put {f : List UInt8 → Nat} {w : World} {s : ByteArray} {k n : Nat} {v : Value} {W : World} (h : RI f w s k n v W) (j : Nat) (u : Value) :
  Cells (W.setCell ⟨w.heap.size + 1, j, none⟩ u) w.heap.size 25 zero2 ∧ (W.setCell ⟨w.heap.size + 1, j, none⟩ u).ownsRow 0 92 5 v n (toks s ((List.range n).map (posW s.data.toList))) ∧ Kept noX w (W.setCell ⟨w.heap.size + 1, j, none⟩ u) := by
 have hk : Kept (· = w.heap.size + 1) W (W.setCell ⟨w.heap.size + 1, j, none⟩ u) := (Kept.refl _ _).setCell (fun _ => by rfl) _
 refine ⟨h.res.far (by dsimp only; omega) u, own_kept h.own hk (fun g hg e => own_ne h.own h.pl (by decide) (e ▸ hg)), h.kept.setCell (fun hh => ?_) u⟩
 dsimp only at hh
 omega
theorem RI.same {f : List UInt8 → Nat} {w : World} {s : ByteArray} {k n : Nat} {v : Value} {W W' : World} (h : RI f w s k n v W) (hk : Kept noX W W') : RI f w s k n v W' :=
 ⟨h.res.kept hk (fun h => h), h.pl.kept hk (fun h => h), own_kept h.own hk (fun _ _ h => h), h.new, h.good, h.le, h.at_, h.kept.trans hk⟩
theorem own_base {w : World} {e : TypeId} {size b : Nat} {v : Value} {n : Nat} {xs : List Value} (h : w.ownsRow 0 e size v n xs) (hb : ∀ g, v.ownBlock = some g → b ≤ g) : w.ownsRow b e size v n xs := by
 refine ⟨h.1, ?_⟩
 rcases h.2 with hn | ⟨g, cap, cur, rfl, _, hgg, rest⟩
 ·exact .inl hn
 ·exact .inr ⟨g, cap, cur, rfl, hb g rfl, hgg, rest⟩
theorem own_zero {w : World} {e : TypeId} {size b : Nat} {v : Value} {n : Nat} {xs : List Value} (h : w.ownsRow b e size v n xs) : w.ownsRow 0 e size v n xs ∧ ∀ g, v.ownBlock = some g → b ≤ g := by
 refine ⟨⟨h.1, ?_⟩, fun g hg => (h.lt g hg).1⟩
 rcases h.2 with hn | ⟨g, cap, cur, rfl, _, hgg, rest⟩
 ·exact .inl hn
 ·exact .inr ⟨g, cap, cur, rfl, Nat.zero_le _, hgg, rest⟩
theorem cells_new2 (W : World) (o : Obj) (e : TypeId) (cs : List Value) : ∀ j u, cs[j]? = some u → ((W.alloc o).alloc (.cells cs.toArray e)).cell? ((⟨W.heap.size + 1, 0, none⟩ : Addr).add j) = some u := by
 have := cells_new (W.alloc o) e cs
 rwa [World.size_alloc] at this
theorem RI.grow {f : List UInt8 → Nat} {w : World} {s : ByteArray} {k n : Nat} {v : Value} {W W' : World} (h : RI f w s k n v W) (o o' : Obj) (hg : ((W.alloc o).alloc o').grownBy W' v.ownBlock) :
  Cells W' (w.heap.size + 1) 25 [.int .i64 ((plOf s.data.toList k).1 : Nat), .int .i64 ((plOf s.data.toList k).2 : Nat)] := by
 have hk : Kept (fun g => v.ownBlock = some g) W W' := (((Kept.refl _ _).alloc _).alloc _).grown hg (fun k e _ => e)
 exact h.pl.kept hk (own_ne h.own h.pl (by decide))
theorem RI.word {w : World} {s : ByteArray} {k n m : Nat} {v v3 : Value} {W W3 : World} (h : RI skN w s k n v W) (o o' : Obj) (hg : ((W.alloc o).alloc o').grownBy W3 v.ownBlock)
  (hown : W3.ownsRow w.heap.size 92 5 v3 (n + 1) (toks s ((List.range (n + 1)).map (posW s.data.toList)))) (hp : plOf s.data.toList (k + m) = ((plOf s.data.toList k).1, (plOf s.data.toList k).2 + m)) (hle : k + m ≤ s.size)
  (hgood : goodW s.data.toList (n + 1)) (ha : k + m + skN (s.data.toList.drop (k + m)) = posW s.data.toList (n + 1)) :
  RI skN w s (k + m) (n + 1) v3 (W3.setCell ⟨w.heap.size + 1, 1, none⟩ (.int .i64 (((plOf s.data.toList k).2 : Nat) + (m : Nat)))) := by
 have hk : Kept (fun g => v.ownBlock = some g) W W3 := (((Kept.refl _ _).alloc _).alloc _).grown hg (fun k e _ => e)
 have hpl := h.grow o o' hg
 have hk2 : Kept (· = w.heap.size + 1) W3 (W3.setCell ⟨w.heap.size + 1, 1, none⟩ (.int .i64 (((plOf s.data.toList k).2 : Nat) + (m : Nat)))) := (Kept.refl _ _).setCell (fun _ => by rfl) _
 obtain ⟨ho, hb⟩ := own_zero hown
 refine ⟨(h.res.kept hk (own_ne h.own h.res (by decide))).kept hk2 kom, ?_, own_kept ho hk2 (fun g hg e => own_ne ho hpl (by decide) (e ▸ hg)), hb, hgood, hle, ha, (h.kept.join hk (fun i hi hlt => ?_)).join hk2 (fun i hi hlt => by omega)⟩
 ·rw [hp]
  exact hpl.put 1 _
 ·have := h.new i hi
  omega
theorem RI.col {f g : List UInt8 → Nat} {w : World} {s : ByteArray} {k n k' : Nat} {v : Value} {W : World} (h : RI f w s k n v W) (hp : plOf s.data.toList k' = ((plOf s.data.toList k).1, (plOf s.data.toList k).2 + (k' - k)))
  (hk : k ≤ k') (hle : k' ≤ s.size) (ha : k' + g (s.data.toList.drop k') = posW s.data.toList n) (c : Int) (hc : c = ((plOf s.data.toList k).2 : Nat) + ((k' : Int) - k)) : RI g w s k' n v (W.setCell ⟨w.heap.size + 1, 1, none⟩ (.int .i64 c)) := by
 obtain ⟨h1, h2, h3⟩ := h.put 1 (.int .i64 c)
 refine ⟨h1, ?_, h2, h.new, h.good, hle, ha, h3⟩
 have := h.pl.put 1 (.int .i64 c)
 rw [hp]
 have e : c = (((plOf s.data.toList k).2 + (k' - k) : Nat) : Int) := by omega
 rw [← e]
 exact this
theorem RI.line {f : List UInt8 → Nat} {w : World} {s : ByteArray} {k n : Nat} {v : Value} {W : World} (h : RI f w s k n v W) (hp : plOf s.data.toList (k + 1) = ((plOf s.data.toList k).1 + 1, 1)) (hle : k + 1 ≤ s.size)
  (ha : k + 1 + skN (s.data.toList.drop (k + 1)) = posW s.data.toList n) : RI skN w s (k + 1) n v ((W.setCell ⟨w.heap.size + 1, 0, none⟩ (.int .i64 (((plOf s.data.toList k).1 : Nat) + 1))).setCell ⟨w.heap.size + 1, 1, none⟩ (.int .i64 1)) := by
 have hk : Kept (· = w.heap.size + 1) W ((W.setCell ⟨w.heap.size + 1, 0, none⟩ (.int .i64 (((plOf s.data.toList k).1 : Nat) + 1))).setCell ⟨w.heap.size + 1, 1, none⟩ (.int .i64 1)) := ((Kept.refl _ _).setCell (fun _ => by rfl) _).setCell (fun _ => by rfl) _
 refine ⟨h.res.kept hk kom, ?_, own_kept h.own hk (fun g hg e => own_ne h.own h.pl (by decide) (e ▸ hg)), h.new, h.good, hle, ha, h.kept.join hk (fun i hi hlt => by omega)⟩
 have := (h.pl.put 0 (.int .i64 (((plOf s.data.toList k).1 : Nat) + 1))).put 1 (.int .i64 1)
 rw [hp]
 exact this
theorem results12_of {W : World} {R : Nat} {tmps : Array Value} {c0 c1 v e : Value} (h : Cells W R 25 [c0, c1]) (h2 : tmps.getD 2 undef = v) (h3 : tmps.getD 3 undef = .pointer (some ⟨R, 0, none⟩)) (h4 : tmps.getD 4 undef = e) :
  (results Tryz.f40 tmps).run Tryz.prog W = .ok (.tuple #[v, .agg #[c0, c1], e]) W := by
 have d0 := h.cell 0; have d1 := h.cell 1
 simp only [aZ, aS] at d0 d1
 rw [Array.getD_eq_getD_getElem?] at h2 h3 h4
 simp [results, Tryz.results40, go_sem, h2, h3, h4, d0, d1]
theorem rlex_any (s : ByteArray) (hs : s.size ≤ 65536) (w : World) : Calls Tryz.prog 40 #[.string s] w (LexOut s w) := by
 have hd : decide ((65536 : Int) < (s.size : Int)) = false := by simp; omega
 have HL := aP (show s.data.toList.length = s.size by simp)
 go_enter Tryz.func40, Tryz.ntmps40
 go_wp2
 go_loopw [5, 7] (fun v i wr => ∃ (k n : Nat) (z : Value), z = v ∧ i = .int .i64 k ∧ RI skN w s k n z wr) (fun _ i _ => s.size - (intOf i).toNat)
 case atStart =>
  have h2 := Cells.fresh (w.alloc (.cells #[.int .i64 0, .int .i64 0] 25)) 25 [.int .i64 1, .int .i64 1]
  rw [World.size_alloc] at h2
  exact ⟨0, 0, _, rfl, rfl, (Cells.fresh w 25 zero2).alloc _, h2, World.ownsRow_nil _ _ _ _, fun g hg => by simp [Value.ownBlock] at hg, fun k hk => by omega, Nat.zero_le _, by rw [Nat.zero_add] <;> rfl, ((Kept.refl _ _).alloc _).alloc _⟩
 case round =>
  obtain ⟨k, n, v, rfl, rfl, h⟩ := hrel
  have p0 := h.pl.cell 0; have p1 := h.pl.cell 1; have f0 := h.pl.free 0; have f1 := h.pl.free 1
  simp only [aZ, aS] at p0 p1
  have hpl := plOf_le s.data.toList k
  by_cases hlt : k < s.size
  ·have hdc := drop_cons hlt
   have HDC := aP hdc
   have hat := h.at_
   rw [hdc] at hat
   have HAT := aP hat
   clear hdc hat
   by_cases h10 : (s[k].toNat : Int) = 10
   ·have t10 : ((s[k].toNat : Int) == 10) = true := by simpa using h10
    have hnx := h.line (pl_nl hlt h10) hlt (by
      have := HAT.out
      rw [sk_blank (by rw [h10] <;> rfl) (by rw [h10]; decide)] at this
      omega)
    have HNX := aP hnx
    clear h10 hnx
    go_wp2
    go_roundw
    case rel => exact ⟨k + 1, n, _, rfl, by go_num, HNX.out⟩
    case measure => simp [intOf]; omega
   ·have t10 : ((s[k].toNat : Int) == 10) = false := by simpa using h10
    by_cases hb : blkB (s[k].toNat : Nat) = true
    ·have hnx : RI skN w s (k + 1) n v (wr.setCell ⟨w.heap.size + 1, 1, none⟩ (.int .i64 (((plOf s.data.toList k).2 : Nat) + 1))) := h.col (k' := k + 1) (by rw [pl_step hlt h10]; congr 1; omega) kom hlt (by
       have := HAT.out
       rw [sk_blank hb (by intro h; rw [h] at hb; revert hb; decide)] at this
       omega) _ kom
     have HNX := aP hnx
     have h3 : (s[k].toNat : Int) = 32 ∨ (s[k].toNat : Int) = 9 ∨ (s[k].toNat : Int) = 13 := by
      simp only [blkB, Bool.or_eq_true, beq_iff_eq] at hb
      omega
     clear h10 hnx hb
     rcases h3 with h3 | h3 | h3
     ·have t32 : ((s[k].toNat : Int) == 32) = true := by simpa using h3
      clear h3
      go_wp2
      go_roundw
      case rel => exact ⟨k + 1, n, _, rfl, by go_num, HNX.out⟩
      case measure => simp [intOf]; omega
     ·have t32 : ((s[k].toNat : Int) == 32) = false := by rw [h3] <;> rfl
      have t9 : ((s[k].toNat : Int) == 9) = true := by simpa using h3
      clear h3
      go_wp2
      go_roundw
      case rel => exact ⟨k + 1, n, _, rfl, by go_num, HNX.out⟩
      case measure => simp [intOf]; omega
     ·have t32 : ((s[k].toNat : Int) == 32) = false := by rw [h3] <;> rfl
      have t9 : ((s[k].toNat : Int) == 9) = false := by rw [h3] <;> rfl
      have t13 : ((s[k].toNat : Int) == 13) = true := by simpa using h3
      clear h3
      go_wp2
      go_roundw
      case rel => exact ⟨k + 1, n, _, rfl, by go_num, HNX.out⟩
      case measure => simp [intOf]; omega
    ·have t32 : ((s[k].toNat : Int) == 32) = false := by
      rw [beq_eq_false_iff_ne]; intro h3; apply hb; rw [h3] <;> rfl
     have t9 : ((s[k].toNat : Int) == 9) = false := by
      rw [beq_eq_false_iff_ne]; intro h3; apply hb; rw [h3] <;> rfl
     have t13 : ((s[k].toNat : Int) == 13) = false := by
      rw [beq_eq_false_iff_ne]; intro h3; apply hb; rw [h3] <;> rfl
     by_cases h35 : (s[k].toNat : Int) = 35
     ·have t35 : ((s[k].toNat : Int) == 35) = true := by simpa using h35
      have hT : k + skT (s.data.toList.drop k) = posW s.data.toList n := by
       have := HAT.out
       rw [sk_hash h35, ← HDC.out] at this
       exact this
      have hR : RI skT w s k n v wr := ⟨h.res, h.pl, h.own, h.new, h.good, h.le, hT, h.kept⟩
      have H35 := aP h35
      clear h35 hb h10 hT p0 p1 f0 f1 HAT HDC h hpl
      obtain ⟨wo, hwo⟩ : ∃ wo, wo = wr := ⟨_, rfl⟩
      rw [← hwo] at hR ⊢
      clear hwo
      go_wp2
      go_loopw [7] (fun i wr2 => ∃ m : Nat, i = .int .i64 m ∧ k ≤ m ∧ RI skT w s m n v wr2) (fun i _ => s.size - (intOf i).toNat)
      case atStart => exact ⟨k, rfl, Nat.le_refl _, hR⟩
      case round =>
       obtain ⟨m, rfl, hkm, h⟩ := hrel
       clear hR
       have p0 := h.pl.cell 0; have p1 := h.pl.cell 1; have f0 := h.pl.free 0; have f1 := h.pl.free 1
       simp only [aZ, aS] at p0 p1
       have hpl := plOf_le s.data.toList m
       by_cases hm : m < s.size
       ·have hdc := drop_cons hm
        have hat := h.at_
        rw [hdc] at hat
        by_cases h10 : (s[m].toNat : Int) = 10
        ·have u10 : ((s[m].toNat : Int) != 10) = false := by rw [h10] <;> rfl
         have hR2 : RI skN w s m n v wr := ⟨h.res, h.pl, h.own, h.new, h.good, h.le, by rw [hdc, ← skT_nl h10]; exact hat, h.kept⟩
         have hmk : k < m := by
          by_cases hmk : m = k
          ·subst hmk
           have := H35.out
           omega
          ·omega
         clear h10 hdc hat
         go_wp2
         go_roundw
         case rel => exact ⟨m, n, _, rfl, rfl, hR2⟩
         case measure => simp [intOf]; omega
        ·have u10 : ((s[m].toNat : Int) != 10) = true := by rw [bne_iff_ne]; exact h10
         have hnx : RI skT w s (m + 1) n v (wr.setCell ⟨w.heap.size + 1, 1, none⟩ (.int .i64 (((plOf s.data.toList m).2 : Nat) + 1))) := h.col (k' := m + 1) (by rw [pl_step hm h10]; congr 1; omega) kom hm (by
           rw [skT_other h10] at hat
           omega) _ kom
         have HNX := aP hnx
         clear h10 hdc hat hnx
         go_wp2
         go_roundw
         case rel => exact ⟨m + 1, by go_num, by omega, HNX.out⟩
         case measure => simp [intOf]; omega
       ·have hmm : m = s.size := by have := h.le; omega
        have hR2 : RI skN w s m n v wr := ⟨h.res, h.pl, h.own, h.new, h.good, h.le, by
          have := h.at_
          rw [List.drop_eq_nil_of_le (by rw [HL.out]; omega)] at this ⊢
          exact this, h.kept⟩
        have hmk : k < m := by omega
        clear hmm
        go_wp2
        go_roundw
        case rel => exact ⟨m, n, _, rfl, rfl, hR2⟩
        case measure => simp [intOf]; omega
     ·have t35 : ((s[k].toNat : Int) == 35) = false := by simpa using h35
      have hpos : k = posW s.data.toList n := by
       have := HAT.out
       rw [sk_word h35 (by simpa using hb)] at this
       omega
      have HPOS := aP hpos
      clear h35 hb h10 hpos
      have hrle := wordR_le (s.data.toList.drop k)
      rw [List.length_drop, HL.out] at hrle
      have hplw := pl_word s k
      have hdef : posW s.data.toList (n + 1) = nextW s.data.toList k := by rw [HPOS.out] <;> rfl
      unfold nextW at hdef
      have herr : errW s.data.toList k = (wordR (s.data.toList.drop k)).2.2.2 := rfl
      have htk : toks s ((List.range (n + 1)).map (posW s.data.toList)) = toks s ((List.range n).map (posW s.data.toList)) ++ tokV s k (wordR (s.data.toList.drop k)) := by
       rw [List.range_succ, List.map_append, List.map_cons, List.map_nil, toks_snoc, ← HPOS.out]
      have hone := one_any s kom k hlt wr
      obtain ⟨⟨a, m, c, er⟩, hr⟩ : ∃ r, r = wordR (s.data.toList.drop k) := ⟨_, rfl⟩
      rw [← hr] at hrle hplw hdef herr htk
      dsimp only at hrle hplw hdef herr
      by_cases he : er = 0
      ·subst he
       rw [oneV_ok hr.symm] at hone
       have HONE := aP hone
       have HPLW := aP hplw
       have HDEF := aP hdef
       have HERR := aP herr
       have HTK := aP htk
       have hm0 : 0 < m := by
        have := wordR_pos (l := s.data.toList.drop k) (by rw [← hr])
        rw [← hr] at this
        exact this
       clear hone hplw hdef herr htk hr
       go_wp2_with fail
       refine HONE.out.mono ?_
       rintro e W2 ⟨rfl, hk2⟩
       have h2 := h.same hk2
       clear p0 p1 f0 f1 hk2 h HONE
       have ha0 : ∀ o, (W2.alloc o).cell? ⟨w.heap.size + 1, 0, none⟩ = some (.int .i64 ((plOf s.data.toList k).1 : Nat)) := fun o => by
        have := (h2.pl.alloc o).cell 0
        simpa only [aZ] using this
       have ha1 : ∀ o, (W2.alloc o).cell? ⟨w.heap.size + 1, 1, none⟩ = some (.int .i64 ((plOf s.data.toList k).2 : Nat)) := fun o => by
        have := (h2.pl.alloc o).cell 1
        simpa only [aZ, aS] using this
       obtain ⟨tx, htx⟩ : ∃ tx, tx = s.extract k (k + m) := ⟨_, rfl⟩
       rw [← htx]
       have HTX := aP htx
       clear htx
       have HOA := aP (own_base ((h2.own.alloc (.cells [.int .i64 a, .string tx, .int .i64 c, .int .i64 ((plOf s.data.toList k).1 : Nat), .int .i64 ((plOf s.data.toList k).2 : Nat)].toArray 92)).alloc (.cells [.int .i64 a, .string tx, .int .i64 c, .int .i64 ((plOf s.data.toList k).1 : Nat), .int .i64 ((plOf s.data.toList k).2 : Nat)].toArray 92)) h2.new)
       have HNEW := aP (cells_new2 W2 (.cells [.int .i64 a, .string tx, .int .i64 c, .int .i64 ((plOf s.data.toList k).1 : Nat), .int .i64 ((plOf s.data.toList k).2 : Nat)].toArray 92) 92 [.int .i64 a, .string tx, .int .i64 c, .int .i64 ((plOf s.data.toList k).1 : Nat), .int .i64 ((plOf s.data.toList k).2 : Nat)])
       have HONE := aP (tok_one a c ((plOf s.data.toList k).1 : Nat) ((plOf s.data.toList k).2 : Nat) tx)
       have hn64 : n ≤ 65536 := by
        have h1 := posW_ge h2.good
        have h3 := posW_le s.data.toList n
        rw [HL.out] at h3
        omega
       have hsw : w.heap.size ≤ ((W2.alloc (.cells [.int .i64 a, .string tx, .int .i64 c, .int .i64 ((plOf s.data.toList k).1 : Nat), .int .i64 ((plOf s.data.toList k).2 : Nat)].toArray 92)).alloc (.cells [.int .i64 a, .string tx, .int .i64 c, .int .i64 ((plOf s.data.toList k).1 : Nat), .int .i64 ((plOf s.data.toList k).2 : Nat)].toArray 92)).heap.size := by
        have := h2.kept.size; rw [World.size_alloc, World.size_alloc]; omega
       obtain ⟨i0, hi0, hz0, hz1, hz2⟩ := info_parts info40
       go_wp2_with (at_builtin; refine wpList_append_own _ rfl _ _ 69 rfl w.heap.size 92 i0 (.agg tok0.toArray) 5 48 Tryz.underlying69 hi0 hz0 hz1 hz2 rfl (by decide) _ _ _ rfl HOA.out ⟨W2.heap.size + 1, 0, none⟩ 1 1 [.int .i64 a, .string tx, .int .i64 c, .int .i64 ((plOf s.data.toList k).1 : Nat), .int .i64 ((plOf s.data.toList k).2 : Nat)] rfl rfl HNEW.out HONE.out (by simp only [maxLen]; omega) kom hsw ?_; intro v2 W3 hown3 hg3 _; obtain ⟨g3, cap3, rfl⟩ := ownsRow_succ hown3; have hP3 := (h2.grow _ _ hg3); have l0 := hP3.cell 0; have l1 := hP3.cell 1; have e0 := hP3.free 0; have e1 := hP3.free 1; simp only [aZ, aS] at l0 l1)
       have hown4 : W3.ownsRow w.heap.size 92 5 (.slice (some ⟨g3, 0, none⟩) (n + 1) cap3) (n + 1) (toks s ((List.range (n + 1)).map (posW s.data.toList))) := by
        rw [HTK.out]
        unfold tokV
        dsimp only
        rw [← HTX.out]
        exact hown3
       refine ⟨⟨k + m, n + 1, _, rfl, by go_num, h2.word _ _ hg3 hown4 HPLW.out kom ?_ ?_⟩, by simp [intOf]; omega⟩
       ·intro j hj
        by_cases hjn : j < n
        ·exact h2.good j hjn
        ·obtain rfl : j = n := by omega
         rw [← HPOS.out, HL.out]
         exact ⟨hlt, HERR.out⟩
       ·exact HDEF.out.symm
      ·rw [oneV_bad2 hr.symm he] at hone
       have HONE := aP hone
       have HERR := aP herr
       have te : (er != 0) = true := by rw [bne_iff_ne]; exact he
       have HE := aP he
       clear hone hplw hdef herr htk hr he
       go_wp2_with fail
       refine HONE.out.mono ?_
       rintro e W2 ⟨rfl, hk2⟩
       have h2 := h.same hk2
       clear p0 p1 f0 f1 hk2 h HONE
       have h3 := h2.same ((Kept.refl noX W2).alloc (.cells #[.int .i64 0, .string ⟨#[]⟩, .int .i64 0, .int .i64 0, .int .i64 0] 92))
       go_wp2_with fail
       clear h2
       generalize W2.alloc (.cells #[.int .i64 0, .string ⟨#[]⟩, .int .i64 0, .int .i64 0, .int .i64 0] 92) = W3 at h3 ⊢
       have r0 := h3.res.cell 0; have r1 := h3.res.cell 1
       have q0 := h3.res.free 0; have q1 := h3.res.free 1
       have l0 := h3.pl.cell 0; have l1 := h3.pl.cell 1
       simp only [zero2, aZ, aS] at r0 r1 l0 l1
       go_region
       go_wp2
       have hkk : Kept (· = w.heap.size) W3 ((W3.setCell ⟨w.heap.size, 0, none⟩ (.int .i64 ((plOf s.data.toList k).1 : Nat))).setCell ⟨w.heap.size, 1, none⟩ (.int .i64 ((plOf s.data.toList k).2 : Nat))).drew := (((Kept.refl _ _).setCell (fun _ => by rfl) _).setCell (fun _ => by rfl) _).drew
       have hres := (h3.res.put 0 (.int .i64 ((plOf s.data.toList k).1 : Nat))).put 1 (.int .i64 ((plOf s.data.toList k).2 : Nat))
       refine bodyPost_ret (results12_of hres.drew rfl rfl rfl) rfl ?_
       refine .inr ⟨n, h3.good, by rw [← HPOS.out, HL.out]; exact hlt, by rw [← HPOS.out, HERR.out]; exact HE.out, ?_, h3.kept.join hkk (fun i hi hlt => by omega)⟩
       rw [← HPOS.out, HERR.out]
       rfl
  ·have hk : k = s.size := by have := h.le; omega
   have r0 := h.res.cell 0; have r1 := h.res.cell 1; have q0 := h.res.free 0; have q1 := h.res.free 1
   simp only [zero2, aZ, aS] at r0 r1
   have hend : posW s.data.toList n = s.data.toList.length := by
    have := h.at_
    rw [List.drop_eq_nil_of_le (by rw [HL.out]; omega)] at this
    rw [HL.out, ← this, hk]
    rfl
   have HEND := aP hend
   clear hend hk
   go_wp2
   have hkk : Kept (· = w.heap.size) wr ((wr.setCell ⟨w.heap.size, 0, none⟩ (.int .i64 0)).setCell ⟨w.heap.size, 1, none⟩ (.int .i64 0)) := ((Kept.refl _ _).setCell (fun _ => by rfl) _).setCell (fun _ => by rfl) _
   refine bodyPost_ret (results12_of ((h.res.put 0 (.int .i64 0)).put 1 (.int .i64 0)) rfl rfl rfl) rfl ?_
   refine .inl ⟨n, v, h.good, HEND.out, rfl, own_kept h.own hkk (fun g hg e => own_ne h.own h.res (by decide) (e ▸ hg)), h.new, h.kept.join hkk (fun i hi hlt => by omega)⟩
end Go.Proofs.YtjkgepppoopheaaGreatDoor
