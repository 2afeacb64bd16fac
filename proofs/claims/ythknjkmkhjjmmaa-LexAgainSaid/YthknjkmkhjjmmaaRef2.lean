/- What the document's answer tells of the word at a place (conditions: the text is of at most 1000000 bytes, and not at its end). -/
import Derived.Test.YthknjkmkhjjmmaaRef1
namespace Go.Proofs.Ythknjkmkhjjmmaa
open Go.RowKit Go.Shelf

def sgRL : List (List UInt8) := sgR.map (·.data.toList)
def sgFits (l : List UInt8) (j : Nat) : Prop := (sgRL.getD j []).length ≤ l.length ∧ l.take (sgRL.getD j []).length = sgRL.getD j []

theorem sg_two {l : List UInt8} (h : 2 ≤ l.length ∧ l.take 2 ∈ sgL) : ∃ j, j < 5 ∧ sgFits l j := by
  have h5 : ∀ t ∈ sgL, t.length = 2 → ∃ j, j < 5 ∧ sgRL.getD j [] = t := by decide
  obtain ⟨j, hj, e⟩ := h5 _ h.2 (by rw [List.length_take]; omega)
  refine ⟨j, hj, ?_⟩
  unfold sgFits
  rw [e, List.length_take, Nat.min_eq_left h.1]
  exact ⟨h.1, rfl⟩
theorem sg_one {l : List UInt8} (h : 1 ≤ l.length ∧ l.take 1 ∈ sgL) : ∃ j, j < 20 ∧ sgFits l j := by
  have h5 : ∀ t ∈ sgL, t.length = 1 → ∃ j, j < 20 ∧ sgRL.getD j [] = t := by decide
  obtain ⟨j, hj, e⟩ := h5 _ h.2 (by rw [List.length_take]; omega)
  refine ⟨j, hj, ?_⟩
  unfold sgFits
  rw [e, List.length_take, Nat.min_eq_left h.1]
  exact ⟨h.1, rfl⟩
theorem sg_len (j : Nat) (h : j < 20) : (j < 5 → (sgRL.getD j []).length = 2) ∧ (5 ≤ j → (sgRL.getD j []).length = 1) ∧ sgRL.getD j [] ∈ sgL := by
  have : ∀ j, j < 20 → (j < 5 → (sgRL.getD j []).length = 2) ∧ (5 ≤ j → (sgRL.getD j []).length = 1) ∧ sgRL.getD j [] ∈ sgL := by decide
  exact this j h
theorem sg_hit {l : List UInt8} {k : Nat} (hk : k < 20) (hm : sgFits l k) (hno : ∀ j, j < k → ¬ sgFits l j) : sgN l = (sgRL.getD k []).length := by
  obtain ⟨h2, h1, hin⟩ := sg_len k hk
  unfold sgN
  by_cases h5 : k < 5
  · have hl := h2 h5
    unfold sgFits at hm
    rw [hl] at hm
    rw [if_pos ⟨hm.1, by rw [hm.2]; exact hin⟩, hl]
  · have hl := h1 (by omega)
    unfold sgFits at hm
    rw [hl] at hm
    rw [if_neg (fun h => ?_), if_pos ⟨hm.1, by rw [hm.2]; exact hin⟩, hl]
    obtain ⟨j, hj, hf⟩ := sg_two h
    exact hno j (by omega) hf
theorem sg_miss {l : List UInt8} (hno : ∀ j, j < 20 → ¬ sgFits l j) : sgN l = 0 := by
  unfold sgN
  rw [if_neg (fun h => ?_), if_neg (fun h => ?_)]
  · obtain ⟨j, hj, hf⟩ := sg_one h
    exact hno j hj hf
  · obtain ⟨j, hj, hf⟩ := sg_two h
    exact hno j (by omega) hf

/-- What the document's answer tells of one word. -/
def oneV (s : ByteArray) (i : Nat) : Value :=
  let r := wordR (s.data.toList.drop i)
  if r.2.2.2 = 0 then .tuple #[.agg #[.int .i64 r.1, .string (s.extract i (i + r.2.1)), .int .i64 r.2.2.1, .int .i64 0, .int .i64 0], .int .i64 (r.2.1 : Nat), .int .i64 0]
  else .tuple #[.agg tok0.toArray, .int .i64 0, .int .i64 r.2.2.2]

theorem oneV_ok {s : ByteArray} {i n : Nat} {a c : Int} (h : wordR (s.data.toList.drop i) = (a, n, c, 0)) :
    oneV s i = .tuple #[.agg #[.int .i64 a, .string (s.extract i (i + n)), .int .i64 c, .int .i64 0, .int .i64 0], .int .i64 (n : Nat), .int .i64 0] := by
  unfold oneV
  rw [h]
  rfl
theorem oneV_bad {s : ByteArray} {i n : Nat} {a c e : Int} (h : wordR (s.data.toList.drop i) = (a, n, c, e)) (he : e ≠ 0) :
    oneV s i = .tuple #[.agg tok0.toArray, .int .i64 0, .int .i64 e] := by
  unfold oneV
  rw [h]
  dsimp only
  rw [if_neg he]

theorem results24_of {W : World} {R : Nat} {tmps : Array Value} {c0 c1 c2 c3 c4 a b : Value} (h : Cells W R 40 [c0, c1, c2, c3, c4]) (h4 : tmps.getD 4 undef = .pointer (some ⟨R, 0, none⟩)) (h5 : tmps.getD 5 undef = a) (h6 : tmps.getD 6 undef = b) :
    (results Try.f24 tmps).run Try.prog W = .ok (.tuple #[.agg #[c0, c1, c2, c3, c4], a, b]) W := by
  have d0 := h.cell 0; have d1 := h.cell 1; have d2 := h.cell 2; have d3 := h.cell 3; have d4 := h.cell 4
  simp only [List.getElem?_cons_zero, List.getElem?_cons_succ] at d0 d1 d2 d3 d4
  rw [Array.getD_eq_getD_getElem?] at h4 h5 h6
  simp [results, Try.results24, go_sem, h4, h5, h6, d0, d1, d2, d3, d4]

theorem put5 {w W : World} {R : Nat} (h : Cells W R 40 tok0) (hk : Kept noX w W) (hR : w.heap.size ≤ R) (a0 a1 a2 a3 a4 : Value) :
    Cells (((((W.setCell ⟨R, 0, none⟩ a0).setCell ⟨R, 1, none⟩ a1).setCell ⟨R, 2, none⟩ a2).setCell ⟨R, 3, none⟩ a3).setCell ⟨R, 4, none⟩ a4) R 40 [a0, a1, a2, a3, a4] ∧
    Kept noX w (((((W.setCell ⟨R, 0, none⟩ a0).setCell ⟨R, 1, none⟩ a1).setCell ⟨R, 2, none⟩ a2).setCell ⟨R, 3, none⟩ a3).setCell ⟨R, 4, none⟩ a4) := by
  refine ⟨((((h.put 0 a0).put 1 a1).put 2 a2).put 3 a3).put 4 a4, ?_⟩
  refine ((((hk.setCell (fun hh => ?_) a0).setCell (fun hh => ?_) a1).setCell (fun hh => ?_) a2).setCell (fun hh => ?_) a3).setCell (fun hh => ?_) a4
  all_goals dsimp only at hh; omega

set_option maxRecDepth 100000 in
set_option maxHeartbeats 1000000 in
theorem one_letter (s : ByteArray) (hs : s.size ≤ 1000000) (i0 : Nat) (hi : i0 < s.size) (w : World) (hl : letB (s[i0].toNat : Nat) = true) :
    Calls Try.prog 24 #[.string s, .int .i64 i0] w fun e w' => e = .returned (oneV s i0) ∧ Kept noX w w' := by
  have hb0 := drop_at (s := s) (Nat.le_refl i0) hi
  rw [Nat.sub_self] at hb0
  have hn1 : i0 + runQ alnB (s.data.toList.drop i0) ≤ s.size := by
    have h1 := runQ_le alnB (s.data.toList.drop i0)
    rw [drop_len] at h1
    omega
  have hst := runQ_step (q := alnB) hi
  have HB0 := Lib.hid hb0
  have HST := Lib.hid hst
  clear hb0 hst
  obtain ⟨t, ht⟩ : ∃ t, t = s.extract i0 (i0 + runQ alnB (s.data.toList.drop i0)) := ⟨_, rfl⟩
  have htl : t.data.toList = (s.data.toList.drop i0).take (runQ alnB (s.data.toList.drop i0)) := by rw [ht, extract_list]
  have hts : t.size = runQ alnB (s.data.toList.drop i0) := by rw [ht, ByteArray.size_extract]; omega
  obtain ⟨n, hn⟩ : ∃ n, n = runQ alnB (s.data.toList.drop i0) := ⟨_, rfl⟩
  rw [← hn] at hn1 hts ht
  have HT := Lib.hid ht
  have HTL := Lib.hid htl
  have HN := Lib.hid hn
  have hrun : Calls Try.prog 38 #[.string s, .int .i64 i0] (w.alloc (.cells tok0.toArray 40)) fun e w' => e = .returned (.int .i64 (n : Nat)) ∧ Kept noX (w.alloc (.cells tok0.toArray 40)) w' := by rw [hn]; exact run_any s hs i0 (by omega) _
  have HRUN := Lib.hid hrun
  clear ht htl hn hrun
  go_enter Try.func24, Try.ntmps24
  go_wp2_with fail
  refine HRUN.out.mono ?_
  rintro e W1 ⟨rfl, hk1⟩
  have hR := (Cells.fresh w 40 tok0).kept hk1 (fun h => h)
  have hkw := ((Kept.refl noX w).alloc (.cells tok0.toArray 40)).trans hk1
  clear hk1 HRUN
  have hx : 97 ≤ (s[i0].toNat : Int) := by simp [letB] at hl; omega
  have hdg : digB (s[i0].toNat : Nat) = false := by
    rw [Bool.eq_false_iff]; intro h; have := (digB_iff _).1 h; omega
  have hn0 : 0 < n := by
    rw [HN.out, HST.out, if_pos (by simp [alnB, hl])]; omega
  have HC : Hid (∀ W, Calls Try.prog 30 #[.int .u8 (s[i0].toNat : Nat)] W fun e w' => e = .returned (.bool false) ∧ W = w') := Lib.hid (fun W => by rw [← hdg]; exact rdigit_any _ W)
  have hw := wordR_let HB0.out hl
  rw [← HN.out] at hw
  rw [← HN.out] at HTL
  rw [← HTL.out] at hw
  have HW := Lib.hid hw
  clear hl hdg hw hx
  cases hkwd : kwIs t.data.toList with
  | true =>
    have hin : t.data.toList ∈ kwL := by simpa [kwIs] using hkwd
    have h16 := kw_short hin
    have HK : Hid (∀ W, Calls Try.prog 18 #[.string t] W fun e w' => e = .returned (.bool true) ∧ Kept noX W w') := Lib.hid (fun W => by rw [← hkwd]; exact rkeyword_any t W)
    have HV : Hid (oneV s i0 = .tuple #[.agg #[.int .i64 3, .string t, .int .i64 0, .int .i64 0, .int .i64 0], .int .i64 (n : Nat), .int .i64 0]) := Lib.hid (by
      have hw := HW.out
      rw [if_pos hin, if_pos (by omega)] at hw
      rw [oneV_ok hw, HT.out])
    clear hkwd hin h16
    obtain rfl := HT.out
    have hnl : (0 : Int) < (n : Int) := by omega
    go_wp2_with fail
    refine (HC.out _).mono ?_
    rintro e W1' ⟨rfl, rfl⟩
    go_wp2_with fail
    refine (HK.out _).mono ?_
    rintro e W2 ⟨rfl, hk2⟩
    have hR2 := hR.kept hk2 (fun h => h)
    have hkw2 := hkw.trans hk2
    have r0 := hR2.cell 0; have r1 := hR2.cell 1; have r2 := hR2.cell 2; have r3 := hR2.cell 3; have r4 := hR2.cell 4
    have q0 := hR2.free 0; have q1 := hR2.free 1; have q2 := hR2.free 2; have q3 := hR2.free 3; have q4 := hR2.free 4
    simp only [tok0, List.getElem?_cons_zero, List.getElem?_cons_succ] at r0 r1 r2 r3 r4
    clear hR hk2 hkw
    go_wp2
    obtain ⟨hf1, hf2⟩ := put5 hR2 hkw2 (Nat.le_refl _) (.int .i64 3) ((.string (s.extract i0 (i0 + n)))) (.int .i64 0) (.int .i64 0) (.int .i64 0)
    refine bodyPost_ret (results24_of hf1 rfl rfl rfl) rfl ?_
    exact ⟨by rw [HV.out]; rfl, hf2⟩
  | false =>
    have hin : t.data.toList ∉ kwL := by simpa [kwIs] using hkwd
    have HK : Hid (∀ W, Calls Try.prog 18 #[.string t] W fun e w' => e = .returned (.bool false) ∧ Kept noX W w') := Lib.hid (fun W => by rw [← hkwd]; exact rkeyword_any t W)
    have hnl : (0 : Int) < (n : Int) := by omega
    by_cases h16 : n ≤ 16
    · have HV : Hid (oneV s i0 = .tuple #[.agg #[.int .i64 1, .string t, .int .i64 0, .int .i64 0, .int .i64 0], .int .i64 (n : Nat), .int .i64 0]) := Lib.hid (by
        have hw := HW.out
        rw [if_neg hin, if_pos h16] at hw
        rw [oneV_ok hw, HT.out])
      clear hkwd hin
      obtain rfl := HT.out
      go_wp2_with fail
      refine (HC.out _).mono ?_
      rintro e W1' ⟨rfl, rfl⟩
      go_wp2_with fail
      refine (HK.out _).mono ?_
      rintro e W2 ⟨rfl, hk2⟩
      have hR2 := hR.kept hk2 (fun h => h)
      have hkw2 := hkw.trans hk2
      have r0 := hR2.cell 0; have r1 := hR2.cell 1; have r2 := hR2.cell 2; have r3 := hR2.cell 3; have r4 := hR2.cell 4
      have q0 := hR2.free 0; have q1 := hR2.free 1; have q2 := hR2.free 2; have q3 := hR2.free 3; have q4 := hR2.free 4
      simp only [tok0, List.getElem?_cons_zero, List.getElem?_cons_succ] at r0 r1 r2 r3 r4
      clear hR hk2 hkw
      go_wp2
      obtain ⟨hf1, hf2⟩ := put5 hR2 hkw2 (Nat.le_refl _) (.int .i64 1) ((.string (s.extract i0 (i0 + n)))) (.int .i64 0) (.int .i64 0) (.int .i64 0)
      refine bodyPost_ret (results24_of hf1 rfl rfl rfl) rfl ?_
      exact ⟨by rw [HV.out]; rfl, hf2⟩
    · have HV : Hid (oneV s i0 = .tuple #[.agg tok0.toArray, .int .i64 0, .int .i64 111]) := Lib.hid (by
        have hw := HW.out
        rw [if_neg hin, if_neg h16] at hw
        exact oneV_bad hw (by decide))
      clear hkwd hin
      obtain rfl := HT.out
      go_wp2_with fail
      refine (HC.out _).mono ?_
      rintro e W1' ⟨rfl, rfl⟩
      go_wp2_with fail
      refine (HK.out _).mono ?_
      rintro e W2 ⟨rfl, hk2⟩
      have hR2 := hR.kept hk2 (fun h => h)
      have hkw2 := hkw.trans hk2
      have r0 := hR2.cell 0; have r1 := hR2.cell 1; have r2 := hR2.cell 2; have r3 := hR2.cell 3; have r4 := hR2.cell 4
      have q0 := hR2.free 0; have q1 := hR2.free 1; have q2 := hR2.free 2; have q3 := hR2.free 3; have q4 := hR2.free 4
      simp only [tok0, List.getElem?_cons_zero, List.getElem?_cons_succ] at r0 r1 r2 r3 r4
      clear hR hk2 hkw
      go_wp2
      obtain ⟨hf1, hf2⟩ := put5 hR2 hkw2 (Nat.le_refl _) (.int .i64 0) (.string ⟨#[]⟩) (.int .i64 0) (.int .i64 0) (.int .i64 0)
      refine bodyPost_ret (results24_of hf1 rfl rfl rfl) rfl ?_
      exact ⟨by rw [HV.out]; rfl, hf2⟩

set_option maxRecDepth 100000 in
set_option maxHeartbeats 1000000 in
theorem one_digit (s : ByteArray) (hs : s.size ≤ 1000000) (i0 : Nat) (hi : i0 < s.size) (w : World) (hl : letB (s[i0].toNat : Nat) = false) (hdg : digB (s[i0].toNat : Nat) = true) :
    Calls Try.prog 24 #[.string s, .int .i64 i0] w fun e w' => e = .returned (oneV s i0) ∧ Kept noX w w' := by
  have hb0 := drop_at (s := s) (Nat.le_refl i0) hi
  rw [Nat.sub_self] at hb0
  have hn1 : i0 + runQ alnB (s.data.toList.drop i0) ≤ s.size := by
    have h1 := runQ_le alnB (s.data.toList.drop i0)
    rw [drop_len] at h1
    omega
  have hst := runQ_step (q := alnB) hi
  have HB0 := Lib.hid hb0
  have HST := Lib.hid hst
  clear hb0 hst
  obtain ⟨t, ht⟩ : ∃ t, t = s.extract i0 (i0 + runQ alnB (s.data.toList.drop i0)) := ⟨_, rfl⟩
  have htl : t.data.toList = (s.data.toList.drop i0).take (runQ alnB (s.data.toList.drop i0)) := by rw [ht, extract_list]
  have hts : t.size = runQ alnB (s.data.toList.drop i0) := by rw [ht, ByteArray.size_extract]; omega
  obtain ⟨n, hn⟩ : ∃ n, n = runQ alnB (s.data.toList.drop i0) := ⟨_, rfl⟩
  rw [← hn] at hn1 hts ht
  have HT := Lib.hid ht
  have HTL := Lib.hid htl
  have HN := Lib.hid hn
  have hrun : Calls Try.prog 38 #[.string s, .int .i64 i0] (w.alloc (.cells tok0.toArray 40)) fun e w' => e = .returned (.int .i64 (n : Nat)) ∧ Kept noX (w.alloc (.cells tok0.toArray 40)) w' := by rw [hn]; exact run_any s hs i0 (by omega) _
  have HRUN := Lib.hid hrun
  clear ht htl hn hrun
  go_enter Try.func24, Try.ntmps24
  go_wp2_with fail
  refine HRUN.out.mono ?_
  rintro e W1 ⟨rfl, hk1⟩
  have hR := (Cells.fresh w 40 tok0).kept hk1 (fun h => h)
  have hkw := ((Kept.refl noX w).alloc (.cells tok0.toArray 40)).trans hk1
  clear hk1 HRUN
  have hn0 : 0 < n := by
    rw [HN.out, HST.out, if_pos (by simp [alnB, hdg])]; omega
  have HC : Hid (∀ W, Calls Try.prog 30 #[.int .u8 (s[i0].toNat : Nat)] W fun e w' => e = .returned (.bool true) ∧ W = w') := Lib.hid (fun W => by rw [← hdg]; exact rdigit_any _ W)
  have hw := wordR_dig HB0.out hl hdg
  rw [← HN.out] at hw
  rw [← HN.out] at HTL
  rw [← HTL.out] at hw
  obtain ⟨nr, hnr⟩ : ∃ nr, nr = numRes t.data.toList := ⟨_, rfl⟩
  rw [← hnr] at hw
  have HNR := Lib.hid hnr
  have HW := Lib.hid hw
  clear hnr
  have HK := Lib.hid (fun W => rnumber_any t (by omega) (by omega) W)
  have hnl : (0 : Int) < (n : Int) := by omega
  clear hl hdg hw
  cases hok : numOk t.data.toList with
  | true =>
    have HOK := Lib.hid hok
    have HV : Hid (oneV s i0 = .tuple #[.agg #[.int .i64 2, .string t, .int .i64 nr, .int .i64 0, .int .i64 0], .int .i64 (n : Nat), .int .i64 0]) := Lib.hid (by
      have hw := HW.out
      rw [if_pos hok] at hw
      rw [oneV_ok hw, HT.out])
    clear hok
    obtain rfl := HT.out
    go_wp2_with fail
    refine (HC.out _).mono ?_
    rintro e W1' ⟨rfl, rfl⟩
    go_wp2_with fail
    refine (HK.out _).mono ?_
    rintro e W2 ⟨⟨x, rfl, hx⟩, hk2⟩
    obtain rfl := (hx HOK.out).trans HNR.out.symm
    rw [HOK.out]
    have hR2 := hR.kept hk2 (fun h => h)
    have hkw2 := hkw.trans hk2
    have r0 := hR2.cell 0; have r1 := hR2.cell 1; have r2 := hR2.cell 2; have r3 := hR2.cell 3; have r4 := hR2.cell 4
    have q0 := hR2.free 0; have q1 := hR2.free 1; have q2 := hR2.free 2; have q3 := hR2.free 3; have q4 := hR2.free 4
    simp only [tok0, List.getElem?_cons_zero, List.getElem?_cons_succ] at r0 r1 r2 r3 r4
    clear hR hk2 hkw hx
    go_wp2
    obtain ⟨hf1, hf2⟩ := put5 hR2 hkw2 (Nat.le_refl _) (.int .i64 2) ((.string (s.extract i0 (i0 + n)))) (.int .i64 x) (.int .i64 0) (.int .i64 0)
    refine bodyPost_ret (results24_of hf1 rfl rfl rfl) rfl ?_
    exact ⟨by rw [HV.out]; rfl, hf2⟩
  | false =>
    have HOK := Lib.hid hok
    have HV : Hid (oneV s i0 = .tuple #[.agg tok0.toArray, .int .i64 0, .int .i64 112]) := Lib.hid (by
      have hw := HW.out
      rw [if_neg (by rw [hok]; decide)] at hw
      exact oneV_bad hw (by decide))
    clear hok
    obtain rfl := HT.out
    go_wp2_with fail
    refine (HC.out _).mono ?_
    rintro e W1' ⟨rfl, rfl⟩
    go_wp2_with fail
    refine (HK.out _).mono ?_
    rintro e W2 ⟨⟨x, rfl, hx⟩, hk2⟩
    rw [HOK.out]
    have hR2 := hR.kept hk2 (fun h => h)
    have hkw2 := hkw.trans hk2
    have r0 := hR2.cell 0; have r1 := hR2.cell 1; have r2 := hR2.cell 2; have r3 := hR2.cell 3; have r4 := hR2.cell 4
    have q0 := hR2.free 0; have q1 := hR2.free 1; have q2 := hR2.free 2; have q3 := hR2.free 3; have q4 := hR2.free 4
    simp only [tok0, List.getElem?_cons_zero, List.getElem?_cons_succ] at r0 r1 r2 r3 r4
    clear hR hk2 hkw hx
    go_wp2
    obtain ⟨hf1, hf2⟩ := put5 hR2 hkw2 (Nat.le_refl _) (.int .i64 0) (.string ⟨#[]⟩) (.int .i64 0) (.int .i64 0) (.int .i64 0)
    refine bodyPost_ret (results24_of hf1 rfl rfl rfl) rfl ?_
    exact ⟨by rw [HV.out]; rfl, hf2⟩

set_option maxRecDepth 100000 in
set_option maxHeartbeats 1000000 in
theorem one_sign (s : ByteArray) (hs : s.size ≤ 1000000) (i0 : Nat) (hi : i0 < s.size) (w : World) (hl : letB (s[i0].toNat : Nat) = false) (hdg : digB (s[i0].toNat : Nat) = false) :
    Calls Try.prog 24 #[.string s, .int .i64 i0] w fun e w' => e = .returned (oneV s i0) ∧ Kept noX w w' := by
  have hb0 := drop_at (s := s) (Nat.le_refl i0) hi
  rw [Nat.sub_self] at hb0
  have hn1 : i0 + runQ alnB (s.data.toList.drop i0) ≤ s.size := by
    have h1 := runQ_le alnB (s.data.toList.drop i0)
    rw [drop_len] at h1
    omega
  have hst := runQ_step (q := alnB) hi
  have HB0 := Lib.hid hb0
  have HST := Lib.hid hst
  clear hb0 hst
  obtain ⟨t, ht⟩ : ∃ t, t = s.extract i0 (i0 + runQ alnB (s.data.toList.drop i0)) := ⟨_, rfl⟩
  have htl : t.data.toList = (s.data.toList.drop i0).take (runQ alnB (s.data.toList.drop i0)) := by rw [ht, extract_list]
  have hts : t.size = runQ alnB (s.data.toList.drop i0) := by rw [ht, ByteArray.size_extract]; omega
  obtain ⟨n, hn⟩ : ∃ n, n = runQ alnB (s.data.toList.drop i0) := ⟨_, rfl⟩
  rw [← hn] at hn1 hts ht
  have HT := Lib.hid ht
  have HTL := Lib.hid htl
  have HN := Lib.hid hn
  have hrun : Calls Try.prog 38 #[.string s, .int .i64 i0] (w.alloc (.cells tok0.toArray 40)) fun e w' => e = .returned (.int .i64 (n : Nat)) ∧ Kept noX (w.alloc (.cells tok0.toArray 40)) w' := by rw [hn]; exact run_any s hs i0 (by omega) _
  have HRUN := Lib.hid hrun
  clear ht htl hn hrun
  go_enter Try.func24, Try.ntmps24
  go_wp2_with fail
  refine HRUN.out.mono ?_
  rintro e W1 ⟨rfl, hk1⟩
  have hR := (Cells.fresh w 40 tok0).kept hk1 (fun h => h)
  have hkw := ((Kept.refl noX w).alloc (.cells tok0.toArray 40)).trans hk1
  clear hk1 HRUN
  have hn0 : n = 0 := by
    rw [HN.out, HST.out, if_neg (by simp [alnB, hl, hdg])]
  have hw := wordR_sig HB0.out hl hdg
  have HW := Lib.hid hw
  have hnl : ¬ (0 : Int) < (n : Int) := by omega
  have hn16 : n ≤ 16 := by omega
  have HN0 := Lib.hid hn0
  have hdl : (s.data.toList.drop i0).length = s.size - i0 := drop_len
  have HDL := Lib.hid hdl
  clear hl hdg hw hn0 hts hdl
  go_wp2_with fail
  refine (rsigns_any _).mono ?_
  rintro e W2 ⟨rfl, hrow, hk2⟩
  have hR2 := hR.kept hk2 (fun h => h)
  have hkw2 := hkw.trans hk2
  have hg2 : W1.heap.size ≠ w.heap.size := by have := hR.lt; omega
  clear hR hk2 hkw
  go_wp2_with fail
  go_loopw [12] (fun i wr => ∃ k q : Nat, i = .int .i64 k ∧ k ≤ 20 ∧ (∀ j, j < k → ¬ sgFits (s.data.toList.drop i0) j) ∧ wr = W2.drewN q) (fun i _ => 20 - (intOf i).toNat)
  case atStart => exact ⟨0, 0, rfl, by omega, fun j h => by omega, rfl⟩
  case round =>
    obtain ⟨k, q, rfl, hk, hno, hwr⟩ := hrel
    have hR2 : Cells wr w.heap.size 40 tok0 := by rw [hwr]; exact hR2
    have hkw2 : Kept noX w wr := by rw [hwr]; exact hkw2.drewN q
    have hrow : Cells wr W1.heap.size 9 (sgR.map Value.string) := by rw [hwr]; exact hrow
    have HWR := Lib.hid hwr
    have HNO := Lib.hid hno
    clear hno hwr
    by_cases hlt : k < 20
    · have hc := row_at hrow (k := k) (by simpa [sgR] using hlt)
      have hkb : k < sgR.length := by simpa [sgR] using hlt
      obtain ⟨b, hb⟩ : ∃ b, b = sgR[k] := ⟨_, rfl⟩
      have hbl : sgRL.getD k [] = b.data.toList := by
        rw [hb]
        unfold sgRL
        rw [List.getD_eq_getElem?_getD, List.getElem?_map, List.getElem?_eq_getElem hkb]
        rfl
      have hbs : b.data.toList.length = b.size := by simp
      have hb2 : b.size ≤ 2 := by
        obtain ⟨h2, h1, _⟩ := sg_len k hlt
        rw [hbl, hbs] at h2 h1
        by_cases h : k < 5
        · have := h2 h; omega
        · have := h1 (by omega); omega
      rw [← hb] at hc
      have hfit : sgFits (s.data.toList.drop i0) k ↔ i0 + b.size ≤ s.size ∧ (s.extract i0 (i0 + b.size)).data.toList = b.data.toList := by
        unfold sgFits
        rw [hbl, hbs, HDL.out, extract_list]
        constructor
        · rintro ⟨h1, h2⟩; exact ⟨by omega, h2⟩
        · rintro ⟨h1, h2⟩; exact ⟨by omega, h2⟩
      have HF := Lib.hid hfit
      have HBL := Lib.hid hbl
      have HBS := Lib.hid hbs
      clear hb hrow hfit hbl hbs
      by_cases hle : i0 + b.size ≤ s.size
      · have dle : decide ((i0 : Int) + (b.size : Int) ≤ (s.size : Int)) = true := by simp; omega
        by_cases he : (s.extract i0 (i0 + b.size)).data.toList = b.data.toList
        · have te : ((s.extract i0 (i0 + b.size)).toList == b.toList) = true := by rw [toList_beq]; simpa using he
          have HV : Hid (oneV s i0 = .tuple #[.agg #[.int .i64 4, .string b, .int .i64 0, .int .i64 0, .int .i64 0], .int .i64 (b.size : Nat), .int .i64 0]) := Lib.hid (by
            have h1 := sg_hit hlt (HF.out.2 ⟨hle, he⟩) HNO.out
            rw [HBL.out, HBS.out] at h1
            have hpos : b.size ≠ 0 := by
              obtain ⟨h2, h3, _⟩ := sg_len k hlt
              rw [HBL.out, HBS.out] at h2 h3
              by_cases h : k < 5
              · have := h2 h; omega
              · have := h3 (by omega); omega
            have hw := HW.out
            rw [h1, if_neg hpos] at hw
            rw [oneV_ok hw]
            have : s.extract i0 (i0 + b.size) = b := by
              apply ByteArray.ext
              exact Array.toList_inj.1 he
            rw [this])
          clear he
          go_wp2_with fail
          go_quiet (fail)
          have hR3 : Cells (wr.drewN nq) w.heap.size 40 tok0 := hR2
          have hkw3 : Kept noX w (wr.drewN nq) := hkw2.drewN _
          have hc3 : (wr.drewN nq).cell? ⟨W1.heap.size, k, none⟩ = some (.string b) := hc
          clear hR2 hkw2 hc HWR
          generalize wr.drewN nq = W3 at hR3 hkw3 hc3 ⊢
          have r0 := hR3.cell 0; have r1 := hR3.cell 1; have r2 := hR3.cell 2; have r3 := hR3.cell 3; have r4 := hR3.cell 4
          have q0 := hR3.free 0; have q1 := hR3.free 1; have q2 := hR3.free 2; have q3 := hR3.free 3; have q4 := hR3.free 4
          simp only [tok0, List.getElem?_cons_zero, List.getElem?_cons_succ] at r0 r1 r2 r3 r4
          go_wp2
          obtain ⟨hf1, hf2⟩ := put5 hR3 hkw3 (Nat.le_refl _) (.int .i64 4) (.string b) (.int .i64 0) (.int .i64 0) (.int .i64 0)
          refine bodyPost_ret (results24_of hf1 rfl rfl rfl) rfl ?_
          exact ⟨by rw [HV.out]; rfl, hf2⟩
        · have te : ((s.extract i0 (i0 + b.size)).toList == b.toList) = false := by rw [toList_beq]; simpa using he
          have HE := Lib.hid he
          clear he
          go_wp2_with fail
          go_quiet (fail)
          go_wp2
          go_roundw
          case rel =>
            refine ⟨k + 1, _, by go_num, by omega, ?_, by rw [HWR.out, World.drewN_drewN]⟩
            intro j hj hf
            by_cases hjk : j = k
            · subst hjk; exact HE.out (HF.out.1 hf).2
            · exact HNO.out j (by omega) hf
          case measure => simp [intOf]; omega
      · have dle : decide ((i0 : Int) + (b.size : Int) ≤ (s.size : Int)) = false := by simp; omega
        go_wp2_with fail
        go_quiet (fail)
        go_wp2
        go_roundw
        case rel =>
          refine ⟨k + 1, _, by go_num, by omega, ?_, by rw [HWR.out, World.drewN_drewN]⟩
          intro j hj hf
          by_cases hjk : j = k
          · subst hjk; exact hle (HF.out.1 hf).1
          · exact HNO.out j (by omega) hf
        case measure => simp [intOf]; omega
    · obtain rfl : k = 20 := by omega
      have HV : Hid (oneV s i0 = .tuple #[.agg tok0.toArray, .int .i64 0, .int .i64 110]) := Lib.hid (by
        have hw := HW.out
        rw [sg_miss HNO.out, if_pos rfl] at hw
        exact oneV_bad hw (by decide))
      clear hrow
      have r0 := hR2.cell 0; have r1 := hR2.cell 1; have r2 := hR2.cell 2; have r3 := hR2.cell 3; have r4 := hR2.cell 4
      have q0 := hR2.free 0; have q1 := hR2.free 1; have q2 := hR2.free 2; have q3 := hR2.free 3; have q4 := hR2.free 4
      simp only [tok0, List.getElem?_cons_zero, List.getElem?_cons_succ] at r0 r1 r2 r3 r4
      go_wp2
      obtain ⟨hf1, hf2⟩ := put5 hR2 hkw2 (Nat.le_refl _) (.int .i64 0) (.string ⟨#[]⟩) (.int .i64 0) (.int .i64 0) (.int .i64 0)
      refine bodyPost_ret (results24_of hf1 rfl rfl rfl) rfl ?_
      exact ⟨by rw [HV.out]; rfl, hf2⟩

theorem one_any (s : ByteArray) (hs : s.size ≤ 1000000) (i0 : Nat) (hi : i0 < s.size) (w : World) :
    Calls Try.prog 24 #[.string s, .int .i64 i0] w fun e w' => e = .returned (oneV s i0) ∧ Kept noX w w' := by
  cases hl : letB (s[i0].toNat : Nat) with
  | true => exact one_letter s hs i0 hi w hl
  | false =>
    cases hdg : digB (s[i0].toNat : Nat) with
    | true => exact one_digit s hs i0 hi w hl hdg
    | false => exact one_sign s hs i0 hi w hl hdg
end Go.Proofs.Ythknjkmkhjjmmaa
