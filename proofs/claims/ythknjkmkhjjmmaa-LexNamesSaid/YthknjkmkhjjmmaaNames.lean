/- What LexNames answers: true (conditions: none). -/
import Derived.Test.YthknjkmkhjjmmaaRef1
namespace Go.Proofs.Ythknjkmkhjjmmaa
open Go.RowKit Go.Shelf

set_option maxRecDepth 100000 in
set_option maxHeartbeats 1000000 in
theorem keyword_any (s : ByteArray) (hs : s.size ≤ 1000000) (w : World) : Calls Try.prog 17 #[.string s] w fun e w' => e = .returned (.bool (kwIs s.data.toList)) ∧ Kept noX w w' := by
  cases hk : kwIs s.data.toList with
  | true =>
    have hin : s.data.toList ∈ kwL := by simpa [kwIs] using hk
    clear hk
    go_enter Try.func17, Try.ntmps17
    go_wp2_with fail
    refine (keywords_any w).mono ?_
    rintro e W1 ⟨rfl, hK, hk1⟩
    have hl := hK.look s (by unfold maxLen; omega)
    rw [if_pos hin] at hl
    clear hin hK
    go_wp2
    go_ret
    exact ⟨rfl, hk1⟩
  | false =>
    have hin : s.data.toList ∉ kwL := by simpa [kwIs] using hk
    clear hk
    go_enter Try.func17, Try.ntmps17
    go_wp2_with fail
    refine (keywords_any w).mono ?_
    rintro e W1 ⟨rfl, hK, hk1⟩
    have hl := hK.look s (by unfold maxLen; omega)
    rw [if_neg hin] at hl
    clear hin hK
    go_wp2
    go_ret
    exact ⟨rfl, hk1⟩

theorem drop_zero' {s : ByteArray} (hk : 0 < s.size) : s.data.toList.drop 0 = s[0] :: s.data.toList.drop 1 := by
  rw [List.drop_eq_getElem_cons (by simpa using hk)]
  rfl

/-- Is a text a name? -/
def nameIs (l : List UInt8) : Bool := match l with
  | [] => false
  | b :: r => decide (r.length + 1 ≤ 16) && letB (b.toNat : Nat) && (b :: r).all (fun b => alnB (b.toNat : Nat)) && !kwIs (b :: r)

theorem nameIs_cons (b : UInt8) (r : List UInt8) : nameIs (b :: r) = (decide (r.length + 1 ≤ 16) && letB (b.toNat : Nat) && (b :: r).all (fun b => alnB (b.toNat : Nat)) && !kwIs (b :: r)) := rfl
theorem runQ_all_iff (q : Int → Bool) : ∀ l : List UInt8, runQ q l = l.length ↔ l.all (fun b => q (b.toNat : Nat)) = true := by
  intro l
  induction l with
  | nil => simp [runQ, runS]
  | cons b l ih =>
    rw [runQ_cons]
    cases h : q (b.toNat : Nat) with
    | true => simp only [if_true, List.length_cons, Nat.add_right_cancel_iff, ih, List.all_cons, h, Bool.true_and]
    | false => simp [h]

set_option maxRecDepth 100000 in
set_option maxHeartbeats 1000000 in
theorem name_any (s : ByteArray) (hs : s.size ≤ 1000000) (w : World) : Calls Try.prog 15 #[.string s] w fun e w' => e = .returned (.bool (nameIs s.data.toList)) ∧ Kept noX w w' := by
  have hlen : s.data.toList.length = s.size := by simp
  by_cases h0 : s.size = 0
  · have hn : s.data.toList = [] := List.eq_nil_of_length_eq_zero (by omega)
    have te : s.toList.isEmpty = true := by rw [ByteArray.toList_eq, hn]; rfl
    have HV : Hid (nameIs s.data.toList = false) := Lib.hid (by rw [hn]; rfl)
    clear hn hlen h0
    go_enter Try.func15, Try.ntmps15
    go_wp2
    go_ret
    exact ⟨by rw [HV.out]; rfl, Kept.refl _ _⟩
  · have te : s.toList.isEmpty = false := by
      rw [ByteArray.toList_eq, List.isEmpty_eq_false_iff]
      intro h
      rw [h] at hlen
      exact h0 hlen.symm
    have hpos : 0 < s.size := by omega
    have hcons : s.data.toList = s[0] :: s.data.toList.drop 1 := by
      have := drop_zero' hpos
      rwa [List.drop_zero] at this
    have hlr : (s.data.toList.drop 1).length + 1 = s.size := by rw [List.length_drop, hlen]; omega
    by_cases h16 : s.size ≤ 16
    · have d16 : decide ((16 : Int) < (s.size : Int)) = false := by simp; omega
      cases hl : letB (s[0].toNat : Nat) with
      | false =>
        have HC : Hid (∀ W, Calls Try.prog 25 #[.int .u8 (s[0].toNat : Nat)] W fun e w' => e = .returned (.bool false) ∧ W = w') := Lib.hid (fun W => by rw [← hl]; exact letter_any _ W)
        have HV : Hid (nameIs s.data.toList = false) := Lib.hid (by rw [hcons]; simp [nameIs, hl])
        clear hcons hl hlen hlr h0
        go_enter Try.func15, Try.ntmps15
        go_wp2_with (go_at_call 25; refine (HC.out _).mono ?_; rintro e w' ⟨rfl, rfl⟩)
        go_ret
        exact ⟨by rw [HV.out]; rfl, Kept.refl _ _⟩
      | true =>
        have HC : Hid (∀ W, Calls Try.prog 25 #[.int .u8 (s[0].toNat : Nat)] W fun e w' => e = .returned (.bool true) ∧ W = w') := Lib.hid (fun W => by rw [← hl]; exact letter_any _ W)
        have hr0 : Rdr (w.alloc (.cells #[.int .i64 1, .int .i64 1, .string s, .int .i64 0] 55)) w.heap.size s 0 := Cells.fresh w 55 [.int .i64 1, .int .i64 1, .string s, .int .i64 0]
        have HO := Lib.hid (off_aln w.heap.size s hs 0 (Nat.zero_le _) _ hr0)
        have HB := Lib.hid (begin_any s w)
        have HKW := Lib.hid (fun W => keyword_any s hs W)
        have hv : nameIs s.data.toList = (s.data.toList.all (fun b => alnB (b.toNat : Nat)) && !kwIs s.data.toList) := by
          conv => lhs; rw [hcons]
          rw [nameIs_cons, hl, hlr, decide_eq_true h16, ← hcons]
          simp
        have hq := runQ_all_iff alnB s.data.toList
        rw [hlen] at hq
        by_cases hall : runQ alnB s.data.toList = s.size
        · have hes : s.extract 0 (0 + runQ alnB (s.data.toList.drop 0)) = s := by
            rw [List.drop_zero, hall, Nat.zero_add]
            apply ByteArray.ext
            rw [ByteArray.data_extract]
            exact Array.extract_size
          have HV : Hid (nameIs s.data.toList = !kwIs s.data.toList) := Lib.hid (by rw [hv, hq.1 hall, Bool.true_and])
          have HES := Lib.hid hes
          clear hcons hl hlen hlr h0 hv hq hall hes
          go_enter Try.func15, Try.ntmps15
          go_wp2_with fail
          refine (HC.out _).mono ?_
          rintro e w' ⟨rfl, rfl⟩
          go_wp2_with fail
          refine HB.out.mono ?_
          rintro e w' ⟨rfl, rfl⟩
          go_wp2_with fail
          refine HO.out.mono ?_
          rintro e W1 ⟨rfl, _, hk1⟩
          rw [HES.out]
          have hkw := ((Kept.refl noX w).alloc (.cells #[.int .i64 1, .int .i64 1, .string s, .int .i64 0] 55)).join hk1 (fun i hi hlt => by omega)
          clear hk1
          go_wp2_with fail
          refine (HKW.out _).mono ?_
          rintro e W2 ⟨rfl, hk2⟩
          go_wp2
          go_ret
          exact ⟨by rw [HV.out]; rfl, hkw.trans hk2⟩
        · have hne : ((s.extract 0 (0 + runQ alnB (s.data.toList.drop 0))).toList == s.toList) = false := by
            rw [ByteArray.toList_eq, ByteArray.toList_eq, beq_eq_false_iff_ne]
            intro h
            have h2 := congrArg List.length h
            rw [extract_list, List.drop_zero, List.length_take, hlen] at h2
            have := runQ_le alnB s.data.toList
            omega
          have HV : Hid (nameIs s.data.toList = false) := Lib.hid (by
            rw [hv]
            have : s.data.toList.all (fun b => alnB (b.toNat : Nat)) = false := by
              rw [Bool.eq_false_iff]; intro h; exact hall (hq.2 h)
            rw [this, Bool.false_and])
          clear hcons hl hlen hlr h0 hv hq hall
          obtain ⟨x, hx⟩ : ∃ x, x = s.extract 0 (0 + runQ alnB (s.data.toList.drop 0)) := ⟨_, rfl⟩
          rw [← hx] at hne
          have HX := Lib.hid hx
          clear hx
          go_enter Try.func15, Try.ntmps15
          go_wp2_with fail
          refine (HC.out _).mono ?_
          rintro e w' ⟨rfl, rfl⟩
          go_wp2_with fail
          refine HB.out.mono ?_
          rintro e w' ⟨rfl, rfl⟩
          go_wp2_with fail
          refine HO.out.mono ?_
          rintro e W1 ⟨rfl, _, hk1⟩
          rw [← HX.out]
          have hkw := ((Kept.refl noX w).alloc (.cells #[.int .i64 1, .int .i64 1, .string s, .int .i64 0] 55)).join hk1 (fun i hi hlt => by omega)
          clear hk1
          go_wp2
          go_ret
          exact ⟨by rw [HV.out]; rfl, hkw⟩
    · have d16 : decide ((16 : Int) < (s.size : Int)) = true := by simp; omega
      have HV : Hid (nameIs s.data.toList = false) := Lib.hid (by
        rw [hcons, nameIs_cons, hlr, decide_eq_false h16]
        simp)
      clear hcons hlen hlr h0
      go_enter Try.func15, Try.ntmps15
      go_wp2
      go_ret
      exact ⟨by rw [HV.out]; rfl, Kept.refl _ _⟩

set_option maxRecDepth 100000 in
set_option maxHeartbeats 1000000 in
theorem rname_any (s : ByteArray) (hs : s.size ≤ 1000000) (w : World) : Calls Try.prog 16 #[.string s] w fun e w' => e = .returned (.bool (nameIs s.data.toList)) ∧ Kept noX w w' := by
  have hlen : s.data.toList.length = s.size := by simp
  by_cases h0 : s.size = 0
  · have hn : s.data.toList = [] := List.eq_nil_of_length_eq_zero (by omega)
    have HV : Hid (nameIs s.data.toList = false) := Lib.hid (by rw [hn]; rfl)
    have d1 : decide ((s.size : Int) < 1) = true := by simp; omega
    clear hn hlen h0
    go_enter Try.func16, Try.ntmps16
    go_wp2
    go_ret
    exact ⟨by rw [HV.out]; rfl, Kept.refl _ _⟩
  · have hpos : 0 < s.size := by omega
    have d1 : decide ((s.size : Int) < 1) = false := by simp; omega
    have hcons : s.data.toList = s[0] :: s.data.toList.drop 1 := by
      have := drop_zero' hpos
      rwa [List.drop_zero] at this
    have hlr : (s.data.toList.drop 1).length + 1 = s.size := by rw [List.length_drop, hlen]; omega
    by_cases h16 : s.size ≤ 16
    · have d16 : decide ((16 : Int) < (s.size : Int)) = false := by simp; omega
      cases hl : letB (s[0].toNat : Nat) with
      | false =>
        have HC : Hid (∀ W, Calls Try.prog 29 #[.int .u8 (s[0].toNat : Nat)] W fun e w' => e = .returned (.bool false) ∧ W = w') := Lib.hid (fun W => by rw [← hl]; exact rletter_any _ W)
        have HV : Hid (nameIs s.data.toList = false) := Lib.hid (by rw [hcons]; simp [nameIs, hl])
        clear hcons hl hlen hlr h0
        go_enter Try.func16, Try.ntmps16
        go_wp2_with (go_at_call 29; refine (HC.out _).mono ?_; rintro e w' ⟨rfl, rfl⟩)
        go_ret
        exact ⟨by rw [HV.out]; rfl, Kept.refl _ _⟩
      | true =>
        have HC : Hid (∀ W, Calls Try.prog 29 #[.int .u8 (s[0].toNat : Nat)] W fun e w' => e = .returned (.bool true) ∧ W = w') := Lib.hid (fun W => by rw [← hl]; exact rletter_any _ W)
        have hv : nameIs s.data.toList = (s.data.toList.all (fun b => alnB (b.toNat : Nat)) && !kwIs s.data.toList) := by
          conv => lhs; rw [hcons]
          rw [nameIs_cons, hl, hlr, decide_eq_true h16, ← hcons]
          simp
        cases hkw : kwIs s.data.toList with
        | true =>
          have HK : Hid (∀ W, Calls Try.prog 18 #[.string s] W fun e w' => e = .returned (.bool true) ∧ Kept noX W w') := Lib.hid (fun W => by rw [← hkw]; exact rkeyword_any s W)
          have HV : Hid (nameIs s.data.toList = false) := Lib.hid (by rw [hv, hkw]; simp)
          clear hcons hl hlen hlr h0 hv hkw
          go_enter Try.func16, Try.ntmps16
          go_wp2_with fail
          refine (HC.out _).mono ?_
          rintro e w' ⟨rfl, rfl⟩
          go_wp2_with fail
          refine (HK.out _).mono ?_
          rintro e W1 ⟨rfl, hk1⟩
          go_wp2
          go_ret
          exact ⟨by rw [HV.out]; rfl, hk1⟩
        | false =>
          have HK : Hid (∀ W, Calls Try.prog 18 #[.string s] W fun e w' => e = .returned (.bool false) ∧ Kept noX W w') := Lib.hid (fun W => by rw [← hkw]; exact rkeyword_any s W)
          have HVV : Hid (nameIs s.data.toList = s.data.toList.all (fun b => alnB (b.toNat : Nat))) := Lib.hid (by rw [hv, hkw]; simp)
          have HL := Lib.hid hlen
          clear hcons hl hlen hlr h0 hv hkw
          go_enter Try.func16, Try.ntmps16
          go_wp2_with fail
          refine (HC.out _).mono ?_
          rintro e w' ⟨rfl, rfl⟩
          go_wp2_with fail
          refine (HK.out _).mono ?_
          rintro e W1 ⟨rfl, hk1⟩
          go_wp2
          go_loop [3] (fun i => ∃ k : Nat, i = .int .i64 k ∧ k ≤ s.size ∧ (s.data.toList.take k).all (fun b => alnB (b.toNat : Nat)) = true) (fun i => s.size - (intOf i).toNat)
          case atStart => exact ⟨0, rfl, Nat.zero_le _, rfl⟩
          case round =>
            obtain ⟨k, rfl, hk, hall⟩ := hrel
            have HA := Lib.hid hall
            clear hall
            by_cases hlt : k < s.size
            · have hb0 : s.data.toList[k]? = some s[k] := byte_at hlt
              have HB0 := Lib.hid hb0
              clear hb0
              cases hl : letB (s[k].toNat : Nat) with
              | true =>
                have HC : Hid (∀ W, Calls Try.prog 29 #[.int .u8 (s[k].toNat : Nat)] W fun e w' => e = .returned (.bool true) ∧ W = w') := Lib.hid (fun W => by rw [← hl]; exact rletter_any _ W)
                have HX : Hid (alnB (s[k].toNat : Nat) = true) := Lib.hid (by simp [alnB, hl])
                clear hl
                go_wp2_with (go_at_call 29; refine (HC.out _).mono ?_; rintro e w' ⟨rfl, rfl⟩)
                go_round
                case rel =>
                  refine ⟨k + 1, by go_num, by omega, ?_⟩
                  rw [List.take_add_one, HB0.out, Option.toList_some, List.all_append, HA.out]
                  simpa using HX.out
                case measure => simp [intOf]; omega
              | false =>
                have HC : Hid (∀ W, Calls Try.prog 29 #[.int .u8 (s[k].toNat : Nat)] W fun e w' => e = .returned (.bool false) ∧ W = w') := Lib.hid (fun W => by rw [← hl]; exact rletter_any _ W)
                cases hdg : digB (s[k].toNat : Nat) with
                | true =>
                  have HC2 : Hid (∀ W, Calls Try.prog 30 #[.int .u8 (s[k].toNat : Nat)] W fun e w' => e = .returned (.bool true) ∧ W = w') := Lib.hid (fun W => by rw [← hdg]; exact rdigit_any _ W)
                  have HX : Hid (alnB (s[k].toNat : Nat) = true) := Lib.hid (by simp [alnB, hdg])
                  clear hl hdg
                  go_wp2_with (first | (go_at_call 29; refine (HC.out _).mono ?_; rintro e w' ⟨rfl, rfl⟩) | (go_at_call 30; refine (HC2.out _).mono ?_; rintro e w' ⟨rfl, rfl⟩))
                  go_round
                  case rel =>
                    refine ⟨k + 1, by go_num, by omega, ?_⟩
                    rw [List.take_add_one, HB0.out, Option.toList_some, List.all_append, HA.out]
                    simpa using HX.out
                  case measure => simp [intOf]; omega
                | false =>
                  have HC2 : Hid (∀ W, Calls Try.prog 30 #[.int .u8 (s[k].toNat : Nat)] W fun e w' => e = .returned (.bool false) ∧ W = w') := Lib.hid (fun W => by rw [← hdg]; exact rdigit_any _ W)
                  have HV : Hid (nameIs s.data.toList = false) := Lib.hid (by
                    rw [HVV.out, List.all_eq_false]
                    exact ⟨s[k], List.mem_of_getElem? HB0.out, by simp [alnB, hl, hdg]⟩)
                  clear hl hdg
                  go_wp2_with (first | (go_at_call 29; refine (HC.out _).mono ?_; rintro e w' ⟨rfl, rfl⟩) | (go_at_call 30; refine (HC2.out _).mono ?_; rintro e w' ⟨rfl, rfl⟩))
                  go_ret
                  exact ⟨by rw [HV.out]; rfl, hk1⟩
            · obtain rfl : k = s.size := by omega
              have HV : Hid (nameIs s.data.toList = true) := Lib.hid (by
                rw [HVV.out]
                have h := HA.out
                rwa [List.take_of_length_le (by rw [HL.out]; omega)] at h)
              go_wp2
              go_ret
              exact ⟨by rw [HV.out]; rfl, hk1⟩
    · have d16 : decide ((16 : Int) < (s.size : Int)) = true := by simp; omega
      have HV : Hid (nameIs s.data.toList = false) := Lib.hid (by
        rw [hcons, nameIs_cons, hlr, decide_eq_false h16]
        simp)
      clear hcons hlen hlr h0
      go_enter Try.func16, Try.ntmps16
      go_wp2
      go_ret
      exact ⟨by rw [HV.out]; rfl, Kept.refl _ _⟩

set_option maxRecDepth 100000 in
set_option maxHeartbeats 1000000 in
theorem lexNames_any (s : ByteArray) (w : World) : Calls Try.prog 5 #[.string s] w fun e w' => e = .returned (.bool true) ∧ Kept noX w w' := by
  by_cases hs : s.size ≤ 500
  · have hd : decide ((500 : Int) < (s.size : Int)) = false := by simp; omega
    have e1 : (nameIs s.data.toList == nameIs s.data.toList) = true := by simp
    have e2 : (kwIs s.data.toList == kwIs s.data.toList) = true := by simp
    go_enter Try.func5, Try.ntmps5
    go_wp2_with fail
    refine (name_any s (by omega) _).mono ?_
    rintro e W1 ⟨rfl, hk1⟩
    go_wp2_with fail
    refine (rname_any s (by omega) _).mono ?_
    rintro e W2 ⟨rfl, hk2⟩
    go_wp2_with fail
    refine (keyword_any s (by omega) _).mono ?_
    rintro e W3 ⟨rfl, hk3⟩
    go_wp2_with fail
    refine (rkeyword_any s _).mono ?_
    rintro e W4 ⟨rfl, hk4⟩
    have hk := ((hk1.trans hk2).trans hk3).trans hk4
    go_wp2_with (go_at_call 10; refine (works_any _).mono ?_; rintro e W5 ⟨rfl, hk5⟩)
    go_ret
    exact ⟨rfl, hk.trans hk5⟩
  · have hd : decide ((500 : Int) < (s.size : Int)) = true := by simp; omega
    go_enter Try.func5, Try.ntmps5
    go_wp2_with (go_at_call 10; refine (works_any _).mono ?_; rintro e W3 ⟨rfl, hk3⟩)
    go_ret
    exact ⟨rfl, hk3⟩
end Go.Proofs.Ythknjkmkhjjmmaa
