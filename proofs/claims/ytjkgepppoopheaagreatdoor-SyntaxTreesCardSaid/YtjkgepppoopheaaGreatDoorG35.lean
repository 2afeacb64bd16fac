/- What the document's Name answers (conditions: none but that a text fits an int). -/
import Derived.Test.YtjkgepppoopheaaGreatDoorG12
namespace Go.Proofs.YtjkgepppoopheaaGreatDoor
open Go.RowKit Go.Shelf

set_option maxRecDepth 100000 in
set_option maxHeartbeats 1000000 in
theorem rname_any (s : ByteArray) (hs : s.size ≤ 9223372036854775807) (w : World) : Calls Tryz.prog 47 #[.string s] w fun e w' => e = .returned (.bool (nameIs s.data.toList)) ∧ Kept noX w w' := by
  have hlen : s.data.toList.length = s.size := by simp
  by_cases h0 : s.size = 0
  · have hn : s.data.toList = [] := List.eq_nil_of_length_eq_zero (by omega)
    have HV : Hid (nameIs s.data.toList = false) := Lib.hid (by rw [hn]; rfl)
    have d1 : decide ((s.size : Int) < 1) = true := by simp; omega
    clear hn hlen h0
    go_enter Tryz.func47, Tryz.ntmps47
    go_wp2
    go_ret
    exact ⟨by rw [HV.out]; rfl, Kept.refl _ _⟩
  · have hpos : 0 < s.size := by omega
    have d1 : decide ((s.size : Int) < 1) = false := by simp; omega
    have hcons : s.data.toList = s[0] :: s.data.toList.drop 1 := by
      have := drop_zero' hpos
      rwa [List.drop_zero] at this
    have hlr : (s.data.toList.drop 1).length + 1 = s.size := by rw [List.length_drop, hlen]; omega
    by_cases h16 : s.size ≤ 16
    · replace hs : s.size ≤ 1000000 := by omega
      have d16 : decide ((16 : Int) < (s.size : Int)) = false := by simp; omega
      cases hl : letB (s[0].toNat : Nat) with
      | false =>
        have HC : Hid (∀ W, Calls Tryz.prog 92 #[.int .u8 (s[0].toNat : Nat)] W fun e w' => e = .returned (.bool false) ∧ W = w') := Lib.hid (fun W => by rw [← hl]; exact rletter_any _ W)
        have HV : Hid (nameIs s.data.toList = false) := Lib.hid (by rw [hcons]; simp [nameIs, hl])
        clear hcons hl hlen hlr h0
        go_enter Tryz.func47, Tryz.ntmps47
        go_wp2_with (go_at_call 92; refine (HC.out _).mono ?_; rintro e w' ⟨rfl, rfl⟩)
        go_ret
        exact ⟨by rw [HV.out]; rfl, Kept.refl _ _⟩
      | true =>
        have HC : Hid (∀ W, Calls Tryz.prog 92 #[.int .u8 (s[0].toNat : Nat)] W fun e w' => e = .returned (.bool true) ∧ W = w') := Lib.hid (fun W => by rw [← hl]; exact rletter_any _ W)
        have hv : nameIs s.data.toList = (s.data.toList.all (fun b => alnB (b.toNat : Nat)) && !kwIs s.data.toList) := by
          conv => lhs; rw [hcons]
          rw [nameIs_cons, hl, hlr, decide_eq_true h16, ← hcons]
          simp
        cases hkw : kwIs s.data.toList with
        | true =>
          have HK : Hid (∀ W, Calls Tryz.prog 93 #[.string s] W fun e w' => e = .returned (.bool true) ∧ Kept noX W w') := Lib.hid (fun W => by rw [← hkw]; exact rkeyword_any s W)
          have HV : Hid (nameIs s.data.toList = false) := Lib.hid (by rw [hv, hkw]; simp)
          clear hcons hl hlen hlr h0 hv hkw
          go_enter Tryz.func47, Tryz.ntmps47
          go_wp2_with fail
          refine (HC.out _).mono ?_
          rintro e w' ⟨rfl, rfl⟩
          go_wp2_with fail
          refine (HK.out _).mono ?_
          rintro e W1 ⟨rfl, hk1⟩
          go_wp2
          go_ret
          exact ⟨by rw [HV.out]; rfl, hk1⟩
        | false =>
          have HK : Hid (∀ W, Calls Tryz.prog 93 #[.string s] W fun e w' => e = .returned (.bool false) ∧ Kept noX W w') := Lib.hid (fun W => by rw [← hkw]; exact rkeyword_any s W)
          have HVV : Hid (nameIs s.data.toList = s.data.toList.all (fun b => alnB (b.toNat : Nat))) := Lib.hid (by rw [hv, hkw]; simp)
          have HL := Lib.hid hlen
          clear hcons hl hlen hlr h0 hv hkw
          go_enter Tryz.func47, Tryz.ntmps47
          go_wp2_with fail
          refine (HC.out _).mono ?_
          rintro e w' ⟨rfl, rfl⟩
          go_wp2_with fail
          refine (HK.out _).mono ?_
          rintro e W1 ⟨rfl, hk1⟩
          go_wp2
          go_loop [3] (fun i => ∃ k : Nat, i = .int .i64 k ∧ k ≤ s.size ∧ (s.data.toList.take k).all (fun b => alnB (b.toNat : Nat)) = true) (fun i => s.size - (intOf i).toNat)
          case atStart => exact ⟨0, rfl, Nat.zero_le _, rfl⟩
          case round =>
            obtain ⟨k, rfl, hk, hall⟩ := hrel
            have HA := Lib.hid hall
            clear hall
            by_cases hlt : k < s.size
            · have hb0 : s.data.toList[k]? = some s[k] := byte_at hlt
              have HB0 := Lib.hid hb0
              clear hb0
              cases hl : letB (s[k].toNat : Nat) with
              | true =>
                have HC : Hid (∀ W, Calls Tryz.prog 92 #[.int .u8 (s[k].toNat : Nat)] W fun e w' => e = .returned (.bool true) ∧ W = w') := Lib.hid (fun W => by rw [← hl]; exact rletter_any _ W)
                have HX : Hid (alnB (s[k].toNat : Nat) = true) := Lib.hid (by simp [alnB, hl])
                clear hl
                go_wp2_with (go_at_call 92; refine (HC.out _).mono ?_; rintro e w' ⟨rfl, rfl⟩)
                go_round
                case rel =>
                  refine ⟨k + 1, by go_num, by omega, ?_⟩
                  rw [List.take_add_one, HB0.out, Option.toList_some, List.all_append, HA.out]
                  simpa using HX.out
                case measure => simp [intOf]; omega
              | false =>
                have HC : Hid (∀ W, Calls Tryz.prog 92 #[.int .u8 (s[k].toNat : Nat)] W fun e w' => e = .returned (.bool false) ∧ W = w') := Lib.hid (fun W => by rw [← hl]; exact rletter_any _ W)
                cases hdg : digB (s[k].toNat : Nat) with
                | true =>
                  have HC2 : Hid (∀ W, Calls Tryz.prog 94 #[.int .u8 (s[k].toNat : Nat)] W fun e w' => e = .returned (.bool true) ∧ W = w') := Lib.hid (fun W => by rw [← hdg]; exact rdigit_any _ W)
                  have HX : Hid (alnB (s[k].toNat : Nat) = true) := Lib.hid (by simp [alnB, hdg])
                  clear hl hdg
                  go_wp2_with (first | (go_at_call 92; refine (HC.out _).mono ?_; rintro e w' ⟨rfl, rfl⟩) | (go_at_call 94; refine (HC2.out _).mono ?_; rintro e w' ⟨rfl, rfl⟩))
                  go_round
                  case rel =>
                    refine ⟨k + 1, by go_num, by omega, ?_⟩
                    rw [List.take_add_one, HB0.out, Option.toList_some, List.all_append, HA.out]
                    simpa using HX.out
                  case measure => simp [intOf]; omega
                | false =>
                  have HC2 : Hid (∀ W, Calls Tryz.prog 94 #[.int .u8 (s[k].toNat : Nat)] W fun e w' => e = .returned (.bool false) ∧ W = w') := Lib.hid (fun W => by rw [← hdg]; exact rdigit_any _ W)
                  have HV : Hid (nameIs s.data.toList = false) := Lib.hid (by
                    rw [HVV.out, List.all_eq_false]
                    exact ⟨s[k], List.mem_of_getElem? HB0.out, by simp [alnB, hl, hdg]⟩)
                  clear hl hdg
                  go_wp2_with (first | (go_at_call 92; refine (HC.out _).mono ?_; rintro e w' ⟨rfl, rfl⟩) | (go_at_call 94; refine (HC2.out _).mono ?_; rintro e w' ⟨rfl, rfl⟩))
                  go_ret
                  exact ⟨by rw [HV.out]; rfl, hk1⟩
            · obtain rfl : k = s.size := by omega
              have HV : Hid (nameIs s.data.toList = true) := Lib.hid (by
                rw [HVV.out]
                have h := HA.out
                rwa [List.take_of_length_le (by rw [HL.out]; omega)] at h)
              go_wp2
              go_ret
              exact ⟨by rw [HV.out]; rfl, hk1⟩
    · have d16 : decide ((16 : Int) < (s.size : Int)) = true := by simp; omega
      have HV : Hid (nameIs s.data.toList = false) := Lib.hid (by
        rw [hcons, nameIs_cons, hlr, decide_eq_false h16]
        simp)
      clear hcons hlen hlr h0
      go_enter Tryz.func47, Tryz.ntmps47
      go_wp2
      go_ret
      exact ⟨by rw [HV.out]; rfl, Kept.refl _ _⟩
end Go.Proofs.YtjkgepppoopheaaGreatDoor
