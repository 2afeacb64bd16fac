/- What the small functions of the document's answer for layer 1 do: its words, its signs, whether a text is a keyword, how many letters and digits stand there, what digits tell (conditions: the text is of at most 1000000 bytes). -/
import Derived.Test.YthknjkmkhjjmmaaWorks
namespace Go.Proofs.Ythknjkmkhjjmmaa
open Go.RowKit Go.Shelf

def sgR : List ByteArray := [⟨#[61, 61]⟩, ⟨#[33, 61]⟩, ⟨#[60, 61]⟩, ⟨#[38, 38]⟩, ⟨#[124, 124]⟩, ⟨#[59]⟩, ⟨#[40]⟩, ⟨#[41]⟩, ⟨#[123]⟩, ⟨#[125]⟩, ⟨#[91]⟩, ⟨#[93]⟩, ⟨#[61]⟩, ⟨#[60]⟩, ⟨#[43]⟩, ⟨#[45]⟩, ⟨#[42]⟩, ⟨#[47]⟩, ⟨#[37]⟩, ⟨#[33]⟩]

set_option maxRecDepth 100000 in
set_option maxHeartbeats 1000000 in
theorem rwords_any (w : World) : Calls Try.prog 21 #[] w fun e w' => e = .returned (.slice (some ⟨w.heap.size, 0, none⟩) 20 20) ∧ Cells w' w.heap.size 9 (kwB.map Value.string) ∧ Kept noX w w' := by
  have hc := Cells.fresh w 9 (kwB.map Value.string)
  go_enter Try.func21, Try.ntmps21
  go_wp2
  go_ret
  exact ⟨rfl, hc, (Kept.refl _ _).alloc _⟩

set_option maxRecDepth 100000 in
set_option maxHeartbeats 1000000 in
theorem rsigns_any (w : World) : Calls Try.prog 40 #[] w fun e w' => e = .returned (.slice (some ⟨w.heap.size, 0, none⟩) 20 20) ∧ Cells w' w.heap.size 9 (sgR.map Value.string) ∧ Kept noX w w' := by
  have hc := Cells.fresh w 9 (sgR.map Value.string)
  go_enter Try.func40, Try.ntmps40
  go_wp2
  go_ret
  exact ⟨rfl, hc, (Kept.refl _ _).alloc _⟩

theorem row_at {w : World} {g : Nat} {l : List ByteArray} (h : Cells w g 9 (l.map Value.string)) {k : Nat} (hk : k < l.length) : w.cell? ⟨g, k, none⟩ = some (.string l[k]) := by
  rw [h.cell k, List.getElem?_map, List.getElem?_eq_getElem hk]
  rfl

theorem toList_beq (a b : ByteArray) : (a.toList == b.toList) = decide (a.data.toList = b.data.toList) := by
  rw [ByteArray.toList_eq, ByteArray.toList_eq]
  by_cases h : a.data.toList = b.data.toList
  · simp [h]
  · rw [decide_eq_false h]
    exact beq_eq_false_iff_ne.2 h

def kwIs (s : List UInt8) : Bool := decide (s ∈ kwL)

set_option maxRecDepth 100000 in
set_option maxHeartbeats 1000000 in
theorem rkeyword_any (s : ByteArray) (w : World) : Calls Try.prog 18 #[.string s] w fun e w' => e = .returned (.bool (kwIs s.data.toList)) ∧ Kept noX w w' := by
  go_enter Try.func18, Try.ntmps18
  go_wp2_with fail
  refine (rwords_any w).mono ?_
  rintro e W1 ⟨rfl, hrow, hk1⟩
  go_wp2_with fail
  go_loop [4] (fun i => ∃ k : Nat, i = .int .i64 k ∧ k ≤ 20 ∧ s.data.toList ∉ kwL.take k) (fun i => 20 - (intOf i).toNat)
  case atStart => exact ⟨0, rfl, by omega, by simp⟩
  case round =>
    obtain ⟨k, rfl, hk, hn⟩ := hrel
    have HN := Lib.hid hn
    clear hn
    by_cases hlt : k < 20
    · have hc := row_at hrow (k := k) (by simpa [kwB] using hlt)
      have hkl : k < kwL.length := by simpa [kwL] using hlt
      have hkb : k < kwB.length := by simpa [kwB] using hlt
      have hd : kwB[k].data.toList = kwL[k] := by
        have := congrArg (fun l => l[k]?) kwB_L
        simp only [List.getElem?_map, List.getElem?_eq_getElem hkb, List.getElem?_eq_getElem hkl, Option.map_some, Option.some.injEq] at this
        exact this
      have HD := Lib.hid hd
      clear hd
      obtain ⟨b, hb⟩ : ∃ b, b = kwB[k] := ⟨_, rfl⟩
      rw [← hb] at hc
      have HB := Lib.hid hb
      clear hb hrow
      by_cases he : b.data.toList = s.data.toList
      · have te : (b.toList == s.toList) = true := by rw [toList_beq]; simpa using he
        have HY : Hid (kwIs s.data.toList = true) := Lib.hid (by
          unfold kwIs
          rw [decide_eq_true_iff, ← he, HB.out, HD.out]
          exact List.getElem_mem hkl)
        clear he
        go_wp2
        go_ret
        exact ⟨by rw [HY.out]; rfl, hk1⟩
      · have te : (b.toList == s.toList) = false := by rw [toList_beq]; simpa using he
        have HE := Lib.hid he
        clear he
        go_wp2
        go_round
        case rel =>
          refine ⟨k + 1, by go_num, by omega, ?_⟩
          rw [List.take_add_one, List.getElem?_eq_getElem hkl]
          simp only [Option.toList_some, List.mem_append, List.mem_singleton, not_or]
          refine ⟨HN.out, fun h => HE.out ?_⟩
          rw [HB.out, HD.out]
          exact h.symm
        case measure => simp [intOf]; omega
    · obtain rfl : k = 20 := by omega
      have HY : Hid (kwIs s.data.toList = false) := Lib.hid (by
        unfold kwIs
        rw [decide_eq_false_iff_not]
        exact HN.out)
      go_wp2
      go_ret
      exact ⟨by rw [HY.out]; rfl, hk1⟩

/-! ### run -/
theorem runQ_cons (q : Int → Bool) (b : UInt8) (l : List UInt8) : runQ q (b :: l) = if q (b.toNat : Nat) then runQ q l + 1 else 0 := rfl
theorem runQ_step {q : Int → Bool} {s : ByteArray} {k : Nat} (hk : k < s.size) : runQ q (s.data.toList.drop k) = if q (s[k].toNat : Nat) then runQ q (s.data.toList.drop (k + 1)) + 1 else 0 := by
  rw [List.drop_eq_getElem_cons (by simpa using hk), runQ_cons]
  rfl

set_option maxRecDepth 100000 in
set_option maxHeartbeats 1000000 in
theorem run_any (s : ByteArray) (hs : s.size ≤ 1000000) (i0 : Nat) (hi : i0 ≤ s.size) (w : World) :
    Calls Try.prog 38 #[.string s, .int .i64 i0] w fun e w' => e = .returned (.int .i64 (runQ alnB (s.data.toList.drop i0) : Nat)) ∧ Kept noX w w' := by
  go_enter Try.func38, Try.ntmps38
  go_wp2
  go_loop [5] (fun i => ∃ k : Nat, i = .int .i64 k ∧ i0 + k ≤ s.size ∧ runQ alnB (s.data.toList.drop i0) = k + runQ alnB (s.data.toList.drop (i0 + k))) (fun i => s.size - (intOf i).toNat)
  case atStart => exact ⟨0, rfl, by omega, by simp⟩
  case round =>
    obtain ⟨k, rfl, hk, he⟩ := hrel
    have HE := Lib.hid he
    clear he
    by_cases hlt : i0 + k < s.size
    · have hlt' : decide ((i0 : Int) + (k : Int) < (s.size : Int)) = true := by simp; omega
      have hst := runQ_step (q := alnB) hlt
      have HST := Lib.hid hst
      clear hst
      obtain ⟨x, hx⟩ : ∃ x : Int, x = (s[i0 + k].toNat : Nat) := ⟨_, rfl⟩
      cases hl : letB (s[i0 + k].toNat : Nat) with
      | true =>
        have HC : Hid (∀ W, Calls Try.prog 29 #[.int .u8 (s[i0 + k].toNat : Nat)] W fun e w' => e = .returned (.bool true) ∧ W = w') := Lib.hid (fun W => by rw [← hl]; exact rletter_any _ W)
        have HA : Hid (alnB (s[i0 + k].toNat : Nat) = true) := Lib.hid (by simp [alnB, hl])
        clear hl hx
        go_wp2_with (go_at_call 29; refine (HC.out _).mono ?_; rintro e w' ⟨rfl, rfl⟩)
        go_round
        case rel =>
          refine ⟨k + 1, by go_num, by omega, ?_⟩
          rw [HE.out, HST.out, if_pos HA.out, show i0 + (k + 1) = i0 + k + 1 from by omega]
          omega
        case measure => simp [intOf]; omega
      | false =>
        have HC : Hid (∀ W, Calls Try.prog 29 #[.int .u8 (s[i0 + k].toNat : Nat)] W fun e w' => e = .returned (.bool false) ∧ W = w') := Lib.hid (fun W => by rw [← hl]; exact rletter_any _ W)
        cases hdg : digB (s[i0 + k].toNat : Nat) with
        | true =>
          have HC2 : Hid (∀ W, Calls Try.prog 30 #[.int .u8 (s[i0 + k].toNat : Nat)] W fun e w' => e = .returned (.bool true) ∧ W = w') := Lib.hid (fun W => by rw [← hdg]; exact rdigit_any _ W)
          have HA : Hid (alnB (s[i0 + k].toNat : Nat) = true) := Lib.hid (by simp [alnB, hdg])
          clear hl hx hdg
          go_wp2_with (first | (go_at_call 29; refine (HC.out _).mono ?_; rintro e w' ⟨rfl, rfl⟩) | (go_at_call 30; refine (HC2.out _).mono ?_; rintro e w' ⟨rfl, rfl⟩))
          go_round
          case rel =>
            refine ⟨k + 1, by go_num, by omega, ?_⟩
            rw [HE.out, HST.out, if_pos HA.out, show i0 + (k + 1) = i0 + k + 1 from by omega]
            omega
          case measure => simp [intOf]; omega
        | false =>
          have HC2 : Hid (∀ W, Calls Try.prog 30 #[.int .u8 (s[i0 + k].toNat : Nat)] W fun e w' => e = .returned (.bool false) ∧ W = w') := Lib.hid (fun W => by rw [← hdg]; exact rdigit_any _ W)
          have HA : Hid (alnB (s[i0 + k].toNat : Nat) = false) := Lib.hid (by simp [alnB, hl, hdg])
          clear hl hx hdg
          go_wp2_with (first | (go_at_call 29; refine (HC.out _).mono ?_; rintro e w' ⟨rfl, rfl⟩) | (go_at_call 30; refine (HC2.out _).mono ?_; rintro e w' ⟨rfl, rfl⟩))
          go_ret
          refine ⟨?_, Kept.refl _ _⟩
          rw [HE.out, HST.out, HA.out]
          rfl
    · have hlt' : decide ((i0 : Int) + (k : Int) < (s.size : Int)) = false := by simp; omega
      have hdn : s.data.toList.drop (i0 + k) = [] := List.drop_eq_nil_of_le (by simp; omega)
      have HDN := Lib.hid hdn
      clear hdn
      go_wp2
      go_ret
      refine ⟨?_, Kept.refl _ _⟩
      rw [HE.out, HDN.out]
      rfl

/-! ### number -/
set_option maxRecDepth 100000 in
set_option maxHeartbeats 1000000 in
theorem rnumber_any (t : ByteArray) (hs : t.size ≤ 1000000) (h0 : 0 < t.size) (w : World) :
    Calls Try.prog 39 #[.string t] w fun e w' => (∃ x : Int, e = .returned (.tuple #[.int .i64 x, .bool (numOk t.data.toList)]) ∧ (numOk t.data.toList = true → x = numRes t.data.toList)) ∧ Kept noX w w' := by
  have hlen : t.data.toList.length = t.size := by simp
  have HL := Lib.hid hlen
  clear hlen
  go_enter Try.func39, Try.ntmps39
  go_wp2
  go_loop [4, 5] (fun n i => ∃ k : Nat, k ≤ t.size ∧ k ≤ 10 ∧ i = .int .i64 k ∧ n = .int .i64 (valF (t.data.toList.take k)) ∧ allDig (t.data.toList.take k) = true) (fun _ i => t.size - (intOf i).toNat)
  case atStart => exact ⟨0, Nat.zero_le _, by omega, rfl, rfl, rfl⟩
  case round =>
    obtain ⟨k, hk, hk10, rfl, rfl, hd⟩ := hrel
    have hv := valF_le (l := t.data.toList.take k) (by rw [List.length_take]; omega) hd
    have HD := Lib.hid hd
    clear hd
    by_cases hlt : k < t.size
    · have hb0 : t.data.toList[k]? = some t[k] := byte_at hlt
      have ht : t.data.toList.take (k + 1) = t.data.toList.take k ++ [t[k]] := by rw [List.take_add_one, hb0]; rfl
      have HT := Lib.hid ht
      have HB := Lib.hid hb0
      have hub : (t[k].toNat : Int) ≤ 255 := by have := t[k].toNat_lt; omega
      clear ht hb0
      cases hdk : digB (t[k].toNat : Int) with
      | true =>
        have hdr := (digB_iff _).1 hdk
        have HC : Hid (∀ W, Calls Try.prog 30 #[.int .u8 (t[k].toNat : Int)] W fun e w' => e = .returned (.bool true) ∧ W = w') := Lib.hid (fun W => by rw [← hdk]; exact rdigit_any _ W)
        have HDK := Lib.hid hdk
        have hv2 : 0 ≤ valF (t.data.toList.take k) * 10 ∧ valF (t.data.toList.take k) * 10 ≤ 99999999990 := by omega
        clear hdk
        by_cases hk9 : k ≤ 9
        · have hk9' : decide ((9 : Int) < (k : Int)) = false := by simp; omega
          go_wp2_with (go_at_call 30; refine (HC.out _).mono ?_; rintro e w' ⟨rfl, rfl⟩)
          go_round
          case rel =>
            refine ⟨k + 1, by omega, by omega, by go_num, ?_, ?_⟩
            · rw [HT.out, valF_snoc, Int.mul_comm]
            · have h1 := HD.out
              have h2 := HDK.out
              rw [HT.out]
              unfold allDig at h1 ⊢
              rw [List.all_append, h1]
              simpa using h2
          case measure => simp [intOf]; omega
        · have hk9' : decide ((9 : Int) < (k : Int)) = true := by simp; omega
          have HN : Hid (numOk t.data.toList = false) := Lib.hid (by unfold numOk; rw [HL.out]; simp; omega)
          go_wp2_with (go_at_call 30; refine (HC.out _).mono ?_; rintro e w' ⟨rfl, rfl⟩)
          go_ret2
          exact ⟨⟨_, by rw [HN.out]; rfl, fun h => by rw [HN.out] at h; cases h⟩, Kept.refl _ _⟩
      | false =>
        have HC : Hid (∀ W, Calls Try.prog 30 #[.int .u8 (t[k].toNat : Int)] W fun e w' => e = .returned (.bool false) ∧ W = w') := Lib.hid (fun W => by rw [← hdk]; exact rdigit_any _ W)
        have HN : Hid (numOk t.data.toList = false) := by
          have hall : allDig t.data.toList = false := by
            unfold allDig
            rw [List.all_eq_false]
            exact ⟨t[k], List.mem_of_getElem? HB.out, by simp [hdk]⟩
          exact Lib.hid (by simp [numOk, hall])
        clear hdk
        go_wp2_with (go_at_call 30; refine (HC.out _).mono ?_; rintro e w' ⟨rfl, rfl⟩)
        go_ret2
        exact ⟨⟨_, by rw [HN.out]; rfl, fun h => by rw [HN.out] at h; cases h⟩, Kept.refl _ _⟩
    · obtain rfl : k = t.size := by omega
      have hall : t.data.toList.take t.size = t.data.toList := List.take_of_length_le (by simp)
      rw [hall] at hv HD ⊢
      clear hall
      have hh : t.data.toList.head? = some t[0] := by
        rw [List.head?_eq_getElem?]
        exact byte_at h0
      have HH := Lib.hid hh
      clear hh
      by_cases hmax : valF t.data.toList ≤ 2147483647
      · have dmax : decide (valF t.data.toList ≤ 2147483647) = true := by simpa using hmax
        by_cases h1 : t.size = 1
        · have t1 : ((t.size : Int) == 1) = true := by rw [h1]; rfl
          have HN : Hid (numOk t.data.toList = true) := Lib.hid (by
            have h2 := HD.out
            unfold numOk
            rw [h2, HL.out, h1]
            simp [hmax])
          clear h1
          go_wp2_with fail
          go_quiet (fail)
          go_wp2
          go_ret2
          exact ⟨⟨_, by rw [HN.out]; rfl, fun _ => (numRes_yes HN.out).symm⟩, (Kept.refl _ _).drewN _⟩
        · have t1 : ((t.size : Int) == 1) = false := by rw [beq_eq_false_iff_ne]; intro hh; apply h1; omega
          by_cases h48 : t[0] = 48
          · have t48 : ((t[0].toNat : Int) != 48) = false := by rw [h48]; rfl
            have HN : Hid (numOk t.data.toList = false) := Lib.hid (by
              unfold numOk
              rw [HL.out, HH.out, h48]
              simp
              omega)
            clear h1 h48
            go_wp2_with fail
            go_quiet (fail)
            go_wp2
            go_ret2
            exact ⟨⟨_, by rw [HN.out]; rfl, fun h => by rw [HN.out] at h; cases h⟩, (Kept.refl _ _).drewN _⟩
          · have t48 : ((t[0].toNat : Int) != 48) = true := by
              rw [bne_iff_ne]; intro hh; apply h48; apply UInt8.toNat_inj.1; show _ = 48; omega
            have HN : Hid (numOk t.data.toList = true) := Lib.hid (by
              have h2 := HD.out
              unfold numOk
              rw [h2, HL.out, HH.out]
              simp [hmax, h48, hk10])
            clear h1 h48
            go_wp2_with fail
            go_quiet (fail)
            go_wp2
            go_ret2
            exact ⟨⟨_, by rw [HN.out]; rfl, fun _ => (numRes_yes HN.out).symm⟩, (Kept.refl _ _).drewN _⟩
      · have dmax : decide (valF t.data.toList ≤ 2147483647) = false := by simpa using hmax
        have HN : Hid (numOk t.data.toList = false) := Lib.hid (by unfold numOk; simp [hmax])
        go_wp2_with fail
        go_quiet (fail)
        go_wp2
        go_ret2
        exact ⟨⟨_, by rw [HN.out]; rfl, fun h => by rw [HN.out] at h; cases h⟩, (Kept.refl _ _).drewN _⟩
end Go.Proofs.Ythknjkmkhjjmmaa
