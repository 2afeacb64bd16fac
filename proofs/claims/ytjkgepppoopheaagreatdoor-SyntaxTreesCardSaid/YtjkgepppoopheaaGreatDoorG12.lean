/- The project's printer of expressions: what it writes, and a cell's text (conditions: the text is of at most 2^46 bytes; the tables stand; the expression is one that may be). -/
import Derived.Test.YtjkgepppoopheaaGreatDoorG11
import Derived.Test.YtjkgepppoopheaaGreatDoorG2
import Derived.Test.YtjkgepppoopheaaGreatDoorG8
namespace Go.Proofs.YtjkgepppoopheaaGreatDoor
open Go.RowKit Go.Shelf

def sgR : List ByteArray := [⟨#[61, 61]⟩, ⟨#[33, 61]⟩, ⟨#[60, 61]⟩, ⟨#[38, 38]⟩, ⟨#[124, 124]⟩, ⟨#[59]⟩, ⟨#[40]⟩, ⟨#[41]⟩, ⟨#[123]⟩, ⟨#[125]⟩, ⟨#[91]⟩, ⟨#[93]⟩, ⟨#[61]⟩, ⟨#[60]⟩, ⟨#[43]⟩, ⟨#[45]⟩, ⟨#[42]⟩, ⟨#[47]⟩, ⟨#[37]⟩, ⟨#[33]⟩]

set_option maxHeartbeats 400000 in
theorem rletter_any (x : Int) (w : World) :
    Calls Tryz.prog 92 #[.int .u8 x] w fun e w' => e = .returned (.bool (letB x)) ∧ w = w' := by
  go_enter Tryz.func92, Tryz.ntmps92
  go_wp2
  all_goals go_ret
  all_goals exact ⟨by simp [letB]; try omega, rfl⟩

set_option maxHeartbeats 400000 in
theorem rdigit_any (x : Int) (w : World) :
    Calls Tryz.prog 94 #[.int .u8 x] w fun e w' => e = .returned (.bool (digB x)) ∧ w = w' := by
  go_enter Tryz.func94, Tryz.ntmps94
  go_wp2
  all_goals go_ret
  all_goals exact ⟨by simp [digB]; try omega, rfl⟩

set_option maxRecDepth 100000 in
set_option maxHeartbeats 1000000 in
theorem rwords_any (w : World) : Calls Tryz.prog 142 #[] w fun e w' => e = .returned (.slice (some ⟨w.heap.size, 0, none⟩) 20 20) ∧ Cells w' w.heap.size 9 (kwB.map Value.string) ∧ Kept noX w w' := by
  have hc := Cells.fresh w 9 (kwB.map Value.string)
  go_enter Tryz.func142, Tryz.ntmps142
  go_wp2
  go_ret
  exact ⟨rfl, hc, (Kept.refl _ _).alloc _⟩

set_option maxRecDepth 100000 in
set_option maxHeartbeats 1000000 in
theorem rsigns_any (w : World) : Calls Tryz.prog 137 #[] w fun e w' => e = .returned (.slice (some ⟨w.heap.size, 0, none⟩) 20 20) ∧ Cells w' w.heap.size 9 (sgR.map Value.string) ∧ Kept noX w w' := by
  have hc := Cells.fresh w 9 (sgR.map Value.string)
  go_enter Tryz.func137, Tryz.ntmps137
  go_wp2
  go_ret
  exact ⟨rfl, hc, (Kept.refl _ _).alloc _⟩

theorem row_at {w : World} {g : Nat} {l : List ByteArray} (h : Cells w g 9 (l.map Value.string)) {k : Nat} (hk : k < l.length) : w.cell? ⟨g, k, none⟩ = some (.string l[k]) := by
  rw [h.cell k, List.getElem?_map, List.getElem?_eq_getElem hk]
  rfl

theorem toList_beq (a b : ByteArray) : (a.toList == b.toList) = decide (a.data.toList = b.data.toList) := by
  rw [ByteArray.toList_eq, ByteArray.toList_eq]
  by_cases h : a.data.toList = b.data.toList
  · simp [h]
  · rw [decide_eq_false h]
    exact beq_eq_false_iff_ne.2 h

def kwIs (s : List UInt8) : Bool := decide (s ∈ kwL)

set_option maxRecDepth 100000 in
set_option maxHeartbeats 1000000 in
theorem rkeyword_any (s : ByteArray) (w : World) : Calls Tryz.prog 93 #[.string s] w fun e w' => e = .returned (.bool (kwIs s.data.toList)) ∧ Kept noX w w' := by
  go_enter Tryz.func93, Tryz.ntmps93
  go_wp2_with fail
  refine (rwords_any w).mono ?_
  rintro e W1 ⟨rfl, hrow, hk1⟩
  go_wp2_with fail
  go_loop [4] (fun i => ∃ k : Nat, i = .int .i64 k ∧ k ≤ 20 ∧ s.data.toList ∉ kwL.take k) (fun i => 20 - (intOf i).toNat)
  case atStart => exact ⟨0, rfl, by omega, by simp⟩
  case round =>
    obtain ⟨k, rfl, hk, hn⟩ := hrel
    have HN := Lib.hid hn
    clear hn
    by_cases hlt : k < 20
    · have hc := row_at hrow (k := k) (by simpa [kwB] using hlt)
      have hkl : k < kwL.length := by simpa [kwL] using hlt
      have hkb : k < kwB.length := by simpa [kwB] using hlt
      have hd : kwB[k].data.toList = kwL[k] := by
        have := congrArg (fun l => l[k]?) kwB_L
        simp only [List.getElem?_map, List.getElem?_eq_getElem hkb, List.getElem?_eq_getElem hkl, Option.map_some, Option.some.injEq] at this
        exact this
      have HD := Lib.hid hd
      clear hd
      obtain ⟨b, hb⟩ : ∃ b, b = kwB[k] := ⟨_, rfl⟩
      rw [← hb] at hc
      have HB := Lib.hid hb
      clear hb hrow
      by_cases he : b.data.toList = s.data.toList
      · have te : (b.toList == s.toList) = true := by rw [toList_beq]; simpa using he
        have HY : Hid (kwIs s.data.toList = true) := Lib.hid (by
          unfold kwIs
          rw [decide_eq_true_iff, ← he, HB.out, HD.out]
          exact List.getElem_mem hkl)
        clear he
        go_wp2
        go_ret
        exact ⟨by rw [HY.out]; rfl, hk1⟩
      · have te : (b.toList == s.toList) = false := by rw [toList_beq]; simpa using he
        have HE := Lib.hid he
        clear he
        go_wp2
        go_round
        case rel =>
          refine ⟨k + 1, by go_num, by omega, ?_⟩
          rw [List.take_add_one, List.getElem?_eq_getElem hkl]
          simp only [Option.toList_some, List.mem_append, List.mem_singleton, not_or]
          refine ⟨HN.out, fun h => HE.out ?_⟩
          rw [HB.out, HD.out]
          exact h.symm
        case measure => simp [intOf]; omega
    · obtain rfl : k = 20 := by omega
      have HY : Hid (kwIs s.data.toList = false) := Lib.hid (by
        unfold kwIs
        rw [decide_eq_false_iff_not]
        exact HN.out)
      go_wp2
      go_ret
      exact ⟨by rw [HY.out]; rfl, hk1⟩

/-! ### run -/
theorem runQ_step {q : Int → Bool} {s : ByteArray} {k : Nat} (hk : k < s.size) : runQ q (s.data.toList.drop k) = if q (s[k].toNat : Nat) then runQ q (s.data.toList.drop (k + 1)) + 1 else 0 := by
  rw [List.drop_eq_getElem_cons (by simpa using hk), runQ_cons]
  rfl

set_option maxRecDepth 100000 in
set_option maxHeartbeats 1000000 in
theorem run_any (s : ByteArray) (hs : s.size ≤ 1000000) (i0 : Nat) (hi : i0 ≤ s.size) (w : World) :
    Calls Tryz.prog 135 #[.string s, .int .i64 i0] w fun e w' => e = .returned (.int .i64 (runQ alnB (s.data.toList.drop i0) : Nat)) ∧ Kept noX w w' := by
  go_enter Tryz.func135, Tryz.ntmps135
  go_wp2
  go_loop [5] (fun i => ∃ k : Nat, i = .int .i64 k ∧ i0 + k ≤ s.size ∧ runQ alnB (s.data.toList.drop i0) = k + runQ alnB (s.data.toList.drop (i0 + k))) (fun i => s.size - (intOf i).toNat)
  case atStart => exact ⟨0, rfl, by omega, by simp⟩
  case round =>
    obtain ⟨k, rfl, hk, he⟩ := hrel
    have HE := Lib.hid he
    clear he
    by_cases hlt : i0 + k < s.size
    · have hlt' : decide ((i0 : Int) + (k : Int) < (s.size : Int)) = true := by simp; omega
      have hst := runQ_step (q := alnB) hlt
      have HST := Lib.hid hst
      clear hst
      obtain ⟨x, hx⟩ : ∃ x : Int, x = (s[i0 + k].toNat : Nat) := ⟨_, rfl⟩
      cases hl : letB (s[i0 + k].toNat : Nat) with
      | true =>
        have HC : Hid (∀ W, Calls Tryz.prog 92 #[.int .u8 (s[i0 + k].toNat : Nat)] W fun e w' => e = .returned (.bool true) ∧ W = w') := Lib.hid (fun W => by rw [← hl]; exact rletter_any _ W)
        have HA : Hid (alnB (s[i0 + k].toNat : Nat) = true) := Lib.hid (by simp [alnB, hl])
        clear hl hx
        go_wp2_with (go_at_call 92; refine (HC.out _).mono ?_; rintro e w' ⟨rfl, rfl⟩)
        go_round
        case rel =>
          refine ⟨k + 1, by go_num, by omega, ?_⟩
          rw [HE.out, HST.out, if_pos HA.out, show i0 + (k + 1) = i0 + k + 1 from by omega]
          omega
        case measure => simp [intOf]; omega
      | false =>
        have HC : Hid (∀ W, Calls Tryz.prog 92 #[.int .u8 (s[i0 + k].toNat : Nat)] W fun e w' => e = .returned (.bool false) ∧ W = w') := Lib.hid (fun W => by rw [← hl]; exact rletter_any _ W)
        cases hdg : digB (s[i0 + k].toNat : Nat) with
        | true =>
          have HC2 : Hid (∀ W, Calls Tryz.prog 94 #[.int .u8 (s[i0 + k].toNat : Nat)] W fun e w' => e = .returned (.bool true) ∧ W = w') := Lib.hid (fun W => by rw [← hdg]; exact rdigit_any _ W)
          have HA : Hid (alnB (s[i0 + k].toNat : Nat) = true) := Lib.hid (by simp [alnB, hdg])
          clear hl hx hdg
          go_wp2_with (first | (go_at_call 92; refine (HC.out _).mono ?_; rintro e w' ⟨rfl, rfl⟩) | (go_at_call 94; refine (HC2.out _).mono ?_; rintro e w' ⟨rfl, rfl⟩))
          go_round
          case rel =>
            refine ⟨k + 1, by go_num, by omega, ?_⟩
            rw [HE.out, HST.out, if_pos HA.out, show i0 + (k + 1) = i0 + k + 1 from by omega]
            omega
          case measure => simp [intOf]; omega
        | false =>
          have HC2 : Hid (∀ W, Calls Tryz.prog 94 #[.int .u8 (s[i0 + k].toNat : Nat)] W fun e w' => e = .returned (.bool false) ∧ W = w') := Lib.hid (fun W => by rw [← hdg]; exact rdigit_any _ W)
          have HA : Hid (alnB (s[i0 + k].toNat : Nat) = false) := Lib.hid (by simp [alnB, hl, hdg])
          clear hl hx hdg
          go_wp2_with (first | (go_at_call 92; refine (HC.out _).mono ?_; rintro e w' ⟨rfl, rfl⟩) | (go_at_call 94; refine (HC2.out _).mono ?_; rintro e w' ⟨rfl, rfl⟩))
          go_ret
          refine ⟨?_, Kept.refl _ _⟩
          rw [HE.out, HST.out, HA.out]
          rfl
    · have hlt' : decide ((i0 : Int) + (k : Int) < (s.size : Int)) = false := by simp; omega
      have hdn : s.data.toList.drop (i0 + k) = [] := List.drop_eq_nil_of_le (by simp; omega)
      have HDN := Lib.hid hdn
      clear hdn
      go_wp2
      go_ret
      refine ⟨?_, Kept.refl _ _⟩
      rw [HE.out, HDN.out]
      rfl

/-! ### number -/
set_option maxRecDepth 100000 in
set_option maxHeartbeats 1000000 in
theorem rnumber_any (t : ByteArray) (hs : t.size ≤ 1000000) (h0 : 0 < t.size) (w : World) :
    Calls Tryz.prog 136 #[.string t] w fun e w' => (∃ x : Int, e = .returned (.tuple #[.int .i64 x, .bool (numOk t.data.toList)]) ∧ (numOk t.data.toList = true → x = numRes t.data.toList)) ∧ Kept noX w w' := by
  have hlen : t.data.toList.length = t.size := by simp
  have HL := Lib.hid hlen
  clear hlen
  go_enter Tryz.func136, Tryz.ntmps136
  go_wp2
  go_loop [4, 5] (fun n i => ∃ k : Nat, k ≤ t.size ∧ k ≤ 10 ∧ i = .int .i64 k ∧ n = .int .i64 (valF (t.data.toList.take k)) ∧ allDig (t.data.toList.take k) = true) (fun _ i => t.size - (intOf i).toNat)
  case atStart => exact ⟨0, Nat.zero_le _, by omega, rfl, rfl, rfl⟩
  case round =>
    obtain ⟨k, hk, hk10, rfl, rfl, hd⟩ := hrel
    have hv := valF_le (l := t.data.toList.take k) (by rw [List.length_take]; omega) hd
    have HD := Lib.hid hd
    clear hd
    by_cases hlt : k < t.size
    · have hb0 : t.data.toList[k]? = some t[k] := byte_at hlt
      have ht : t.data.toList.take (k + 1) = t.data.toList.take k ++ [t[k]] := by rw [List.take_add_one, hb0]; rfl
      have HT := Lib.hid ht
      have HB := Lib.hid hb0
      have hub : (t[k].toNat : Int) ≤ 255 := by have := t[k].toNat_lt; omega
      clear ht hb0
      cases hdk : digB (t[k].toNat : Int) with
      | true =>
        have hdr := (digB_iff _).1 hdk
        have HC : Hid (∀ W, Calls Tryz.prog 94 #[.int .u8 (t[k].toNat : Int)] W fun e w' => e = .returned (.bool true) ∧ W = w') := Lib.hid (fun W => by rw [← hdk]; exact rdigit_any _ W)
        have HDK := Lib.hid hdk
        have hv2 : 0 ≤ valF (t.data.toList.take k) * 10 ∧ valF (t.data.toList.take k) * 10 ≤ 99999999990 := by omega
        clear hdk
        by_cases hk9 : k ≤ 9
        · have hk9' : decide ((9 : Int) < (k : Int)) = false := by simp; omega
          go_wp2_with (go_at_call 94; refine (HC.out _).mono ?_; rintro e w' ⟨rfl, rfl⟩)
          go_round
          case rel =>
            refine ⟨k + 1, by omega, by omega, by go_num, ?_, ?_⟩
            · rw [HT.out, valF_snoc, Int.mul_comm]
            · have h1 := HD.out
              have h2 := HDK.out
              rw [HT.out]
              unfold allDig at h1 ⊢
              rw [List.all_append, h1]
              simpa using h2
          case measure => simp [intOf]; omega
        · have hk9' : decide ((9 : Int) < (k : Int)) = true := by simp; omega
          have HN : Hid (numOk t.data.toList = false) := Lib.hid (by unfold numOk; rw [HL.out]; simp; omega)
          go_wp2_with (go_at_call 94; refine (HC.out _).mono ?_; rintro e w' ⟨rfl, rfl⟩)
          go_ret2
          exact ⟨⟨_, by rw [HN.out]; rfl, fun h => by rw [HN.out] at h; cases h⟩, Kept.refl _ _⟩
      | false =>
        have HC : Hid (∀ W, Calls Tryz.prog 94 #[.int .u8 (t[k].toNat : Int)] W fun e w' => e = .returned (.bool false) ∧ W = w') := Lib.hid (fun W => by rw [← hdk]; exact rdigit_any _ W)
        have HN : Hid (numOk t.data.toList = false) := by
          have hall : allDig t.data.toList = false := by
            unfold allDig
            rw [List.all_eq_false]
            exact ⟨t[k], List.mem_of_getElem? HB.out, by simp [hdk]⟩
          exact Lib.hid (by simp [numOk, hall])
        clear hdk
        go_wp2_with (go_at_call 94; refine (HC.out _).mono ?_; rintro e w' ⟨rfl, rfl⟩)
        go_ret2
        exact ⟨⟨_, by rw [HN.out]; rfl, fun h => by rw [HN.out] at h; cases h⟩, Kept.refl _ _⟩
    · obtain rfl : k = t.size := by omega
      have hall : t.data.toList.take t.size = t.data.toList := List.take_of_length_le (by simp)
      rw [hall] at hv HD ⊢
      clear hall
      have hh : t.data.toList.head? = some t[0] := by
        rw [List.head?_eq_getElem?]
        exact byte_at h0
      have HH := Lib.hid hh
      clear hh
      by_cases hmax : valF t.data.toList ≤ 2147483647
      · have dmax : decide (valF t.data.toList ≤ 2147483647) = true := by simpa using hmax
        by_cases h1 : t.size = 1
        · have t1 : ((t.size : Int) == 1) = true := by rw [h1]; rfl
          have HN : Hid (numOk t.data.toList = true) := Lib.hid (by
            have h2 := HD.out
            unfold numOk
            rw [h2, HL.out, h1]
            simp [hmax])
          clear h1
          go_wp2_with fail
          go_quiet (fail)
          go_wp2
          go_ret2
          exact ⟨⟨_, by rw [HN.out]; rfl, fun _ => (numRes_yes HN.out).symm⟩, (Kept.refl _ _).drewN _⟩
        · have t1 : ((t.size : Int) == 1) = false := by rw [beq_eq_false_iff_ne]; intro hh; apply h1; omega
          by_cases h48 : t[0] = 48
          · have t48 : ((t[0].toNat : Int) != 48) = false := by rw [h48]; rfl
            have HN : Hid (numOk t.data.toList = false) := Lib.hid (by
              unfold numOk
              rw [HL.out, HH.out, h48]
              simp
              omega)
            clear h1 h48
            go_wp2_with fail
            go_quiet (fail)
            go_wp2
            go_ret2
            exact ⟨⟨_, by rw [HN.out]; rfl, fun h => by rw [HN.out] at h; cases h⟩, (Kept.refl _ _).drewN _⟩
          · have t48 : ((t[0].toNat : Int) != 48) = true := by
              rw [bne_iff_ne]; intro hh; apply h48; apply UInt8.toNat_inj.1; show _ = 48; omega
            have HN : Hid (numOk t.data.toList = true) := Lib.hid (by
              have h2 := HD.out
              unfold numOk
              rw [h2, HL.out, HH.out]
              simp [hmax, h48, hk10])
            clear h1 h48
            go_wp2_with fail
            go_quiet (fail)
            go_wp2
            go_ret2
            exact ⟨⟨_, by rw [HN.out]; rfl, fun _ => (numRes_yes HN.out).symm⟩, (Kept.refl _ _).drewN _⟩
      · have dmax : decide (valF t.data.toList ≤ 2147483647) = false := by simpa using hmax
        have HN : Hid (numOk t.data.toList = false) := Lib.hid (by unfold numOk; simp [hmax])
        go_wp2_with fail
        go_quiet (fail)
        go_wp2
        go_ret2
        exact ⟨⟨_, by rw [HN.out]; rfl, fun h => by rw [HN.out] at h; cases h⟩, (Kept.refl _ _).drewN _⟩
end Go.Proofs.YtjkgepppoopheaaGreatDoor

namespace Go.Proofs.YtjkgepppoopheaaGreatDoor
open Go.RowKit Go.Shelf

set_option maxRecDepth 100000 in
set_option maxHeartbeats 1000000 in
theorem keyword_any (s : ByteArray) (hs : s.size ≤ 1000000) (w : World) : Calls Tryz.prog 146 #[.string s] w fun e w' => e = .returned (.bool (kwIs s.data.toList)) ∧ Kept noX w w' := by
  cases hk : kwIs s.data.toList with
  | true =>
    have hin : s.data.toList ∈ kwL := by simpa [kwIs] using hk
    clear hk
    go_enter Tryz.func146, Tryz.ntmps146
    go_wp2_with fail
    refine (keywords_any w).mono ?_
    rintro e W1 ⟨rfl, hK, hk1⟩
    have hl := hK.look s (by unfold maxLen; omega)
    rw [if_pos hin] at hl
    clear hin hK
    go_wp2
    go_ret
    exact ⟨rfl, hk1⟩
  | false =>
    have hin : s.data.toList ∉ kwL := by simpa [kwIs] using hk
    clear hk
    go_enter Tryz.func146, Tryz.ntmps146
    go_wp2_with fail
    refine (keywords_any w).mono ?_
    rintro e W1 ⟨rfl, hK, hk1⟩
    have hl := hK.look s (by unfold maxLen; omega)
    rw [if_neg hin] at hl
    clear hin hK
    go_wp2
    go_ret
    exact ⟨rfl, hk1⟩

theorem drop_zero' {s : ByteArray} (hk : 0 < s.size) : s.data.toList.drop 0 = s[0] :: s.data.toList.drop 1 := by
  rw [List.drop_eq_getElem_cons (by simpa using hk)]
  rfl

/-- Is a text a name? -/
def nameIs (l : List UInt8) : Bool := match l with
  | [] => false
  | b :: r => decide (r.length + 1 ≤ 16) && letB (b.toNat : Nat) && (b :: r).all (fun b => alnB (b.toNat : Nat)) && !kwIs (b :: r)

theorem nameIs_cons (b : UInt8) (r : List UInt8) : nameIs (b :: r) = (decide (r.length + 1 ≤ 16) && letB (b.toNat : Nat) && (b :: r).all (fun b => alnB (b.toNat : Nat)) && !kwIs (b :: r)) := rfl
theorem runQ_all_iff (q : Int → Bool) : ∀ l : List UInt8, runQ q l = l.length ↔ l.all (fun b => q (b.toNat : Nat)) = true := by
  intro l
  induction l with
  | nil => simp [runQ, runS]
  | cons b l ih =>
    rw [runQ_cons]
    cases h : q (b.toNat : Nat) with
    | true => simp only [if_true, List.length_cons, Nat.add_right_cancel_iff, ih, List.all_cons, h, Bool.true_and]
    | false => simp [h]

set_option maxRecDepth 100000 in
set_option maxHeartbeats 1000000 in
theorem name_any (s : ByteArray) (hs : s.size ≤ 9223372036854775807) (w : World) : Calls Tryz.prog 96 #[.string s] w fun e w' => e = .returned (.bool (nameIs s.data.toList)) ∧ Kept noX w w' := by
  have hlen : s.data.toList.length = s.size := by simp
  by_cases h0 : s.size = 0
  · have hn : s.data.toList = [] := List.eq_nil_of_length_eq_zero (by omega)
    have te : s.toList.isEmpty = true := by rw [ByteArray.toList_eq, hn]; rfl
    have HV : Hid (nameIs s.data.toList = false) := Lib.hid (by rw [hn]; rfl)
    clear hn hlen h0
    go_enter Tryz.func96, Tryz.ntmps96
    go_wp2
    go_ret
    exact ⟨by rw [HV.out]; rfl, Kept.refl _ _⟩
  · have te : s.toList.isEmpty = false := by
      rw [ByteArray.toList_eq, List.isEmpty_eq_false_iff]
      intro h
      rw [h] at hlen
      exact h0 hlen.symm
    have hpos : 0 < s.size := by omega
    have hcons : s.data.toList = s[0] :: s.data.toList.drop 1 := by
      have := drop_zero' hpos
      rwa [List.drop_zero] at this
    have hlr : (s.data.toList.drop 1).length + 1 = s.size := by rw [List.length_drop, hlen]; omega
    by_cases h16 : s.size ≤ 16
    · replace hs : s.size ≤ 1000000 := by omega
      have d16 : decide ((16 : Int) < (s.size : Int)) = false := by simp; omega
      cases hl : letB (s[0].toNat : Nat) with
      | false =>
        have HC : Hid (∀ W, Calls Tryz.prog 144 #[.int .u8 (s[0].toNat : Nat)] W fun e w' => e = .returned (.bool false) ∧ W = w') := Lib.hid (fun W => by rw [← hl]; exact letter_any _ W)
        have HV : Hid (nameIs s.data.toList = false) := Lib.hid (by rw [hcons]; simp [nameIs, hl])
        clear hcons hl hlen hlr h0
        go_enter Tryz.func96, Tryz.ntmps96
        go_wp2_with (go_at_call 144; refine (HC.out _).mono ?_; rintro e w' ⟨rfl, rfl⟩)
        go_ret
        exact ⟨by rw [HV.out]; rfl, Kept.refl _ _⟩
      | true =>
        have HC : Hid (∀ W, Calls Tryz.prog 144 #[.int .u8 (s[0].toNat : Nat)] W fun e w' => e = .returned (.bool true) ∧ W = w') := Lib.hid (fun W => by rw [← hl]; exact letter_any _ W)
        have hr0 : Rdr (w.alloc (.cells #[.int .i64 1, .int .i64 1, .string s, .int .i64 0] 125)) w.heap.size s 0 := Cells.fresh w 125 [.int .i64 1, .int .i64 1, .string s, .int .i64 0]
        have HO := Lib.hid (off_aln w.heap.size s hs 0 (Nat.zero_le _) _ hr0)
        have HB := Lib.hid (begin_any s w)
        have HKW := Lib.hid (fun W => keyword_any s hs W)
        have hv : nameIs s.data.toList = (s.data.toList.all (fun b => alnB (b.toNat : Nat)) && !kwIs s.data.toList) := by
          conv => lhs; rw [hcons]
          rw [nameIs_cons, hl, hlr, decide_eq_true h16, ← hcons]
          simp
        have hq := runQ_all_iff alnB s.data.toList
        rw [hlen] at hq
        by_cases hall : runQ alnB s.data.toList = s.size
        · have hes : s.extract 0 (0 + runQ alnB (s.data.toList.drop 0)) = s := by
            rw [List.drop_zero, hall, Nat.zero_add]
            apply ByteArray.ext
            rw [ByteArray.data_extract]
            exact Array.extract_size
          have HV : Hid (nameIs s.data.toList = !kwIs s.data.toList) := Lib.hid (by rw [hv, hq.1 hall, Bool.true_and])
          have HES := Lib.hid hes
          clear hcons hl hlen hlr h0 hv hq hall hes
          go_enter Tryz.func96, Tryz.ntmps96
          go_wp2_with fail
          refine (HC.out _).mono ?_
          rintro e w' ⟨rfl, rfl⟩
          go_wp2_with fail
          refine HB.out.mono ?_
          rintro e w' ⟨rfl, rfl⟩
          go_wp2_with fail
          refine HO.out.mono ?_
          rintro e W1 ⟨rfl, _, hk1⟩
          rw [HES.out]
          have hkw := ((Kept.refl noX w).alloc (.cells #[.int .i64 1, .int .i64 1, .string s, .int .i64 0] 125)).join hk1 (fun i hi hlt => by omega)
          clear hk1
          go_wp2_with fail
          refine (HKW.out _).mono ?_
          rintro e W2 ⟨rfl, hk2⟩
          go_wp2
          go_ret
          exact ⟨by rw [HV.out]; rfl, hkw.trans hk2⟩
        · have hne : ((s.extract 0 (0 + runQ alnB (s.data.toList.drop 0))).toList == s.toList) = false := by
            rw [ByteArray.toList_eq, ByteArray.toList_eq, beq_eq_false_iff_ne]
            intro h
            have h2 := congrArg List.length h
            rw [extract_list, List.drop_zero, List.length_take, hlen] at h2
            have := runQ_le alnB s.data.toList
            omega
          have HV : Hid (nameIs s.data.toList = false) := Lib.hid (by
            rw [hv]
            have : s.data.toList.all (fun b => alnB (b.toNat : Nat)) = false := by
              rw [Bool.eq_false_iff]; intro h; exact hall (hq.2 h)
            rw [this, Bool.false_and])
          clear hcons hl hlen hlr h0 hv hq hall
          obtain ⟨x, hx⟩ : ∃ x, x = s.extract 0 (0 + runQ alnB (s.data.toList.drop 0)) := ⟨_, rfl⟩
          rw [← hx] at hne
          have HX := Lib.hid hx
          clear hx
          go_enter Tryz.func96, Tryz.ntmps96
          go_wp2_with fail
          refine (HC.out _).mono ?_
          rintro e w' ⟨rfl, rfl⟩
          go_wp2_with fail
          refine HB.out.mono ?_
          rintro e w' ⟨rfl, rfl⟩
          go_wp2_with fail
          refine HO.out.mono ?_
          rintro e W1 ⟨rfl, _, hk1⟩
          rw [← HX.out]
          have hkw := ((Kept.refl noX w).alloc (.cells #[.int .i64 1, .int .i64 1, .string s, .int .i64 0] 125)).join hk1 (fun i hi hlt => by omega)
          clear hk1
          go_wp2
          go_ret
          exact ⟨by rw [HV.out]; rfl, hkw⟩
    · have d16 : decide ((16 : Int) < (s.size : Int)) = true := by simp; omega
      have HV : Hid (nameIs s.data.toList = false) := Lib.hid (by
        rw [hcons, nameIs_cons, hlr, decide_eq_false h16]
        simp)
      clear hcons hlen hlr h0
      go_enter Tryz.func96, Tryz.ntmps96
      go_wp2
      go_ret
      exact ⟨by rw [HV.out]; rfl, Kept.refl _ _⟩
end Go.Proofs.YtjkgepppoopheaaGreatDoor

namespace Go.Proofs.YtjkgepppoopheaaGreatDoor
open Go.RowKit Go.Shelf

def argsN (k : Int) : Nat := if k = 6 then 2 else if k = 3 ∨ k = 4 ∨ k = 5 then 1 else 0
def nmB (s : ByteArray) (b : Bool) : Bool := if b then nameIs s.data.toList else decide (s = ⟨#[]⟩)
def numB (n : Int) (b : Bool) : Bool := decide (n = 0) || (b && decide (0 < n) && decide (n ≤ 2147483647))
def opB (o : Int) (b : Bool) : Bool := if b then decide (0 < o) && decide (o ≤ 11) else decide (o = 0)
/-- May an expression be, of at most that depth? -/
def mayE : Nat → ET → Bool
  | 0, _ => false
  | d + 1, .node k m s _ _ o l => decide (0 < k) && decide (k ≤ 6) && nmB s (decide (k = 2 ∨ k = 3)) && numB m (decide (k = 1)) && opB o (decide (k = 6)) && decide (l.length = argsN k) && l.all (mayE d)

def opP (o : Int) : ByteArray → Int → Bool := fun _ q => decide (q = o)
/-- An operator's sign, and its rank. -/
def opSign (o : Int) : ByteArray := (rankedP (opP o)).1.1
def opRank (o : Int) : Nat := (rankedP (opP o)).2.1
/-- An expression's text, where operators of at least a rank may stand alone; the first number bounds the depth. -/
def exprT : Nat → Nat → ET → ByteArray
  | 0, _, _ => ⟨#[]⟩
  | d + 1, least, .node k m s _ _ o l =>
    if k = 1 then itoaB m
    else if k = 2 then s
    else if k = 3 then (catL [s, ⟨#[91]⟩] ++ exprT d 0 (l.getD 0 zeroT)) ++ catL [⟨#[93]⟩]
    else if k = 4 then ⟨#[45]⟩ ++ exprT d 5 (l.getD 0 zeroT)
    else if k = 5 then ⟨#[33]⟩ ++ exprT d 5 (l.getD 0 zeroT)
    else if opRank o < least then
      (((⟨#[40]⟩ ++ exprT d (leftS (opRank o)) (l.getD 0 zeroT)) ++ catL [⟨#[32]⟩, opSign o, ⟨#[32]⟩]) ++ exprT d (opRank o + 1) (l.getD 1 zeroT)) ++ ⟨#[41]⟩
    else ((exprT d (leftS (opRank o)) (l.getD 0 zeroT)) ++ catL [⟨#[32]⟩, opSign o, ⟨#[32]⟩]) ++ exprT d (opRank o + 1) (l.getD 1 zeroT)

/-- A printer in block B, made behind all that was in w0: that stands as it was. -/
structure PW (w0 : World) (B : Nat) (W : World) (s : ByteArray) : Prop where
  at_ : BAt W B s
  kept : Kept (B ≤ ·) w0 W
  base : w0.heap.size ≤ B
  ops : OpsAt w0
  tab : TabAt w0

section
variable {w0 W W' : World} {B : Nat} {s t : ByteArray}
theorem PW.put (h : PW w0 B W s) (hp : Put B W W') (hb : BAt W' B t) : PW w0 B W' t := ⟨hb, h.kept.trans (hp.below h.at_), h.base, h.ops, h.tab⟩
theorem PW.keep (h : PW w0 B W s) (hk : Kept noX W W') : PW w0 B W' s := ⟨h.at_.keep hk, h.kept.trans hk.any, h.base, h.ops, h.tab⟩
theorem PW.rep {cs : List Value} {d : D} (h : PW w0 B W s) (hr : Rep w0 noX cs d) : Rep W noX cs d :=
  ((hr.mono (Z' := fun g => B ≤ g) (fun g hg hx => by have hx : B ≤ g := hx; have := h.base; omega)).kept h.kept (fun _ _ h => h)).any
theorem PW.opsAt (h : PW w0 B W s) : OpsAt W := by
  obtain ⟨v0, v1, v2, v3, v4, h1, h2⟩ := h.ops
  refine ⟨v0, v1, v2, v3, v4, fun j v hv => ?_, fun i hi => h.rep (h2 i hi)⟩
  have h3 := h1 j v hv
  rw [← h3]
  exact World.cell?_of_block (h.kept.block _ (block_lt_of h3) (fun hX => by have := block_lt_of h3; have hX : B ≤ _ := hX; have := h.base; dsimp only at *; omega))
theorem PW.cell (h : PW w0 B W s) {g o : Nat} {v : Value} (hc : w0.cell? ⟨g, o, none⟩ = some v) : W.cell? ⟨g, o, none⟩ = some v := by
  rw [← hc]
  exact World.cell?_of_block (h.kept.block g (block_lt_of hc) (fun hX => by have := block_lt_of hc; have hX : B ≤ g := hX; have := h.base; omega))
theorem PW.tabAt (h : PW w0 B W s) : TabAt W := h.tab.kept h.kept (fun _ hg => Nat.le_trans h.base hg)
theorem PW.lt (h : PW w0 B W s) : B < W.heap.size := h.at_.lt
end

/-- What a printing call does. -/
def Wrote (w0 : World) (B : Nat) (W : World) (s : ByteArray) (e : Ending) (W' : World) : Prop := e = .returned (.tuple #[]) ∧ PW w0 B W' s ∧ Put B W W'
def most : Nat := 70368744177664
/-- The printer of expressions of at most that depth. -/
def PEC (w0 : World) (B d : Nat) : Prop := ∀ (W : World) (s : ByteArray) (least : Nat) (e : ET) (cs : List Value), PW w0 B W s → EV w0 noX cs e → mayE d e = true → least ≤ 100 → s.size + (exprT d least e).size ≤ most →
  Calls Tryz.prog 53 #[.pointer (some ⟨B, 0, none⟩), .agg cs.toArray, .int .i64 (least : Nat)] W (Wrote w0 B W (s ++ exprT d least e))

/-- Parts, laid and written. -/
theorem PW.lit {w0 W : World} {B : Nat} {s : ByteArray} (h : PW w0 B W s) (ts : List ByteArray) (hlen : s.size + (catL ts).size ≤ most) (hn : ts.length ≤ 1000 := by exact Nat.le_of_ble_eq_true rfl) :
    Calls Tryz.prog 90 #[.pointer (some ⟨B, 0, none⟩), .slice (some ⟨W.heap.size, 0, none⟩) ts.length ts.length] (W.alloc (.cells (ts.map Value.string).toArray 9)) (Wrote w0 B W (s ++ catL ts)) := by
  refine (put_lit ts h.at_ hlen hn).mono ?_
  rintro e W' ⟨rfl, h1, h2⟩
  exact ⟨rfl, h.put h2 h1, h2⟩

/-- A cell's text. -/
def cellT (d : Nat) (s : ByteArray) (e : ET) : ByteArray := (catL [s, ⟨#[91]⟩] ++ exprT d 0 e) ++ catL [⟨#[93]⟩]

set_option maxRecDepth 100000 in
set_option maxHeartbeats 1000000 in
theorem cell_step {w0 : World} {B d : Nat} (hE : PEC w0 B d) (W : World) (s t : ByteArray) (e : ET) (cs : List Value) (h : PW w0 B W s) (he : EV w0 noX cs e) (hm : mayE d e = true) (hlen : s.size + (cellT d t e).size ≤ most) :
    Calls Tryz.prog 104 #[.pointer (some ⟨B, 0, none⟩), .string t, .agg cs.toArray] W (Wrote w0 B W (s ++ cellT d t e)) := by
  obtain ⟨k, m, n, sl, lo, o, A, N, C, rfl⟩ := he.form
  have hl : s.size + (catL [t, ⟨#[91]⟩]).size + (exprT d 0 e).size + (catL [(⟨#[93]⟩ : ByteArray)]).size ≤ most := by
    rw [cellT, ByteArray.size_append, ByteArray.size_append] at hlen
    omega
  have hlt := h.lt
  obtain ⟨W0, hW0⟩ : ∃ W0, W0 = W.alloc (.cells #[.int .i64 k, .int .i64 m, .string n, .int .i64 sl, .bool lo, .int .i64 o, .slice A N C] 44) := ⟨_, rfl⟩
  have hk0 : Kept noX W W0 := by rw [hW0]; exact (Kept.refl _ _).alloc _
  have HE0 := Lib.hid (show Cells W0 W.heap.size 44 [.int .i64 k, .int .i64 m, .string n, .int .i64 sl, .bool lo, .int .i64 o, .slice A N C] from by rw [hW0]; exact Cells.fresh W 44 [.int .i64 k, .int .i64 m, .string n, .int .i64 sl, .bool lo, .int .i64 o, .slice A N C])
  have z0 : W0.heap.size = W.heap.size + 1 := by rw [hW0]; simp
  have hw0 := h.keep hk0
  have HP1 := Lib.hid (hw0.lit [t, ⟨#[91]⟩] (by omega))
  have HE := Lib.hid (fun W (hW : PW w0 B W (s ++ catL [t, ⟨#[91]⟩])) => hE W _ 0 e _ hW he hm (by decide) (by rw [ByteArray.size_append]; omega))
  have HB0 := Lib.hid hw0.at_
  have HH := Lib.hid h
  have HK0 := Lib.hid hk0
  clear he hm hlen h hw0 hk0
  go_enter Tryz.func104, Tryz.ntmps104
  go_wp2_with fail
  rw [← hW0, ← z0]
  have l0 : W.heap.size < W0.heap.size := by omega
  clear hW0 z0
  refine (HP1.out).mono ?_
  rintro e W1 ⟨rfl, hw1, hp1⟩
  have HE1 := Lib.hid (hp1.cells HB0.out HE0.out (by omega) (by decide))
  have l1 := HE1.out.lt
  have p0 := HE1.out.cell 0
  have p1 := HE1.out.cell 1
  have p2 := HE1.out.cell 2
  have p3 := HE1.out.cell 3
  have p4 := HE1.out.cell 4
  have p5 := HE1.out.cell 5
  have p6 := HE1.out.cell 6
  have q0 := HE1.out.free 0
  have q1 := HE1.out.free 1
  have q2 := HE1.out.free 2
  have q3 := HE1.out.free 3
  have q4 := HE1.out.free 4
  have q5 := HE1.out.free 5
  have q6 := HE1.out.free 6
  simp only [List.getElem?_cons_zero, List.getElem?_cons_succ] at p0 p1 p2 p3 p4 p5 p6
  have HW1 := Lib.hid hw1
  clear hw1
  go_wp2_with fail
  refine (HE.out W1 HW1.out).mono ?_
  rintro e W2 ⟨rfl, hw2, hp2⟩
  clear p0 p1 p2 p3 p4 p5 p6 q0 q1 q2 q3 q4 q5 q6
  have HP3 := Lib.hid (hw2.lit [⟨#[93]⟩] (by rw [ByteArray.size_append, ByteArray.size_append]; omega))
  have HW2 := Lib.hid hw2
  clear hw2
  go_wp2_with fail
  refine (HP3.out).mono ?_
  rintro e W3 ⟨rfl, hw3, hp3⟩
  have HW3 := Lib.hid hw3
  clear hw3
  go_wp2
  go_end0
  refine ⟨rfl, ?_, Put.pre HH.out.at_ HK0.out ((hp1.trans hp2 HB0.out).trans hp3 HB0.out)⟩
  have := HW3.out
  unfold cellT
  simpa only [ByteArray.append_assoc] using this
end Go.Proofs.YtjkgepppoopheaaGreatDoor
