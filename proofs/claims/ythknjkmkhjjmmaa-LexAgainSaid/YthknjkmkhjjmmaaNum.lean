/- What lex.number and strings.Clone do (conditions: the text is of at most 1000000 bytes). -/
import Derived.Test.YthknjkmkhjjmmaaSmall
namespace Go.Proofs.Ythknjkmkhjjmmaa
open Go.RowKit Go.Shelf

/-- What digits tell. -/
def valF (l : List UInt8) : Int := l.foldl (fun n b => 10 * n + ((b.toNat : Int) - 48)) 0
def allDig (l : List UInt8) : Bool := l.all (fun b => digB (b.toNat : Nat))
/-- Are digits a number? -/
def numOk (l : List UInt8) : Bool := decide (l.length ≤ 10) && !(decide (1 < l.length) && (l.head? == some 48)) && allDig l && decide (valF l ≤ 2147483647)

theorem valF_snoc (l : List UInt8) (b : UInt8) : valF (l ++ [b]) = 10 * valF l + ((b.toNat : Int) - 48) := by simp [valF]
theorem digB_iff (x : Int) : digB x = true ↔ 48 ≤ x ∧ x ≤ 57 := by simp [digB]
theorem valF_bound : ∀ (k : Nat) (l : List UInt8), l.length = k → allDig l = true → 0 ≤ valF l ∧ valF l ≤ 10 ^ k - 1 := by
  intro k
  induction k with
  | zero => intro l hl _; obtain rfl := List.eq_nil_of_length_eq_zero hl; simp [valF]
  | succ k ih =>
    intro l hl hd
    obtain ⟨l', b, rfl⟩ : ∃ l' b, l = l' ++ [b] := by
      refine ⟨l.dropLast, l.getLast (by rintro rfl; simp at hl), (List.dropLast_concat_getLast _).symm⟩
    have h1 : l'.length = k := by simpa using hl
    simp only [allDig, List.all_append, List.all_cons, List.all_nil, Bool.and_true, Bool.and_eq_true] at hd
    have h2 := ih l' h1 hd.1
    have h3 := (digB_iff _).1 hd.2
    rw [valF_snoc, Int.pow_succ]
    omega
theorem valF_le {l : List UInt8} (hl : l.length ≤ 10) (hd : allDig l = true) : 0 ≤ valF l ∧ valF l ≤ 9999999999 := by
  have h := valF_bound l.length l rfl hd
  have : (10 : Int) ^ l.length ≤ 10 ^ 10 := by
    have h10 : ∀ n : Nat, n ≤ 10 → (10 : Int) ^ n ≤ 10 ^ 10 := by decide
    exact h10 _ hl
  have e : (10 : Int) ^ 10 = 10000000000 := by decide
  omega

/-- What is told beside it. -/
def numRes (l : List UInt8) : Int := if numOk l then valF l else 0
theorem numRes_yes {l : List UInt8} (h : numOk l = true) : numRes l = valF l := by simp [numRes, h]
theorem numRes_no {l : List UInt8} (h : numOk l = false) : numRes l = 0 := by simp [numRes, h]

set_option maxRecDepth 100000 in
set_option maxHeartbeats 1000000 in
theorem number_loop (t : ByteArray) (w : World) (h10 : t.size ≤ 10) (h48 : ¬ (1 < t.size ∧ t.data.toList.head? = some 48)) :
    Calls Try.prog 45 #[.string t] w fun e w' => e = .returned (.tuple #[.int .i64 (numRes t.data.toList), .bool (numOk t.data.toList)]) ∧ w = w' := by
  have hlen : t.data.toList.length = t.size := by simp
  have HL := Lib.hid hlen
  clear hlen
  have H48 := Lib.hid h48
  have g48 : 1 < t.size → ∀ h : 0 < t.size, ((t[0].toNat : Int) == 48) = false := by
    intro h1 h0
    rw [beq_eq_false_iff_ne]
    intro hh
    refine h48 ⟨h1, ?_⟩
    rw [List.head?_eq_getElem?, List.getElem?_eq_getElem (by simpa using h0)]
    congr 1
    apply UInt8.toNat_inj.1
    show t[0].toNat = 48
    omega
  clear h48
  have hd10 : decide (10 < (t.size : Int)) = false := by simp; omega
  by_cases h1 : 1 < t.size
  · have t48 := g48 h1 (by omega)
    clear g48
    go_enter Try.func45, Try.ntmps45
    go_wp2
    go_loop [4, 21] (fun n i => ∃ k : Nat, k ≤ t.size ∧ i = .int .i64 k ∧ n = .int .i64 (valF (t.data.toList.take k)) ∧ allDig (t.data.toList.take k) = true) (fun _ i => t.size - (intOf i).toNat)
    case atStart => exact ⟨0, Nat.zero_le _, rfl, rfl, rfl⟩
    case round =>
      obtain ⟨k, hk, rfl, rfl, hd⟩ := hrel
      have hv := valF_le (l := t.data.toList.take k) (by rw [List.length_take]; omega) hd
      have HD := Lib.hid hd
      clear hd
      by_cases hlt : k < t.size
      · have hb0 : t.data.toList[k]? = some t[k] := by
          rw [List.getElem?_eq_getElem (by simpa using hlt)]; rfl
        have ht : t.data.toList.take (k + 1) = t.data.toList.take k ++ [t[k]] := by rw [List.take_add_one, hb0]; rfl
        have HT := Lib.hid ht
        have HB := Lib.hid hb0
        have hub : (t[k].toNat : Int) ≤ 255 := by have := t[k].toNat_lt; omega
        clear ht hb0
        cases hdk : digB (t[k].toNat : Int) with
        | true =>
          have hdr := (digB_iff _).1 hdk
          have hc : ∀ W, Calls Try.prog 41 #[.int .u8 (t[k].toNat : Int)] W fun e w' => e = .returned (.bool true) ∧ W = w' := fun W => by rw [← hdk]; exact digit_any _ W
          have HC := Lib.hid hc
          have HDK := Lib.hid hdk
          have hv2 : 0 ≤ 10 * valF (t.data.toList.take k) ∧ 10 * valF (t.data.toList.take k) ≤ 99999999990 := by omega
          clear hc hdk
          go_wp2_with (go_at_call 41; refine (HC.out _).mono ?_; rintro e w' ⟨rfl, rfl⟩)
          go_round
          case rel =>
            refine ⟨k + 1, by omega, by go_num, ?_, ?_⟩
            · rw [HT.out, valF_snoc]
            · have h1 := HD.out
              have h2 := HDK.out
              rw [HT.out]
              unfold allDig at h1 ⊢
              rw [List.all_append, h1]
              simpa using h2
          case measure => simp [intOf]; omega
        | false =>
          have hc : ∀ W, Calls Try.prog 41 #[.int .u8 (t[k].toNat : Int)] W fun e w' => e = .returned (.bool false) ∧ W = w' := fun W => by rw [← hdk]; exact digit_any _ W
          have HC := Lib.hid hc
          have HN : Hid (numOk t.data.toList = false) := by
            have hall : allDig t.data.toList = false := by
              unfold allDig
              rw [List.all_eq_false]
              exact ⟨t[k], List.mem_of_getElem? HB.out, by simp [hdk]⟩
            exact Lib.hid (by simp [numOk, hall])
          clear hc hdk
          go_wp2_with (go_at_call 41; refine (HC.out _).mono ?_; rintro e w' ⟨rfl, rfl⟩)
          go_ret2
          exact ⟨by rw [numRes_no HN.out, HN.out]; rfl, rfl⟩
      · obtain rfl : k = t.size := by omega
        have hall : t.data.toList.take t.size = t.data.toList := List.take_of_length_le (by simp)
        rw [hall] at hv HD ⊢
        clear hall
        have h48n : (decide (1 < t.data.toList.length) && (t.data.toList.head? == some 48)) = false := by
          have := H48.out
          rw [Bool.eq_false_iff]
          intro hh
          simp only [Bool.and_eq_true, decide_eq_true_eq, beq_iff_eq] at hh
          exact this ⟨by have := HL.out; omega, hh.2⟩
        by_cases hmax : valF t.data.toList ≤ 2147483647
        · have HN : Hid (numOk t.data.toList = true) := Lib.hid (by
            have h1 := HD.out
            unfold numOk
            rw [h48n, h1, HL.out]
            simp [hmax, h10])
          clear h48n
          go_wp2
          go_ret2
          exact ⟨by rw [numRes_yes HN.out, HN.out]; rfl, rfl⟩
        · have HN : Hid (numOk t.data.toList = false) := Lib.hid (by unfold numOk; simp [hmax])
          clear h48n
          go_wp2
          go_ret2
          exact ⟨by rw [numRes_no HN.out, HN.out]; rfl, rfl⟩
  · clear g48
    go_enter Try.func45, Try.ntmps45
    go_wp2
    go_loop [4, 21] (fun n i => ∃ k : Nat, k ≤ t.size ∧ i = .int .i64 k ∧ n = .int .i64 (valF (t.data.toList.take k)) ∧ allDig (t.data.toList.take k) = true) (fun _ i => t.size - (intOf i).toNat)
    case atStart => exact ⟨0, Nat.zero_le _, rfl, rfl, rfl⟩
    case round =>
      obtain ⟨k, hk, rfl, rfl, hd⟩ := hrel
      have hv := valF_le (l := t.data.toList.take k) (by rw [List.length_take]; omega) hd
      have HD := Lib.hid hd
      clear hd
      by_cases hlt : k < t.size
      · have hb0 : t.data.toList[k]? = some t[k] := by
          rw [List.getElem?_eq_getElem (by simpa using hlt)]; rfl
        have ht : t.data.toList.take (k + 1) = t.data.toList.take k ++ [t[k]] := by rw [List.take_add_one, hb0]; rfl
        have HT := Lib.hid ht
        have HB := Lib.hid hb0
        have hub : (t[k].toNat : Int) ≤ 255 := by have := t[k].toNat_lt; omega
        clear ht hb0
        cases hdk : digB (t[k].toNat : Int) with
        | true =>
          have hdr := (digB_iff _).1 hdk
          have hc : ∀ W, Calls Try.prog 41 #[.int .u8 (t[k].toNat : Int)] W fun e w' => e = .returned (.bool true) ∧ W = w' := fun W => by rw [← hdk]; exact digit_any _ W
          have HC := Lib.hid hc
          have HDK := Lib.hid hdk
          have hv2 : 0 ≤ 10 * valF (t.data.toList.take k) ∧ 10 * valF (t.data.toList.take k) ≤ 99999999990 := by omega
          clear hc hdk
          go_wp2_with (go_at_call 41; refine (HC.out _).mono ?_; rintro e w' ⟨rfl, rfl⟩)
          go_round
          case rel =>
            refine ⟨k + 1, by omega, by go_num, ?_, ?_⟩
            · rw [HT.out, valF_snoc]
            · have h1 := HD.out
              have h2 := HDK.out
              rw [HT.out]
              unfold allDig at h1 ⊢
              rw [List.all_append, h1]
              simpa using h2
          case measure => simp [intOf]; omega
        | false =>
          have hc : ∀ W, Calls Try.prog 41 #[.int .u8 (t[k].toNat : Int)] W fun e w' => e = .returned (.bool false) ∧ W = w' := fun W => by rw [← hdk]; exact digit_any _ W
          have HC := Lib.hid hc
          have HN : Hid (numOk t.data.toList = false) := by
            have hall : allDig t.data.toList = false := by
              unfold allDig
              rw [List.all_eq_false]
              exact ⟨t[k], List.mem_of_getElem? HB.out, by simp [hdk]⟩
            exact Lib.hid (by simp [numOk, hall])
          clear hc hdk
          go_wp2_with (go_at_call 41; refine (HC.out _).mono ?_; rintro e w' ⟨rfl, rfl⟩)
          go_ret2
          exact ⟨by rw [numRes_no HN.out, HN.out]; rfl, rfl⟩
      · obtain rfl : k = t.size := by omega
        have hall : t.data.toList.take t.size = t.data.toList := List.take_of_length_le (by simp)
        rw [hall] at hv HD ⊢
        clear hall
        have h48n : (decide (1 < t.data.toList.length) && (t.data.toList.head? == some 48)) = false := by
          have := H48.out
          rw [Bool.eq_false_iff]
          intro hh
          simp only [Bool.and_eq_true, decide_eq_true_eq, beq_iff_eq] at hh
          exact this ⟨by have := HL.out; omega, hh.2⟩
        by_cases hmax : valF t.data.toList ≤ 2147483647
        · have HN : Hid (numOk t.data.toList = true) := Lib.hid (by
            have h1 := HD.out
            unfold numOk
            rw [h48n, h1, HL.out]
            simp [hmax, h10])
          clear h48n
          go_wp2
          go_ret2
          exact ⟨by rw [numRes_yes HN.out, HN.out]; rfl, rfl⟩
        · have HN : Hid (numOk t.data.toList = false) := Lib.hid (by unfold numOk; simp [hmax])
          clear h48n
          go_wp2
          go_ret2
          exact ⟨by rw [numRes_no HN.out, HN.out]; rfl, rfl⟩

set_option maxRecDepth 100000 in
set_option maxHeartbeats 1000000 in
theorem number_any (t : ByteArray) (w : World) (hs : t.size ≤ 1000000) :
    Calls Try.prog 45 #[.string t] w fun e w' => e = .returned (.tuple #[.int .i64 (numRes t.data.toList), .bool (numOk t.data.toList)]) ∧ w = w' := by
  have hlen : t.data.toList.length = t.size := by simp
  by_cases h10 : t.size ≤ 10
  · by_cases h48 : 1 < t.size ∧ t.data.toList.head? = some 48
    · have hN : numOk t.data.toList = false := by
        unfold numOk
        rw [hlen]
        simp [h48.1, h48.2]
      have HN := Lib.hid hN
      have h1 := h48.1
      have h0 : 0 < t.size := by omega
      have t48 : ((t[0].toNat : Int) == 48) = true := by
        have := h48.2
        rw [List.head?_eq_getElem?, List.getElem?_eq_getElem (by simpa using h0)] at this
        have e : t[0] = 48 := by
          have := Option.some.inj this
          exact this
        rw [e]; rfl
      have hd10 : decide (10 < (t.size : Int)) = false := by simp; omega
      clear hN h48 hlen
      go_enter Try.func45, Try.ntmps45
      go_wp2
      go_ret2
      exact ⟨by rw [numRes_no HN.out, HN.out]; rfl, rfl⟩
    · exact number_loop t w h10 h48
  · have hN : numOk t.data.toList = false := by
      unfold numOk
      rw [hlen]
      simp [h10]
    have HN := Lib.hid hN
    have hd10 : decide (10 < (t.size : Int)) = true := by simp; omega
    clear hN hlen
    go_enter Try.func45, Try.ntmps45
    go_wp2
    go_ret2
    exact ⟨by rw [numRes_no HN.out, HN.out]; rfl, rfl⟩

theorem Kept.freeze {X : Nat → Prop} {a w : World} (h : Kept X a w) {p : Addr} (hp : p.block < a.heap.size → X p.block) (n : Nat) : Kept X a (w.freeze p n) := by
  unfold World.freeze
  split
  · exact h
  · refine ⟨h.os, h.tape, h.output, by simpa using h.size, fun k hk hx => ?_⟩
    simp only [Array.getElem?_modify]
    rw [if_neg (by rintro e; exact hx (e ▸ hp (by omega)))]
    exact h.block k hk hx
theorem Kept.setRow {X : Nat → Prop} {a w : World} (h : Kept X a w) {g : Nat} (hp : g < a.heap.size → X g) (cs : Array Value) : Kept X a (w.setRow g cs) :=
  ⟨h.os, h.tape, h.output, by simpa [World.setRow] using h.size, fun k hk hx => by
    unfold World.setRow
    simp only [Array.getElem?_modify]
    rw [if_neg (by rintro e; exact hx (e ▸ hp (by omega)))]
    exact h.block k hk hx⟩

def zeros (n : Nat) : Array Value := madeCells #[.int .u8 0] n
def bytesOf (t : ByteArray) : List Value := t.data.toList.map fun b => Value.int .u8 (b.toNat : Nat)
theorem bytesOf_len (t : ByteArray) : (bytesOf t).length = t.size := by simp [bytesOf]
theorem info5 : (Try.prog.info? 5).map (fun i => (i.zero, i.size, i.bytes)) = some (some (.int .u8 0), 1, 1) := by kernel_rfl

theorem run_make_bytes (n : Nat) (hn : n ≤ 1000000) (W : World) :
    (Instr.makeSlice 35 (.int .i64 (n : Int)) (.int .i64 (n : Int))).run Try.prog W = .ok (.slice (some ⟨W.heap.size, 0, none⟩) n n) (W.alloc (.cells (zeros n) 5)) := by
  obtain ⟨i0, hi, hz0, hz1, hz2⟩ := info_parts info5
  have := run_make (P := Try.prog) W 35 5 i0 _ Try.underlying35 hi hz0 .i64 .i64 n n (by omega) (by omega) (by rw [hz2]; omega) (by omega)
  rw [this, hz1]
  simp [zeros, Value.cells]

theorem run_copy_bytes (t : ByteArray) (ty : TypeId) (g : Nat) (cur : Array Value) (W : World) (hg : W.heap[g]? = some (.cells cur 5 (0, 0))) (hc : cur.size = t.size) :
    (Builtin.copy_ #[35, 9] ty #[.slice (some ⟨g, 0, none⟩) t.size t.size, .string t]).run Try.prog W = .ok (.int .i64 t.size) (W.setRow g (bytesOf t).toArray) := by
  obtain ⟨i0, hi, hz0, hz1, hz2⟩ := info_parts info5
  have h := run_storeCells_from (P := Try.prog) g 5 (bytesOf t) 0 cur W hg (by rw [bytesOf_len]; omega) (by
    intro v hv
    simp only [bytesOf, List.mem_map] at hv
    obtain ⟨b, _, rfl⟩ := hv
    rfl)
  rw [List.take_zero, List.nil_append] at h
  simp only [Builtin.copy_]
  simp [run_underlying Try.underlying35, Builtin.lenOf, sizeOf, typeInfo, hi, Builtin.firstCells, goInt]
  rw [List.take_of_length_le (by simp)]
  have e : List.map (fun b : UInt8 => Value.int .u8 (b.toNat : Nat)) t.data.toList = bytesOf t := rfl
  rw [e, h]
  rfl

theorem setRow_fresh (w : World) (cs cs' : Array Value) (e : TypeId) : (w.alloc (.cells cs e (0, 0))).setRow w.heap.size cs' = w.alloc (.cells cs' e (0, 0)) := by
  unfold World.setRow World.alloc
  dsimp only
  congr 1
  apply Array.ext
  · simp
  · intro k h1 h2
    simp only [Array.getElem_modify, Array.getElem_push]
    by_cases hk : k < w.heap.size
    · simp [hk, show ¬ w.heap.size = k from by omega]
    · have : k = w.heap.size := by simp at h2; omega
      subst this
      simp
set_option maxHeartbeats 1000000 in
theorem clone1_any (t : ByteArray) (w : World) (hs : t.size ≤ 1000000) :
    Calls Try.prog 49 #[.string t] w fun e w' => e = .returned (.string t) ∧ Kept noX w w' := by
  by_cases h0 : t.size = 0
  · have h0' : ((t.size : Int) == 0) = true := by rw [h0]; rfl
    have e : t = ⟨#[]⟩ := by
      apply ByteArray.ext
      exact Array.eq_empty_of_size_eq_zero h0
    clear h0
    go_enter Try.func49, Try.ntmps49
    go_wp2
    go_ret
    exact ⟨by rw [e]; rfl, Kept.refl _ _⟩
  · have h0' : ((t.size : Int) == 0) = false := by simpa using h0
    have hz : (zeros t.size).size = t.size := by unfold zeros; exact size_madeCells _ _
    have hmk := run_make_bytes t.size (by omega)
    have hcp := fun ty => run_copy_bytes t ty w.heap.size (zeros t.size) (w.alloc (.cells (zeros t.size) 5)) (World.alloc_heap_new w _) hz
    simp only [setRow_fresh] at hcp
    have hus : ∀ ty, (Builtin.unsafeString_ #[66, 3] ty #[.pointer (some ⟨w.heap.size, 0, none⟩), .int .i64 t.size]).run Try.prog (w.alloc (.cells (bytesOf t).toArray 5)) = .ok (.string t) ((w.alloc (.cells (bytesOf t).toArray 5)).freeze ⟨w.heap.size, 0, none⟩ t.size) := fun ty => by
      have hl : t.data.toList.length = t.size := by simp
      have := Lib.run_unsafeString_row (P := Try.prog) (w.alloc (.cells (bytesOf t).toArray 5)) 66 3 ty 5 Try.underlying66 (by kernel_rfl) w.heap.size t.size (by
          unfold World.shape?
          rw [World.alloc_heap_new]
          simp [bytesOf]) t.data.toList (by intro h; rw [h] at hl; exact h0 hl.symm) (by omega) (by omega) (by
          intro j x hj
          have hc := (Cells.fresh w 5 (bytesOf t)).cell j
          have : (⟨w.heap.size, 0, none⟩ : Addr).add j = ⟨w.heap.size, j, none⟩ := by unfold Addr.add; split <;> simp_all
          rw [this, hc]
          simp [bytesOf, hj])
      rw [hl] at this
      exact this
    have HK : Hid (Kept noX w ((w.alloc (.cells (bytesOf t).toArray 5)).freeze ⟨w.heap.size, 0, none⟩ t.size)) := Lib.hid (((Kept.refl noX w).alloc _).freeze (fun h => by dsimp only at h; omega) _)
    have hlt : (0 : Int) < (t.size : Int) := by omega
    clear h0 hz
    go_enter Try.func49, Try.ntmps49
    go_wp2
    go_ret
    exact ⟨rfl, HK.out⟩

set_option maxHeartbeats 1000000 in
theorem clone_any (t : ByteArray) (w : World) (hs : t.size ≤ 1000000) :
    Calls Try.prog 47 #[.string t] w fun e w' => e = .returned (.string t) ∧ Kept noX w w' := by
  go_enter Try.func47, Try.ntmps47
  go_wp2_with (go_at_call 49; refine (clone1_any t _ hs).mono ?_; rintro e w' ⟨rfl, hk⟩)
  go_ret
  exact ⟨rfl, hk⟩
end Go.Proofs.Ythknjkmkhjjmmaa
