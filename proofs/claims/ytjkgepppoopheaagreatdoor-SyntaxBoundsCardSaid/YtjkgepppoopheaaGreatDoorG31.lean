/- What SyntaxBounds answers: true, the walk (conditions: the tables stand). -/
import Derived.Test.YtjkgepppoopheaaGreatDoorG30
import Derived.Lib.BufferWrite
import Derived.Laws.IdiomStrings
namespace Go.Proofs.YtjkgepppoopheaaGreatDoor
open Go.RowKit Go.Shelf

def mtx (N : Nat) : List UInt8 := [109, 117, 116, 101, 120, 32, 109, 59] ++ List.replicate N 32
def mtxB (N : Nat) : ByteArray := ⟨(mtx N).toArray⟩
theorem mtx_list (N : Nat) : (mtxB N).data.toList = mtx N := rfl
theorem mtx_len (N : Nat) : (mtx N).length = 8 + N := by simp [mtx]; omega
theorem mtx_size (N : Nat) : (mtxB N).size = 8 + N := by
  show (mtx N).toArray.size = _
  rw [List.size_toArray, mtx_len]
theorem skN_blanks (n : Nat) : skN (List.replicate n 32) = n := by
  unfold skN
  induction n with
  | zero => rfl
  | succ n ih =>
    rw [List.replicate_succ]
    unfold runS
    have h1 : (remB false ((32 : UInt8).toNat : Nat) || blkB ((32 : UInt8).toNat : Nat)) = true := by decide
    have h2 : remB false ((32 : UInt8).toNat : Nat) = false := by decide
    rw [if_pos h1, h2, ih]
section
variable (R : List UInt8)
def mt (R : List UInt8) : List UInt8 := 109 :: 117 :: 116 :: 101 :: 120 :: 32 :: 109 :: 59 :: 32 :: R
theorem mt0 : posW (mt R) 0 = 0 := rfl
theorem mtw0 : wordR (mt R) = (3, 5, 0, 0) := rfl
theorem mt1 : posW (mt R) 1 = 6 := rfl
theorem mtw1 : wordR ((mt R).drop 6) = (1, 1, 0, 0) := rfl
theorem mt2 : posW (mt R) 2 = 7 := rfl
theorem mtw2 : wordR ((mt R).drop 7) = (4, 1, 0, 0) := rfl
theorem mt3 : posW (mt R) 3 = 8 + skN (32 :: R) := by
  show nextW (mt R) (posW (mt R) 2) = _
  rw [mt2, nextW, mtw2]
  rfl
end

def okLen (r : Except (Int × Int × Int) (List DT)) : Option Nat := match r with | .ok l => some l.length | .error _ => none
theorem mtx_prog0 (U : Nat → TokD) (el ec l0 c0 l1 c1 l2 c2 : Int) : okLen (progR ⟨.nilFunc, 3, fun k => match k with | 0 => ⟨3, ⟨#[109, 117, 116, 101, 120]⟩, 0, l0, c0⟩ | 1 => ⟨1, ⟨#[109]⟩, 0, l1, c1⟩ | 2 => ⟨4, ⟨#[59]⟩, 0, l2, c2⟩ | k + 3 => U k, el, ec, 0, fun _ => 0, 0, fun _ => True⟩) = some 1 := by kernel_rfl
theorem mtx_prog (T : Nat → TokD) (el ec l0 c0 l1 c1 l2 c2 : Int) (h0 : T 0 = ⟨3, ⟨#[109, 117, 116, 101, 120]⟩, 0, l0, c0⟩) (h1 : T 1 = ⟨1, ⟨#[109]⟩, 0, l1, c1⟩) (h2 : T 2 = ⟨4, ⟨#[59]⟩, 0, l2, c2⟩) :
    ∃ l, progR ⟨.nilFunc, 3, T, el, ec, 0, fun _ => 0, 0, fun _ => True⟩ = .ok l ∧ l.length = 1 := by
  have hT : T = fun k => match k with | 0 => ⟨3, ⟨#[109, 117, 116, 101, 120]⟩, 0, l0, c0⟩ | 1 => ⟨1, ⟨#[109]⟩, 0, l1, c1⟩ | 2 => ⟨4, ⟨#[59]⟩, 0, l2, c2⟩ | k + 3 => (fun k => T (k + 3)) k := by
    funext k
    match k with
    | 0 => exact h0
    | 1 => exact h1
    | 2 => exact h2
    | k + 3 => rfl
  have h := mtx_prog0 (fun k => T (k + 3)) el ec l0 c0 l1 c1 l2 c2
  rw [← hT] at h
  cases hr : progR ⟨.nilFunc, 3, T, el, ec, 0, fun _ => 0, 0, fun _ => True⟩ with
  | ok l =>
    rw [hr] at h
    exact ⟨l, rfl, Option.some.inj h⟩
  | error q => rw [hr] at h; cases h

theorem text_of {s : ByteArray} {i n : Nat} {l : List UInt8} (h : (s.data.toList.drop i).take n = l) : s.extract i (i + n) = ⟨l.toArray⟩ := by
  apply ByteArray.ext
  apply Array.toList_inj.1
  rw [extract_list, h]
theorem tok_of {s : ByteArray} {p n : Nat} {a num : Int} {l : List UInt8} (hw : wordR (s.data.toList.drop p) = (a, n, num, 0)) (ht : (s.data.toList.drop p).take n = l) : tokD s p = ⟨a, ⟨l.toArray⟩, num, (tokD s p).line, (tokD s p).col⟩ := by
  unfold tokD
  rw [hw]
  dsimp only
  rw [text_of ht]
theorem mtx_parse (N : Nat) {r : Except (Int × Int × Int) (List DT)} (h : IsParse (mtxB (N + 1)) r) : ∃ l, r = .ok l ∧ l.length = 1 := by
  have hm : mtx (N + 1) = mt (List.replicate N 32) := rfl
  obtain ⟨R, hR⟩ : ∃ R, R = List.replicate N (32 : UInt8) := ⟨_, rfl⟩
  have hsk : skN (32 :: R) = N + 1 := by rw [hR, ← List.replicate_succ, skN_blanks]
  have hl : (mtxB (N + 1)).data.toList = mt R := by rw [mtx_list, hm, hR]
  have hlen : (mt R).length = 8 + (N + 1) := by rw [← mtx_len, hm, hR]
  have hd0 : (mt R).drop 0 = mt R := rfl
  have hg : goodW (mtxB (N + 1)).data.toList 3 := by
    rw [hl]
    intro k hk
    match k, hk with
    | 0, _ => exact ⟨by rw [mt0, hlen]; omega, by rw [mt0, errW, hd0, mtw0]⟩
    | 1, _ => exact ⟨by rw [mt1, hlen]; omega, by rw [mt1, errW, mtw1]⟩
    | 2, _ => exact ⟨by rw [mt2, hlen]; omega, by rw [mt2, errW, mtw2]⟩
  have he : posW (mtxB (N + 1)).data.toList 3 = (mtxB (N + 1)).data.toList.length := by rw [hl, mt3, hsk, hlen]
  rw [h.all hg he]
  refine mtx_prog _ _ _ (tokD (mtxB (N + 1)) (posW (mtxB (N + 1)).data.toList 0)).line (tokD (mtxB (N + 1)) (posW (mtxB (N + 1)).data.toList 0)).col (tokD (mtxB (N + 1)) (posW (mtxB (N + 1)).data.toList 1)).line (tokD (mtxB (N + 1)) (posW (mtxB (N + 1)).data.toList 1)).col (tokD (mtxB (N + 1)) (posW (mtxB (N + 1)).data.toList 2)).line (tokD (mtxB (N + 1)) (posW (mtxB (N + 1)).data.toList 2)).col ?_ ?_ ?_
  · exact tok_of (by rw [hl, mt0]; exact mtw0 _) (by rw [hl]; rfl)
  · exact tok_of (by rw [hl, mt1]; exact mtw1 _) (by rw [hl]; rfl)
  · exact tok_of (by rw [hl, mt2]; exact mtw2 _) (by rw [hl]; rfl)
end Go.Proofs.YtjkgepppoopheaaGreatDoor

namespace Go.Proofs.YtjkgepppoopheaaGreatDoor
open Go.RowKit Go.Shelf Go.Lib

theorem elemBytes : Tryz.prog.elem 67 = 5 := by kernel_rfl
theorem slice_most {N M : Nat} (hN : N = 65537) (hM : M = 65536) (a : Addr) (W : World) : (Instr.slice 67 (.slice (some a) N N) none (some (.int .i64 65536)) none).run Tryz.prog W = .ok (.slice (some a) M N) W := by
  obtain ⟨i0, hi, hz0, hz1, hz2⟩ := info_parts info5
  have h := run_slice_h (P := Tryz.prog) W 67 (some a) N N (by rw [elemBytes]; exact Tryz.underlying67) .i64 65536 (by omega) (by omega)
  rw [h, elemBytes]
  have : (sizeOf 5).run Tryz.prog W = .ok 1 W := by simp [sizeOf, typeInfo, hi, hz1]
  rw [this]
  simp only [Result.andThen, sliced, Option.map_some]
  have e : (65536 : Int).toNat = M := by omega
  rw [e, Nat.sub_zero, Nat.sub_zero, Nat.zero_mul]
  have e2 : a.add 0 = a := by unfold Addr.add; split <;> simp_all
  rw [e2]
  split <;> rfl

theorem string_mtx {g n c : Nat} {cs : List Value} {W : World} (hcs : Cells W g 5 cs) (hall : ∀ (j : Nat) (b : UInt8), (mtx n)[j]? = some b → cs[j]? = some (.int .u8 (b.toNat : Nat))) :
    (convert 67 9 (.slice (some ⟨g, 0, none⟩) (8 + n) c)).run Tryz.prog W = .ok (.string (mtxB n)) W := by
  have h := run_convert_bytes_back (P := Tryz.prog) W 67 9 5 ⟨g, 0, none⟩ c (mtx n) Tryz.underlying67 Tryz.underlying5 Tryz.underlying9 (fun j hj => by
    have : (⟨g, 0, none⟩ : Addr).add j = ⟨g, j, none⟩ := by unfold Addr.add; split <;> simp_all
    rw [this, hcs.cell, hall j _ (List.getElem?_eq_getElem hj)])
  rw [mtx_len] at h
  exact h
theorem mtx_at {n N : Nat} (hn : n ≤ N) {cs : List Value} (hall : ∀ j, j < 8 + N → cs[j]? = some (.int .u8 32)) (j : Nat) (b : UInt8) (hb : (mtx n)[j]? = some b) :
    (byteCells (⟨#[109, 117, 116, 101, 120, 32, 109, 59]⟩ : ByteArray).data.toList ++ cs.drop 8)[j]? = some (.int .u8 (b.toNat : Nat)) := by
  have hj : j < 8 + n := by
    have := (List.getElem?_eq_some_iff.1 hb).1
    rwa [mtx_len] at this
  by_cases h8 : j < 8
  · rw [List.getElem?_append_left (by simpa [byteCells] using h8)]
    rw [mtx, List.getElem?_append_left (by simpa using h8)] at hb
    match j, h8 with
    | 0, _ | 1, _ | 2, _ | 3, _ | 4, _ | 5, _ | 6, _ | 7, _ => cases Option.some.inj hb; rfl
  · rw [List.getElem?_append_right (by simp [byteCells]; omega)]
    rw [mtx, List.getElem?_append_right (by simp; omega)] at hb
    have hl : (byteCells (⟨#[109, 117, 116, 101, 120, 32, 109, 59]⟩ : ByteArray).data.toList).length = 8 := rfl
    rw [hl, List.getElem?_drop, hall _ (by omega)]
    simp only [List.length_cons, List.length_nil, Nat.reduceAdd] at hb
    have := List.mem_of_getElem? hb
    obtain rfl := List.eq_of_mem_replicate this
    rfl
end Go.Proofs.YtjkgepppoopheaaGreatDoor

namespace Go.Proofs.YtjkgepppoopheaaGreatDoor
open Go.RowKit Go.Shelf

def msg : ByteArray := ⟨#[109, 117, 116, 101, 120, 32, 109, 59]⟩
theorem Cells.setRow {w : World} {g : Nat} {t : TypeId} {cs : List Value} (h : Cells w g t cs) (cs' : List Value) : Cells (w.setRow g cs'.toArray) g t cs' := by
  have h' : w.heap[g]? = some (.cells cs.toArray t (0, 0)) := h
  show (w.setRow g cs'.toArray).heap[g]? = _
  unfold World.setRow
  simp [Array.getElem?_modify, h']

set_option maxRecDepth 100000 in
set_option maxHeartbeats 1000000 in
theorem syntaxBounds_any (w : World) (hT : Tabs w) : Calls Tryz.prog 11 #[] w fun e w' => e = .returned (.bool true) ∧ Kept noX w w' := by
  obtain ⟨N, hN⟩ : ∃ N : Nat, N = 65537 := ⟨_, rfl⟩
  obtain ⟨M, hM⟩ : ∃ M : Nat, M = 65536 := ⟨_, rfl⟩
  obtain ⟨n2, hn2⟩ : ∃ n : Nat, N = 8 + (n + 1) := ⟨65528, hN⟩
  obtain ⟨n1, hn1⟩ : ∃ n : Nat, M = 8 + (n + 1) := ⟨65527, hM⟩
  have hmk : ∀ W : World, (Instr.makeSlice 67 (.int .i64 65537) (.int .i64 65537)).run Tryz.prog W = .ok (.slice (some ⟨W.heap.size, 0, none⟩) N N) (W.alloc (.cells (zeros N) 5)) := fun W => by
    rw [hN]; exact run_make_bytes 65537 (by omega) W
  have hZs : (zeros N).toList.length = N := by simp [zeros, madeCells]
  have hsl := fun (a : Addr) (W : World) => slice_most hN hM a W
  have hNb : N ≤ 65537 := by omega
  have HN := Lib.hid hN
  have HM := Lib.hid hM
  have H1 := Lib.hid hn1
  have H2 := Lib.hid hn2
  have HT := Lib.hid hT
  generalize zeros N = Z at hZs hmk
  clear hN hM hn1 hn2 hT
  go_enter Tryz.func11, Tryz.ntmps11
  go_wp2_with fail
  go_loopw [2] (fun i wr => ∃ k : Nat, i = .int .i64 k ∧ k ≤ N ∧ (∃ cs, Cells wr w.heap.size 5 cs ∧ cs.length = N ∧ ∀ j, j < k → cs[j]? = some (.int .u8 32)) ∧ Kept noX w wr) (fun i _ => N - (intOf i).toNat)
  case atStart => exact ⟨0, rfl, Nat.zero_le _, ⟨Z.toList, by simpa using Cells.fresh w 5 Z.toList, hZs, fun j hj => by omega⟩, (Kept.refl _ _).alloc _⟩
  case round =>
    obtain ⟨k, rfl, hk, ⟨cs, hcs, hlen, hall⟩, hkw⟩ := hrel
    clear hmk hZs
    by_cases hlt : k < N
    · have hf := hcs.free k
      have hck : ∃ v, wr.cell? ⟨w.heap.size, k, none⟩ = some v := by
        rw [hcs.cell k]
        exact ⟨_, List.getElem?_eq_getElem (by omega)⟩
      obtain ⟨v, hck⟩ := hck
      have hltd : decide ((k : Int) < (N : Int)) = true := by simpa using hlt
      go_wp2_with fail
      go_roundw
      case rel =>
        refine ⟨k + 1, by go_num, by omega, ⟨_, hcs.put k (.int .u8 32), by simpa using hlen, ?_⟩, hkw.setCell (fun h => by dsimp only at h; omega) _⟩
        intro j hj
        by_cases hjk : j = k
        · subst hjk
          rw [List.getElem?_set_self (by omega)]
        · rw [List.getElem?_set_ne (fun h => hjk h.symm)]
          exact hall j (by omega)
      case measure => simp [intOf]; omega
    · obtain rfl : k = N := by omega
      have hltd : decide ((k : Int) < (k : Int)) = false := by simp
      obtain ⟨W1, hW1⟩ : ∃ W1, W1 = wr.setRow w.heap.size (cs.toArray.toList.take 0 ++ Lib.byteCells msg.data.toList ++ cs.toArray.toList.drop (0 + msg.size)).toArray := ⟨_, rfl⟩
      have hms : msg.size = 8 := rfl
      have hcp : ∀ ty, (Builtin.copy_ #[67, 9] ty #[.slice (some ⟨w.heap.size, 0, none⟩) k k, .string ⟨#[109, 117, 116, 101, 120, 32, 109, 59]⟩]).run Tryz.prog wr = .ok (.int .i64 8) W1 := fun ty => by
        rw [hW1]
        exact Lib.run_copy_row_string wr 67 9 ty 5 w.heap.size 0 k k msg cs.toArray 5 Tryz.underlying67 (by kernel_rfl) hcs (by rw [hms]; have := H2.out; omega) (by rw [hms]; have := H2.out; simp only [List.size_toArray]; omega)
      have hc1 : Cells W1 w.heap.size 5 (Lib.byteCells msg.data.toList ++ cs.drop 8) := by rw [hW1]; exact hcs.setRow _
      have hk1 : Kept noX w W1 := by rw [hW1]; exact hkw.setRow (fun h => absurd h (Nat.lt_irrefl _)) _
      have hcv1 : (convert 67 9 (.slice (some ⟨w.heap.size, 0, none⟩) M k)).run Tryz.prog W1 = .ok (.string (mtxB (n1 + 1))) W1 := by
        rw [H1.out]
        exact string_mtx hc1 (mtx_at (N := n2 + 1) (by have := H1.out; have := H2.out; have := HN.out; have := HM.out; omega) (by rw [← H2.out]; exact hall))
      have HC1 := Lib.hid hc1
      have HALL := Lib.hid hall
      have HK1 := Lib.hid hk1
      clear hW1 hc1 hk1 hcs hall hlen hkw
      go_wp2_with fail
      refine (parse_calls (mtxB (n1 + 1)) (by rw [mtx_size]; have := H1.out; have := HM.out; omega) W1 (HT.out.keep HK1.out).ops (HT.out.keep HK1.out).decls).mono ?_
      rintro e W2 ⟨r, hr, hv, hk2⟩
      obtain ⟨l, rfl, hl1⟩ := mtx_parse n1 hr
      obtain ⟨v, rfl, hrow⟩ := hv
      obtain ⟨A, n, c, rfl, hn, hnc, hcm⟩ := hrow.form
      rw [List.length_map, hl1] at hn
      subst hn
      have hcs1 := HC1.out.kept hk2 (fun h => h)
      have hcv2 : (convert 67 9 (.slice (some ⟨w.heap.size, 0, none⟩) k k)).run Tryz.prog (W2.alloc (.cells #[.int .i64 0, .int .i64 0] 25)) = .ok (.string (mtxB (n2 + 1))) (W2.alloc (.cells #[.int .i64 0, .int .i64 0] 25)) := by
        have := string_mtx (n := n2 + 1) (c := k) (hcs1.alloc (.cells #[.int .i64 0, .int .i64 0] 25)) (mtx_at (Nat.le_refl _) (by rw [← H2.out]; exact HALL.out))
        rwa [← H2.out] at this
      have HK2 := Lib.hid (HK1.out.trans hk2)
      clear hr hrow hnc hcm hcp hcv1 hcs1 hk2
      go_wp2_with fail
      refine (parse_long (mtxB (n2 + 1)) (by rw [mtx_size]; have := H2.out; have := HN.out; omega) (by rw [mtx_size]; have := H2.out; have := HN.out; omega) _).mono ?_
      rintro e W3 ⟨rfl, hk3⟩
      clear hcv2
      go_wp2_with fail
      have hk35 : Kept noX W2 (W3.alloc (.cells #[.int .i64 0, .int .i64 0] 25)) := (((Kept.refl _ _).alloc _).trans hk3).trans ((Kept.refl _ _).alloc _)
      have hp2 := Cells.fresh W3 25 [.int .i64 0, .int .i64 0]
      have hkw := HK2.out.trans hk35
      generalize hW5 : W3.alloc (.cells #[.int .i64 0, .int .i64 0] 25) = W5 at hkw ⊢
      have hp2' : Cells W5 W3.heap.size 25 [.int .i64 0, .int .i64 0] := by rw [← hW5]; exact hp2
      have p2 := hp2'.cell 0; have p3 := hp2'.cell 1
      simp only [List.getElem?_cons_zero, List.getElem?_cons_succ] at p2 p3
      have HK := Lib.hid hkw
      have HW := Lib.hid (works2_any W5 (HT.out.keep hkw))
      clear hp2 hp2' hkw hW5 hk35 hk3 HC1 HALL
      refine (num2_any _ _).mono ?_
      rintro e W6 ⟨rfl, rfl⟩
      go_wp2_with fail
      refine (num2_any _ _).mono ?_
      rintro e W6 ⟨rfl, rfl⟩
      go_wp2_with fail
      refine HW.out.mono ?_
      rintro e W6 ⟨rfl, hk6⟩
      go_wp2
      go_ret
      exact ⟨rfl, HK.out.trans hk6⟩
end Go.Proofs.YtjkgepppoopheaaGreatDoor
