/- What LexBounds answers: true (conditions: none). -/
import Derived.Test.YthknjkmkhjjmmaaTexts
import Derived.Laws.IdiomStrings
namespace Go.Proofs.Ythknjkmkhjjmmaa
open Go.RowKit Go.Shelf

/-- So many blanks. -/
def spaces (n : Nat) : ByteArray := ⟨(List.replicate n (32 : UInt8)).toArray⟩
theorem spaces_list (n : Nat) : (spaces n).data.toList = List.replicate n 32 := rfl
theorem spaces_size (n : Nat) : (spaces n).size = n := by
  show (List.replicate n (32 : UInt8)).toArray.size = n
  simp
theorem skN_spaces (n : Nat) : skN (List.replicate n 32) = n := by
  unfold skN
  induction n with
  | zero => rfl
  | succ n ih =>
    rw [List.replicate_succ]
    unfold runS
    have h1 : (remB false ((32 : UInt8).toNat : Nat) || blkB ((32 : UInt8).toNat : Nat)) = true := by decide
    have h2 : remB false ((32 : UInt8).toNat : Nat) = false := by decide
    rw [if_pos h1, h2, ih]

theorem spaces_good (n : Nat) : goodW (spaces n).data.toList 0 := fun k hk => by omega
theorem spaces_end (n : Nat) : posW (spaces n).data.toList 0 = (spaces n).data.toList.length := by
  show skN _ = _
  rw [spaces_list, skN_spaces, List.length_replicate]

def b1 : ByteArray := ⟨#[97, 98, 99, 100, 101, 102, 103, 104, 105, 106, 107, 108, 109, 110, 111, 112, 32, 50, 49, 52, 55, 52, 56, 51, 54, 52, 55]⟩
def b2 : ByteArray := ⟨#[32, 97, 98, 99, 100, 101, 102, 103, 104, 105, 106, 107, 108, 109, 110, 111, 112, 113]⟩
def b3 : ByteArray := ⟨#[50, 49, 52, 55, 52, 56, 51, 54, 52, 56]⟩
theorem b1_good : goodW b1.data.toList 2 := by decide +kernel
theorem b1_end : posW b1.data.toList 2 = b1.data.toList.length := by decide +kernel
theorem b1_n : (tokD b1 (posW b1.data.toList 1)).num = 2147483647 := by decide +kernel
theorem b2_good : goodW b2.data.toList 0 := by decide +kernel
theorem b2_lt : posW b2.data.toList 0 < b2.data.toList.length := by decide +kernel
theorem b2_err : errW b2.data.toList (posW b2.data.toList 0) = 111 := by decide +kernel
theorem b2_pl : plOf b2.data.toList (posW b2.data.toList 0) = (1, 2) := by decide +kernel
theorem b3_good : goodW b3.data.toList 0 := by decide +kernel
theorem b3_lt : posW b3.data.toList 0 < b3.data.toList.length := by decide +kernel
theorem b3_err : errW b3.data.toList (posW b3.data.toList 0) = 112 := by decide +kernel
theorem b3_pl : plOf b3.data.toList (posW b3.data.toList 0) = (1, 1) := by decide +kernel

/-- A keyword behind a remark. -/
def kwT (k : Nat) : List UInt8 := [35, 10] ++ kwL.getD k []
theorem kwT_all : ∀ k, k < 20 → goodW (kwT k) 1 ∧ posW (kwT k) 1 = (kwT k).length ∧ (wordR ((kwT k).drop (posW (kwT k) 0))).1 = 3 ∧
    ((kwT k).drop (posW (kwT k) 0)).take (wordR ((kwT k).drop (posW (kwT k) 0))).2.1 = kwL.getD k [] := by decide +kernel

theorem elem35 : Try.prog.elem 35 = 5 := by kernel_rfl
theorem slice_most {N M : Nat} (hN : N = 65537) (hM : M = 65536) (a : Addr) (W : World) : (Instr.slice 35 (.slice (some a) N N) none (some (.int .i64 65536)) none).run Try.prog W = .ok (.slice (some a) M N) W := by
  obtain ⟨i0, hi, hz0, hz1, hz2⟩ := info_parts info5
  have h := run_slice_h (P := Try.prog) W 35 (some a) N N (by rw [elem35]; exact Try.underlying35) .i64 65536 (by omega) (by omega)
  rw [h, elem35]
  have : (sizeOf 5).run Try.prog W = .ok 1 W := by simp [sizeOf, typeInfo, hi, hz1]
  rw [this]
  simp only [Result.andThen, sliced, Option.map_some]
  have e : (65536 : Int).toNat = M := by omega
  rw [e, Nat.sub_zero, Nat.sub_zero, Nat.zero_mul]
  have e2 : a.add 0 = a := by unfold Addr.add; split <;> simp_all
  rw [e2]
  split <;> rfl

theorem string_spaces {g n c : Nat} {cs : List Value} {W : World} (hcs : Cells W g 5 cs) (hall : ∀ j, j < n → cs[j]? = some (.int .u8 32)) :
    (convert 35 9 (.slice (some ⟨g, 0, none⟩) n c)).run Try.prog W = .ok (.string (spaces n)) W := by
  have h := run_convert_bytes_back (P := Try.prog) W 35 9 5 ⟨g, 0, none⟩ c (List.replicate n 32) Try.underlying35 Try.underlying5 Try.underlying9 (fun j hj => by
    rw [List.length_replicate] at hj
    have : (⟨g, 0, none⟩ : Addr).add j = ⟨g, j, none⟩ := by unfold Addr.add; split <;> simp_all
    rw [this, hcs.cell, hall j hj, List.getElem_replicate]
    rfl)
  rw [List.length_replicate] at h
  exact h

theorem kwB_at {k : Nat} (hk : k < 20) (h : k < kwB.length) : kwB[k].data.toList = kwL.getD k [] := by
  have h2 : k < kwL.length := by simpa [kwL] using hk
  have := congrArg (fun l => l[k]?) kwB_L
  simp only [List.getElem?_map, List.getElem?_eq_getElem h, List.getElem?_eq_getElem h2, Option.map_some, Option.some.injEq] at this
  rw [this, List.getD_eq_getElem?_getD, List.getElem?_eq_getElem h2]
  rfl
theorem kw_text {k : Nat} {b : ByteArray} (hb : b.data.toList = kwL.getD k []) : ((⟨#[35, 10]⟩ : ByteArray) ++ b).data.toList = kwT k := by
  rw [ByteArray.data_append, Array.toList_append, hb]
  rfl
theorem kw_tok {k : Nat} (hk : k < 20) {b s : ByteArray} (hb : b.data.toList = kwL.getD k []) (hs : s.data.toList = kwT k) :
    goodW s.data.toList 1 ∧ posW s.data.toList 1 = s.data.toList.length ∧ (tokD s (posW s.data.toList 0)).kind = 3 ∧ (tokD s (posW s.data.toList 0)).text = b := by
  obtain ⟨h1, h2, h3, h4⟩ := kwT_all k hk
  rw [hs]
  refine ⟨h1, h2, ?_, ?_⟩
  · show (wordR (s.data.toList.drop _)).1 = 3
    rw [hs]; exact h3
  · show s.extract _ _ = b
    apply ByteArray.ext
    apply Array.toList_inj.1
    rw [extract_list, hs, h4, hb]

theorem num_same (x : Int) (w : World) : Calls Try.prog 14 #[.int .i64 x] w fun e w' => e = .returned (.int .i64 x) ∧ w' = w := (num_any x w).mono fun _ _ h => ⟨h.1, h.2.symm⟩
theorem lt_of_cell {w : World} {g i : Nat} {v : Value} (h : w.cell? ⟨g, i, none⟩ = some v) : g < w.heap.size := by
  refine Nat.lt_of_not_le (fun hn => ?_)
  have : w.heap[g]? = none := Array.getElem?_eq_none hn
  simp [World.cell?, this] at h
theorem self_beq (b : ByteArray) : (b.toList != b.toList) = false := by simp

set_option maxRecDepth 100000 in
set_option maxHeartbeats 1000000 in
theorem lexBounds_any (w : World) : Calls Try.prog 7 #[] w fun e w' => e = .returned (.bool true) ∧ Kept noX w w' := by
  obtain ⟨N, hN⟩ : ∃ N : Nat, N = 65537 := ⟨_, rfl⟩
  obtain ⟨M, hM⟩ : ∃ M : Nat, M = 65536 := ⟨_, rfl⟩
  have hmk : ∀ W : World, (Instr.makeSlice 35 (.int .i64 65537) (.int .i64 65537)).run Try.prog W = .ok (.slice (some ⟨W.heap.size, 0, none⟩) N N) (W.alloc (.cells (zeros N) 5)) := fun W => by
    rw [hN]; exact run_make_bytes 65537 (by omega) W
  have hZs : (zeros N).toList.length = N := by simp [zeros, madeCells]
  have hsl := fun (a : Addr) (W : World) => slice_most hN hM a W
  have hNb : N ≤ 65537 := by omega
  have HN := Lib.hid hN
  have HM := Lib.hid hM
  generalize zeros N = Z at hZs hmk
  clear hN hM
  go_enter Try.func7, Try.ntmps7
  go_wp2_with fail
  go_loopw [2] (fun i wr => ∃ k : Nat, i = .int .i64 k ∧ k ≤ N ∧ (∃ cs, Cells wr w.heap.size 5 cs ∧ cs.length = N ∧ ∀ j, j < k → cs[j]? = some (.int .u8 32)) ∧ Kept noX w wr) (fun i _ => N - (intOf i).toNat)
  case atStart => exact ⟨0, rfl, Nat.zero_le _, ⟨Z.toList, by simpa using Cells.fresh w 5 Z.toList, hZs, fun j hj => by omega⟩, (Kept.refl _ _).alloc _⟩
  case round =>
    obtain ⟨k, rfl, hk, ⟨cs, hcs, hlen, hall⟩, hkw⟩ := hrel
    clear hmk hZs
    by_cases hlt : k < N
    · have hf := hcs.free k
      have hck : ∃ v, wr.cell? ⟨w.heap.size, k, none⟩ = some v := by
        rw [hcs.cell k]
        exact ⟨_, List.getElem?_eq_getElem (by omega)⟩
      obtain ⟨v, hck⟩ := hck
      have hltd : decide ((k : Int) < (N : Int)) = true := by simpa using hlt
      go_wp2_with fail
      go_roundw
      case rel =>
        refine ⟨k + 1, by go_num, by omega, ⟨_, hcs.put k (.int .u8 32), by simpa using hlen, ?_⟩, hkw.setCell (fun h => by dsimp only at h; omega) _⟩
        intro j hj
        by_cases hjk : j = k
        · subst hjk
          rw [List.getElem?_set_self (by omega)]
        · rw [List.getElem?_set_ne (fun h => hjk h.symm)]
          exact hall j (by omega)
      case measure => simp [intOf]; omega
    · obtain rfl : k = N := by omega
      have hltd : decide ((k : Int) < (k : Int)) = false := by simp
      have hcv1 := string_spaces (n := M) (c := k) hcs (fun j hj => hall j (by have := HN.out; have := HM.out; omega))
      go_wp2_with fail
      refine (lex_calls (spaces M) (by rw [spaces_size]; have := HM.out; omega) wr).mono ?_
      intro e W1 h1
      obtain ⟨v1, rfl, hrow1, _, hk1⟩ := h1.all (spaces_good M) (spaces_end M)
      clear h1 hcv1
      obtain ⟨A1, c1, rfl, _, _⟩ := hrow1.form
      have hcs1 := hcs.kept hk1 (fun h => h)
      have hcv2 := string_spaces (n := k) (c := k) (hcs1.alloc (.cells #[.int .i64 0, .int .i64 0] 25)) hall
      go_wp2_with fail
      refine (lex_long (spaces k) (by rw [spaces_size]; have := HN.out; omega) (by rw [spaces_size]; omega) _).mono ?_
      rintro e W2 ⟨rfl, hk2⟩
      go_wp2_with fail
      refine (lex_calls b1 (by decide) _).mono ?_
      intro e W3 h3
      obtain ⟨v3, rfl, hrow3, _, hk3⟩ := h3.all b1_good b1_end
      clear h3
      go_wp2_with fail
      refine (lex_calls b2 (by decide) _).mono ?_
      intro e W4 h4
      obtain ⟨rfl, hk4⟩ := h4.bad b2_good b2_lt (by rw [b2_err]; decide)
      rw [b2_err, b2_pl]
      clear h4
      go_wp2_with fail
      refine (lex_calls b3 (by decide) _).mono ?_
      intro e W5 h5
      obtain ⟨rfl, hk5⟩ := h5.bad b3_good b3_lt (by rw [b3_err]; decide)
      rw [b3_err, b3_pl]
      clear h5
      go_wp2_with fail
      refine (rwords_any _).mono ?_
      rintro e W6 ⟨rfl, hws, hk6⟩
      have hp := ((((((Cells.fresh W2 25 [.int .i64 0, .int .i64 0]).kept hk3 (fun h => h)).alloc (.cells #[.int .i64 0, .int .i64 0] 25)).kept hk4 (fun h => h)).alloc (.cells #[.int .i64 1, .int .i64 2] 25)).kept hk5 (fun h => h)).alloc (.cells #[.int .i64 1, .int .i64 1] 25) |>.kept hk6 (fun h => h)
      have hq := ((Cells.fresh W4 25 [.int .i64 1, .int .i64 2]).kept hk5 (fun h => h)).alloc (.cells #[.int .i64 1, .int .i64 1] 25) |>.kept hk6 (fun h => h)
      have hr := (Cells.fresh W5 25 [.int .i64 1, .int .i64 1]).kept hk6 (fun h => h)
      have h36 : Kept noX W3 W6 := ((((((Kept.refl noX W3).alloc (.cells #[.int .i64 0, .int .i64 0] 25)).trans hk4).alloc (.cells #[.int .i64 1, .int .i64 2] 25)).trans hk5).alloc (.cells #[.int .i64 1, .int .i64 1] 25)).trans hk6
      have hn3 := hrow3.kept h36 (fun _ _ h => h)
      have hkw6 : Kept noX w W6 := (((((hkw.trans hk1).alloc (.cells #[.int .i64 0, .int .i64 0] 25)).trans hk2).alloc (.cells #[.int .i64 0, .int .i64 0] 25)).trans hk3).trans h36
      obtain ⟨G, hG⟩ : ∃ G, G = (W5.alloc (.cells #[.int .i64 1, .int .i64 1] 25)).heap.size := ⟨_, rfl⟩
      rw [← hG] at hws ⊢
      generalize W2.heap.size = P2 at hp
      generalize W4.heap.size = P4 at hq
      generalize W5.heap.size = P5 at hr
      clear hG h36 hk1 hk2 hk3 hk4 hk5 hk6 hrow1 hrow3 hcs hcs1 hcv2 hall hlen hsl hkw hltd hlt hk
      go_wp2_with fail
      go_loopw [19] (fun i wr => ∃ k : Nat, i = .int .i64 k ∧ k ≤ 20 ∧ Kept noX W6 wr) (fun i _ => 20 - (intOf i).toNat)
      case atStart => exact ⟨0, rfl, Nat.zero_le _, Kept.refl _ _⟩
      case round =>
        obtain ⟨m, rfl, hm, hkr⟩ := hrel
        have HKR := Lib.hid hkr
        by_cases hlt : m < 20
        · have hmb : m < kwB.length := by simpa [kwB] using hlt
          have hc := row_at (hws.kept hkr (fun h => h)) hmb
          have hbl := kwB_at hlt hmb
          generalize kwB[m] = b at hc hbl
          obtain ⟨t1, t2, t3, t4⟩ := kw_tok hlt hbl (kw_text hbl)
          have hb16 : b.size ≤ 16 := by
            have h1 : ∀ l ∈ kwL, l.length ≤ 16 := by decide
            have h2 : (kwL.getD m []).length ≤ 16 := by
              have h3 : m < kwL.length := by simpa [kwL] using hlt
              rw [List.getD_eq_getElem?_getD, List.getElem?_eq_getElem h3]
              exact h1 _ (List.getElem_mem h3)
            rw [← hbl] at h2
            have h4 : b.data.toList.length = b.size := by simp
            omega
          have hbs : (((⟨#[35, 10]⟩ : ByteArray) ++ b)).size ≤ 65536 := by
            rw [ByteArray.size_append]
            have h5 : (⟨#[35, 10]⟩ : ByteArray).size = 2 := rfl
            omega
          have HBS := Lib.hid hbs
          clear hbs
          clear hbl hmb hkr hp hq hr hn3
          go_wp2_with fail
          refine (lex_calls _ HBS.out wr).mono ?_
          intro e W7 h7
          obtain ⟨v7, rfl, hrow7, _, hk7⟩ := h7.all t1 t2
          clear h7 t1 t2 HBS
          obtain ⟨g7, c7, rfl, hc7, hcell7⟩ := hrow7.at_ (k := 0) (by omega)
          have a0 := hcell7 0 (by omega); have a1 := hcell7 1 (by omega)
          simp only [TokD.cells, t3, t4, List.getElem?_cons_zero, List.getElem?_cons_succ] at a0 a1
          have hGl : G < wr.heap.size := by have := hws.lt; have := HKR.out.size; omega
          have hcw : W7.cell? ⟨G, m, none⟩ = some (.string b) := (World.cell?_of_block (w := wr) (w' := W7) (a := ⟨G, m, none⟩) (hk7.block G hGl (fun h => h))).trans hc
          have hG7 : G < W7.heap.size := by have := hk7.size; omega
          have hg7 : g7 < W7.heap.size := lt_of_cell a0
          have hw7 : (W7.alloc (.cells #[.int .i64 0, .int .i64 0] 25)).cell? ⟨G, m, none⟩ = some (.string b) := (World.cell?_alloc_past _ G m hG7).trans hcw
          have a0' : (W7.alloc (.cells #[.int .i64 0, .int .i64 0] 25)).cell? ⟨g7, 0, none⟩ = some (.int .i64 3) := (World.cell?_alloc_past _ g7 0 hg7).trans a0
          have a1' : (W7.alloc (.cells #[.int .i64 0, .int .i64 0] 25)).cell? ⟨g7, 1, none⟩ = some (.string b) := (World.cell?_alloc_past _ g7 1 hg7).trans a1
          clear hcw a0 a1
          clear hcell7 hrow7 t3 t4 hc
          have HK7 := Lib.hid (hk7.alloc (.cells #[.int .i64 0, .int .i64 0] 25))
          clear hk7
          have hsb := self_beq b
          go_wp2_with fail
          generalize W7.alloc (.cells #[.int .i64 0, .int .i64 0] 25) = W8 at hw7 a0' a1' HK7 ⊢
          go_quiet (first | (go_at_call 14; refine Calls.quiet_of_same (num_same _ _)))
          go_wp2
          go_roundw
          case rel => exact ⟨m + 1, by go_num, by omega, (HKR.out.trans HK7.out).drewN _⟩
          case measure => simp [intOf]; omega
        · obtain rfl : m = 20 := by omega
          have p0 := (hp.kept hkr (fun h => h)).cell 0; have p1 := (hp.kept hkr (fun h => h)).cell 1
          have q0 := (hq.kept hkr (fun h => h)).cell 0; have q1 := (hq.kept hkr (fun h => h)).cell 1
          have r0 := (hr.kept hkr (fun h => h)).cell 0; have r1 := (hr.kept hkr (fun h => h)).cell 1
          simp only [List.getElem?_cons_zero, List.getElem?_cons_succ] at p0 p1 q0 q1 r0 r1
          obtain ⟨g3, c3, rfl, hc3, hcell3⟩ := (hn3.kept hkr (fun _ _ h => h)).at_ (k := 1) (by omega)
          have n2 := hcell3 2 (by omega)
          simp only [TokD.cells, b1_n, List.getElem?_cons_zero, List.getElem?_cons_succ] at n2
          clear hcell3 hn3 hp hq hr hws hkr
          have HKW := Lib.hid (hkw6.trans HKR.out)
          clear hkw6 HKR
          go_wp2_with (first | (go_at_call 14; refine (num_any _ _).mono ?_; rintro e W3' ⟨rfl, rfl⟩) | (go_at_call 10; refine (works_any _).mono ?_; rintro e W9 ⟨rfl, hk9⟩))
          go_ret
          exact ⟨rfl, HKW.out.trans hk9⟩
end Go.Proofs.Ythknjkmkhjjmmaa
