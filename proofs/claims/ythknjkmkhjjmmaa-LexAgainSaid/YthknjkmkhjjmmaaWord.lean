/- What (*reader).word does: the word that stands at the reader's place, or its error (conditions: the text is of at most 1000000 bytes, and not at its end). -/
import Derived.Test.YthknjkmkhjjmmaaSign
import Derived.Test.YthknjkmkhjjmmaaNum
namespace Go.Proofs.Ythknjkmkhjjmmaa
open Go.RowKit Go.Shelf

/-- The word with which a text begins: its kind, how long it is, its number, its error. -/
def wordR : List UInt8 → Int × Nat × Int × Int
  | [] => (0, 0, 0, 110)
  | b :: l =>
    if letB (b.toNat : Nat) then
      (if (b :: l).take (runQ alnB (b :: l)) ∈ kwL then 3 else 1, runQ alnB (b :: l), 0, if runQ alnB (b :: l) ≤ 16 then 0 else 111)
    else if digB (b.toNat : Nat) then
      (2, runQ alnB (b :: l), numRes ((b :: l).take (runQ alnB (b :: l))), if numOk ((b :: l).take (runQ alnB (b :: l))) then 0 else 112)
    else (4, sgN (b :: l), 0, if sgN (b :: l) = 0 then 110 else 0)

/-- A word as Go has it, behind byte i of a text. -/
def tokV (s : ByteArray) (i : Nat) (r : Int × Nat × Int × Int) : List Value :=
  [.int .i64 r.1, .string (s.extract i (i + r.2.1)), .int .i64 r.2.2.1, .int .i64 ((plOf s.data.toList i).1 : Nat), .int .i64 ((plOf s.data.toList i).2 : Nat)]

def tok0 : List Value := [.int .i64 0, .string ⟨#[]⟩, .int .i64 0, .int .i64 0, .int .i64 0]

theorem Tab.ne {w : World} {M g : Nat} {v : Int} {ks : List (List UInt8)} {t : TypeId} {cs : List Value} (h : Tab w M v ks) (hc : Cells w g t cs) : M ≠ g := by
  rintro rfl
  obtain ⟨n, es, clock, hb, _⟩ := h
  unfold Cells at hc
  rw [hb] at hc
  cases hc

theorem wordR_let {l : List UInt8} {b : UInt8} (hb : l[0]? = some b) (h : letB (b.toNat : Nat) = true) :
    wordR l = (if l.take (runQ alnB l) ∈ kwL then 3 else 1, runQ alnB l, 0, if runQ alnB l ≤ 16 then 0 else 111) := by
  cases l with
  | nil => simp at hb
  | cons a l => simp only [List.getElem?_cons_zero, Option.some.injEq] at hb; subst hb; simp only [wordR, h, if_true]
theorem wordR_dig {l : List UInt8} {b : UInt8} (hb : l[0]? = some b) (h : letB (b.toNat : Nat) = false) (h2 : digB (b.toNat : Nat) = true) :
    wordR l = (2, runQ alnB l, numRes (l.take (runQ alnB l)), if numOk (l.take (runQ alnB l)) then 0 else 112) := by
  cases l with
  | nil => simp at hb
  | cons a l => simp only [List.getElem?_cons_zero, Option.some.injEq] at hb; subst hb; simp [wordR, h, h2]
theorem wordR_sig {l : List UInt8} {b : UInt8} (hb : l[0]? = some b) (h : letB (b.toNat : Nat) = false) (h2 : digB (b.toNat : Nat) = false) :
    wordR l = (4, sgN l, 0, if sgN l = 0 then 110 else 0) := by
  cases l with
  | nil => simp at hb
  | cons a l => simp only [List.getElem?_cons_zero, Option.some.injEq] at hb; subst hb; simp [wordR, h, h2]
theorem kw_short {t : ByteArray} (h : t.data.toList ∈ kwL) : t.size ≤ 16 := by
  have e : ∀ l ∈ kwL, l.length ≤ 16 := by decide
  have := e _ h
  simpa using this

theorem sgN_le {l : List UInt8} {i0 n : Nat} (hl : l.length = n - i0) (hi : i0 < n) : i0 + sgN l ≤ n := by
  unfold sgN
  split
  · omega
  · split <;> omega

/-- How all stands while a word is read: the reader, the result's cells, the word's own, the tables. -/
structure WS (w W : World) (B K S R T : Nat) (s : ByteArray) (k : Nat) (tok : List Value) : Prop where
  rdr : Rdr W B s k
  res : Cells W R 40 tok0
  tmp : Cells W T 40 tok
  kw : Tab W K 3 kwL
  sg : Tab W S 4 sgL
  rb : R ≠ B
  tb : T ≠ B
  tr : T ≠ R
  rw : w.heap.size ≤ R
  tw : w.heap.size ≤ T
  kept : Kept (· = B) w W

namespace WS
variable {w W W' : World} {B K S R T : Nat} {s : ByteArray} {k : Nat} {tok : List Value}
theorem kept' {k' : Nat} (h : WS w W B K S R T s k tok) (hr : Rdr W' B s k') (hk : Kept (· = B) W W') : WS w W' B K S R T s k' tok :=
  ⟨hr, h.res.kept hk h.rb, h.tmp.kept hk h.tb, h.kw.kept hk (h.kw.ne h.rdr), h.sg.kept hk (h.sg.ne h.rdr), h.rb, h.tb, h.tr, h.rw, h.tw, h.kept.trans hk⟩
theorem same (h : WS w W B K S R T s k tok) (hk : Kept noX W W') : WS w W' B K S R T s k tok :=
  h.kept' (h.rdr.kept hk (fun h => h)) hk.any
theorem set_ (h : WS w W B K S R T s k tok) (i : Nat) (v : Value) : WS w (W.setCell ⟨T, i, none⟩ v) B K S R T s k (tok.set i v) := by
  have hk : Kept (· = T) W (W.setCell ⟨T, i, none⟩ v) := (Kept.refl _ _).setCell (fun _ => by rfl) _
  refine ⟨h.rdr.kept hk (fun e => h.tb e.symm), h.res.kept hk (fun e => h.tr e.symm), h.tmp.put i v, h.kw.kept hk (h.kw.ne h.tmp), h.sg.kept hk (h.sg.ne h.tmp), h.rb, h.tb, h.tr, h.rw, h.tw, h.kept.setCell (fun hh => ?_) v⟩
  have := h.tw
  dsimp only at hh
  omega
theorem fin (h : WS w W B K S R T s k tok) (a0 a1 a2 a3 a4 : Value) :
    Cells (((((W.setCell ⟨R, 0, none⟩ a0).setCell ⟨R, 1, none⟩ a1).setCell ⟨R, 2, none⟩ a2).setCell ⟨R, 3, none⟩ a3).setCell ⟨R, 4, none⟩ a4) R 40 [a0, a1, a2, a3, a4] ∧
    Rdr (((((W.setCell ⟨R, 0, none⟩ a0).setCell ⟨R, 1, none⟩ a1).setCell ⟨R, 2, none⟩ a2).setCell ⟨R, 3, none⟩ a3).setCell ⟨R, 4, none⟩ a4) B s k ∧
    Kept (· = B) w (((((W.setCell ⟨R, 0, none⟩ a0).setCell ⟨R, 1, none⟩ a1).setCell ⟨R, 2, none⟩ a2).setCell ⟨R, 3, none⟩ a3).setCell ⟨R, 4, none⟩ a4) := by
  have hk : Kept (· = R) W (((((W.setCell ⟨R, 0, none⟩ a0).setCell ⟨R, 1, none⟩ a1).setCell ⟨R, 2, none⟩ a2).setCell ⟨R, 3, none⟩ a3).setCell ⟨R, 4, none⟩ a4) :=
    (((((Kept.refl _ _).setCell (fun _ => by rfl) _).setCell (fun _ => by rfl) _).setCell (fun _ => by rfl) _).setCell (fun _ => by rfl) _).setCell (fun _ => by rfl) _
  exact ⟨((((h.res.put 0 a0).put 1 a1).put 2 a2).put 3 a3).put 4 a4, h.rdr.kept hk (fun e => h.rb e.symm), h.kept.join hk (fun i hi hlt => by have := h.rw; omega)⟩
theorem cell (h : WS w W B K S R T s k tok) (i : Nat) : W.cell? ⟨T, i, none⟩ = tok[i]? := h.tmp.cell i
theorem free (h : WS w W B K S R T s k tok) (i : Nat) : W.frozen? ⟨T, i, none⟩ = false := h.tmp.free i
end WS

theorem results37_of {W : World} {R : Nat} {tmps : Array Value} {c0 c1 c2 c3 c4 e : Value} (h : Cells W R 40 [c0, c1, c2, c3, c4]) (h6 : tmps.getD 6 undef = .pointer (some ⟨R, 0, none⟩)) (h7 : tmps.getD 7 undef = e) :
    (results Try.f37 tmps).run Try.prog W = .ok (.tuple #[.agg #[c0, c1, c2, c3, c4], e]) W := by
  have d0 := h.cell 0; have d1 := h.cell 1; have d2 := h.cell 2; have d3 := h.cell 3; have d4 := h.cell 4
  simp only [List.getElem?_cons_zero, List.getElem?_cons_succ] at d0 d1 d2 d3 d4
  rw [Array.getD_eq_getD_getElem?] at h6 h7
  simp [results, Try.results37, go_sem, h6, h7, d0, d1, d2, d3, d4]

set_option maxRecDepth 100000 in
set_option maxHeartbeats 1000000 in
theorem word_any (B K S : Nat) (s : ByteArray) (hs : s.size ≤ 1000000) (i0 : Nat) (hi0 : i0 < s.size) (w : World) (hr : Rdr w B s i0) (hK : Tab w K 3 kwL) (hS : Tab w S 4 sgL) :
    Calls Try.prog 37 #[.pointer (some ⟨B, 0, none⟩), .map (some K), .map (some S)] w fun e w' =>
      e = .returned (.tuple #[.agg (tokV s i0 (wordR (s.data.toList.drop i0))).toArray, .int .i64 (wordR (s.data.toList.drop i0)).2.2.2]) ∧ Rdr w' B s (i0 + (wordR (s.data.toList.drop i0)).2.1) ∧ Kept (· = B) w w' := by
  have hB : B < w.heap.size := Cells.lt hr
  obtain ⟨c0, c1, c2, c3, f0, f1, f2, f3⟩ := hr.is
  go_enter Try.func37, Try.ntmps37
  go_wp2_with fail
  go_quiet (fail)
  go_wp2_with fail
  have hws : WS w (((w.alloc (.cells tok0.toArray 40)).alloc (.cells [.int .i64 0, .string ⟨#[]⟩, .int .i64 0, .int .i64 ((plOf s.data.toList i0).1 : Nat), .int .i64 ((plOf s.data.toList i0).2 : Nat)].toArray 40)).drewN nq) B K S w.heap.size (w.heap.size + 1) s i0
      [.int .i64 0, .string ⟨#[]⟩, .int .i64 0, .int .i64 ((plOf s.data.toList i0).1 : Nat), .int .i64 ((plOf s.data.toList i0).2 : Nat)] := by
    have hk : Kept noX w (((w.alloc (.cells tok0.toArray 40)).alloc (.cells [.int .i64 0, .string ⟨#[]⟩, .int .i64 0, .int .i64 ((plOf s.data.toList i0).1 : Nat), .int .i64 ((plOf s.data.toList i0).2 : Nat)].toArray 40)).drewN nq) := (((Kept.refl _ _).alloc _).alloc _).drewN _
    have h2 := Cells.fresh (w.alloc (.cells tok0.toArray 40)) 40 [.int .i64 0, .string ⟨#[]⟩, .int .i64 0, .int .i64 ((plOf s.data.toList i0).1 : Nat), .int .i64 ((plOf s.data.toList i0).2 : Nat)]
    rw [World.size_alloc] at h2
    exact ⟨hr.kept hk (fun h => h), (Cells.fresh w 40 tok0).alloc _, h2, hK.kept hk (fun h => h), hS.kept hk (fun h => h), by omega, by omega, by omega, Nat.le_refl _, by omega, hk.any⟩
  clear hr hK hS c0 c1 c2 c3 f0 f1 f2 f3
  generalize hW : ((w.alloc (.cells #[.int .i64 0, .string ⟨#[]⟩, .int .i64 0, .int .i64 0, .int .i64 0] 40)).alloc (.cells #[.int .i64 0, .string ⟨#[]⟩, .int .i64 0, .int .i64 ((plOf s.data.toList i0).1 : Nat), .int .i64 ((plOf s.data.toList i0).2 : Nat)] 40)).drewN nq = W0
  have hws' : WS w W0 B K S w.heap.size (w.heap.size + 1) s i0 [.int .i64 0, .string ⟨#[]⟩, .int .i64 0, .int .i64 ((plOf s.data.toList i0).1 : Nat), .int .i64 ((plOf s.data.toList i0).2 : Nat)] := by rw [← hW]; exact hws
  clear hws hW
  generalize w.heap.size = R at hws' ⊢
  have hdl : (s.data.toList.drop i0).length = s.size - i0 := drop_len
  have hn1 : i0 + runQ alnB (s.data.toList.drop i0) ≤ s.size := by
    have : runQ alnB (s.data.toList.drop i0) ≤ _ := runS_le _ _ _ _
    omega
  have HDL := Lib.hid hdl
  clear hdl
  have hb0 := drop_at (s := s) (Nat.le_refl i0) hi0
  rw [Nat.sub_self] at hb0
  have HB0 := Lib.hid hb0
  clear hb0
  cases hl : letB (s[i0].toNat : Nat) with
  | true =>
    have HW := Lib.hid (wordR_let HB0.out hl)
    have HC : Hid (∀ W, Calls Try.prog 25 #[.int .u8 (s[i0].toNat : Nat)] W fun e w' => e = .returned (.bool true) ∧ W = w') := Lib.hid (fun W => by rw [← hl]; exact letter_any _ W)
    clear hl
    refine (HC.out _).mono ?_
    rintro e W0' ⟨rfl, rfl⟩
    go_wp2_with fail
    refine (off_aln B s hs i0 (by omega) _ hws'.rdr).mono ?_
    rintro e W1 ⟨rfl, hr1, hk1⟩
    obtain ⟨t, ht⟩ : ∃ t, t = s.extract i0 (i0 + runQ alnB (s.data.toList.drop i0)) := ⟨_, rfl⟩
    rw [← ht]
    have h1 := hws'.kept' hr1 hk1
    have htl : t.data.toList = (s.data.toList.drop i0).take (runQ alnB (s.data.toList.drop i0)) := by rw [ht, extract_list]
    have hts : t.size = runQ alnB (s.data.toList.drop i0) := by rw [ht, ByteArray.size_extract]; omega
    have HT := Lib.hid ht
    have HTL := Lib.hid htl
    have HTS := Lib.hid hts
    have hts2 : t.size ≤ 1000000 := by omega
    clear ht htl hts hr1 hk1 hws' HC
    obtain ⟨k1, hk1⟩ : ∃ k, k = i0 + runQ alnB (s.data.toList.drop i0) := ⟨_, rfl⟩
    rw [← hk1] at h1
    have HK1 := Lib.hid hk1
    clear hk1
    have h3 := (h1.set_ 0 (.int .i64 1)).set_ 1 (.string t)
    have hlk := h3.kw.look t (by unfold maxLen; omega)
    have d0 := h1.cell 0; have d1 := h1.cell 1; have d2 := h1.cell 2; have d3 := h1.cell 3; have d4 := h1.cell 4
    have g0 := h1.free 0; have g1 := h1.free 1; have g2 := h1.free 2; have g3 := h1.free 3; have g4 := h1.free 4
    simp only [List.getElem?_cons_zero, List.getElem?_cons_succ] at d0 d1 d2 d3 d4
    by_cases hkw : t.data.toList ∈ kwL
    · rw [if_pos hkw] at hlk
      have ht16 : t.size ≤ 16 := kw_short hkw
      have HKW := Lib.hid hkw
      clear hkw
      have h4 := h3.set_ 0 (.int .i64 3)
      clear h3
      go_wp2_with fail
      refine (clone_any t _ hts2).mono ?_
      rintro e W2 ⟨rfl, hk2⟩
      have h5 := h4.same hk2
      clear h1 h4 hk2 hlk d0 d1 d2 d3 d4 g0 g1 g2 g3 g4
      simp only [List.set_cons_zero, List.set_cons_succ] at h5
      have d0 := h5.cell 0; have d1 := h5.cell 1; have d2 := h5.cell 2; have d3 := h5.cell 3; have d4 := h5.cell 4
      have g0 := h5.free 0; have g1 := h5.free 1; have g2 := h5.free 2; have g3 := h5.free 3; have g4 := h5.free 4
      have r0 := h5.res.cell 0; have r1 := h5.res.cell 1; have r2 := h5.res.cell 2; have r3 := h5.res.cell 3; have r4 := h5.res.cell 4
      have q0 := h5.res.free 0; have q1 := h5.res.free 1; have q2 := h5.res.free 2; have q3 := h5.res.free 3; have q4 := h5.res.free 4
      simp only [tok0, List.getElem?_cons_zero, List.getElem?_cons_succ] at d0 d1 d2 d3 d4 r0 r1 r2 r3 r4
      go_wp2
      obtain ⟨hf1, hf2, hf3⟩ := (h5.set_ 1 (.string t)).fin (.int .i64 3) (.string t) (.int .i64 0) (.int .i64 ((plOf s.data.toList i0).1 : Nat)) (.int .i64 ((plOf s.data.toList i0).2 : Nat))
      refine bodyPost_ret (results37_of hf1 rfl rfl) rfl ?_
      refine ⟨?_, ?_, hf3⟩
      · rw [HW.out, ← HTL.out, if_pos HKW.out, if_pos (by rw [← HTS.out]; omega)]
        unfold tokV
        rw [← HT.out]
        rfl
      · rw [HW.out]
        rw [HK1.out] at hf2
        exact hf2
    · rw [if_neg hkw] at hlk
      have HKW := Lib.hid hkw
      clear hkw
      by_cases ht16 : t.size ≤ 16
      · go_wp2_with fail
        refine (clone_any t _ hts2).mono ?_
        rintro e W2 ⟨rfl, hk2⟩
        have h5 := h3.same hk2
        clear h1 h3 hk2 hlk d0 d1 d2 d3 d4 g0 g1 g2 g3 g4
        simp only [List.set_cons_zero, List.set_cons_succ] at h5
        have d0 := h5.cell 0; have d1 := h5.cell 1; have d2 := h5.cell 2; have d3 := h5.cell 3; have d4 := h5.cell 4
        have g0 := h5.free 0; have g1 := h5.free 1; have g2 := h5.free 2; have g3 := h5.free 3; have g4 := h5.free 4
        have r0 := h5.res.cell 0; have r1 := h5.res.cell 1; have r2 := h5.res.cell 2; have r3 := h5.res.cell 3; have r4 := h5.res.cell 4
        have q0 := h5.res.free 0; have q1 := h5.res.free 1; have q2 := h5.res.free 2; have q3 := h5.res.free 3; have q4 := h5.res.free 4
        simp only [tok0, List.getElem?_cons_zero, List.getElem?_cons_succ] at d0 d1 d2 d3 d4 r0 r1 r2 r3 r4
        go_wp2
        obtain ⟨hf1, hf2, hf3⟩ := (h5.set_ 1 (.string t)).fin (.int .i64 1) (.string t) (.int .i64 0) (.int .i64 ((plOf s.data.toList i0).1 : Nat)) (.int .i64 ((plOf s.data.toList i0).2 : Nat))
        refine bodyPost_ret (results37_of hf1 rfl rfl) rfl ?_
        refine ⟨?_, ?_, hf3⟩
        · rw [HW.out, ← HTL.out, if_neg HKW.out, if_pos (by rw [← HTS.out]; omega)]
          unfold tokV
          rw [← HT.out]
          rfl
        · rw [HW.out]
          rw [HK1.out] at hf2
          exact hf2
      · have h5 := h3
        simp only [List.set_cons_zero, List.set_cons_succ] at h5
        have r0 := h1.res.cell 0; have r1 := h1.res.cell 1; have r2 := h1.res.cell 2; have r3 := h1.res.cell 3; have r4 := h1.res.cell 4
        have q0 := h1.res.free 0; have q1 := h1.res.free 1; have q2 := h1.res.free 2; have q3 := h1.res.free 3; have q4 := h1.res.free 4
        simp only [tok0, List.getElem?_cons_zero, List.getElem?_cons_succ] at r0 r1 r2 r3 r4
        clear h1 h3
        go_wp2
        obtain ⟨hf1, hf2, hf3⟩ := h5.fin (.int .i64 1) (.string t) (.int .i64 0) (.int .i64 ((plOf s.data.toList i0).1 : Nat)) (.int .i64 ((plOf s.data.toList i0).2 : Nat))
        refine bodyPost_ret (results37_of hf1 rfl rfl) rfl ?_
        refine ⟨?_, ?_, hf3⟩
        · rw [HW.out, ← HTL.out, if_neg HKW.out, if_neg (by rw [← HTS.out]; omega)]
          unfold tokV
          rw [← HT.out]
          rfl
        · rw [HW.out]
          rw [HK1.out] at hf2
          exact hf2
  | false =>
    have HC : Hid (∀ W, Calls Try.prog 25 #[.int .u8 (s[i0].toNat : Nat)] W fun e w' => e = .returned (.bool false) ∧ W = w') := Lib.hid (fun W => by rw [← hl]; exact letter_any _ W)
    cases hdg : digB (s[i0].toNat : Nat) with
    | true =>
      have HW := Lib.hid (wordR_dig HB0.out hl hdg)
      have HC2 : Hid (∀ W, Calls Try.prog 41 #[.int .u8 (s[i0].toNat : Nat)] W fun e w' => e = .returned (.bool true) ∧ W = w') := Lib.hid (fun W => by rw [← hdg]; exact digit_any _ W)
      clear hl hdg
      refine (HC.out _).mono ?_
      rintro e W0' ⟨rfl, rfl⟩
      go_wp2_with fail
      refine (HC2.out _).mono ?_
      rintro e W0' ⟨rfl, rfl⟩
      go_wp2_with fail
      refine (off_aln B s hs i0 (by omega) _ hws'.rdr).mono ?_
      rintro e W1 ⟨rfl, hr1, hk1⟩
      obtain ⟨t, ht⟩ : ∃ t, t = s.extract i0 (i0 + runQ alnB (s.data.toList.drop i0)) := ⟨_, rfl⟩
      rw [← ht]
      have h1 := hws'.kept' hr1 hk1
      have htl : t.data.toList = (s.data.toList.drop i0).take (runQ alnB (s.data.toList.drop i0)) := by rw [ht, extract_list]
      have hts : t.size = runQ alnB (s.data.toList.drop i0) := by rw [ht, ByteArray.size_extract]; omega
      have HT := Lib.hid ht
      have HTL := Lib.hid htl
      have HTS := Lib.hid hts
      have hts2 : t.size ≤ 1000000 := by omega
      clear ht htl hts hr1 hk1 hws' HC HC2
      obtain ⟨k1, hk1⟩ : ∃ k, k = i0 + runQ alnB (s.data.toList.drop i0) := ⟨_, rfl⟩
      rw [← hk1] at h1
      have HK1 := Lib.hid hk1
      clear hk1
      have h3 := (h1.set_ 0 (.int .i64 2)).set_ 1 (.string t)
      have d0 := h1.cell 0; have d1 := h1.cell 1; have d2 := h1.cell 2; have d3 := h1.cell 3; have d4 := h1.cell 4
      have g0 := h1.free 0; have g1 := h1.free 1; have g2 := h1.free 2; have g3 := h1.free 3; have g4 := h1.free 4
      have r0 := h1.res.cell 0; have r1 := h1.res.cell 1; have r2 := h1.res.cell 2; have r3 := h1.res.cell 3; have r4 := h1.res.cell 4
      have q0 := h1.res.free 0; have q1 := h1.res.free 1; have q2 := h1.res.free 2; have q3 := h1.res.free 3; have q4 := h1.res.free 4
      simp only [tok0, List.getElem?_cons_zero, List.getElem?_cons_succ] at d0 d1 d2 d3 d4 r0 r1 r2 r3 r4
      clear h1
      go_wp2_with fail
      refine (number_any t _ hts2).mono ?_
      rintro e W1' ⟨rfl, rfl⟩
      cases hok : numOk t.data.toList with
      | true =>
        have HOK := Lib.hid hok
        clear hok
        generalize hnr : numRes t.data.toList = nr
        have HNR := Lib.hid hnr
        clear hnr
        have h4 := h3.set_ 2 (.int .i64 nr)
        clear h3
        go_wp2_with fail
        refine (clone_any t _ hts2).mono ?_
        rintro e W2 ⟨rfl, hk2⟩
        have h5 := h4.same hk2
        clear h4 hk2 d0 d1 d2 d3 d4 g0 g1 g2 g3 g4 r0 r1 r2 r3 r4 q0 q1 q2 q3 q4
        simp only [List.set_cons_zero, List.set_cons_succ] at h5
        have d0 := h5.cell 0; have d1 := h5.cell 1; have d2 := h5.cell 2; have d3 := h5.cell 3; have d4 := h5.cell 4
        have g0 := h5.free 0; have g1 := h5.free 1; have g2 := h5.free 2; have g3 := h5.free 3; have g4 := h5.free 4
        have r0 := h5.res.cell 0; have r1 := h5.res.cell 1; have r2 := h5.res.cell 2; have r3 := h5.res.cell 3; have r4 := h5.res.cell 4
        have q0 := h5.res.free 0; have q1 := h5.res.free 1; have q2 := h5.res.free 2; have q3 := h5.res.free 3; have q4 := h5.res.free 4
        simp only [tok0, List.getElem?_cons_zero, List.getElem?_cons_succ] at d0 d1 d2 d3 d4 r0 r1 r2 r3 r4
        go_wp2
        obtain ⟨hf1, hf2, hf3⟩ := (h5.set_ 1 (.string t)).fin (.int .i64 2) (.string t) (.int .i64 nr) (.int .i64 ((plOf s.data.toList i0).1 : Nat)) (.int .i64 ((plOf s.data.toList i0).2 : Nat))
        refine bodyPost_ret (results37_of hf1 rfl rfl) rfl ?_
        refine ⟨?_, ?_, hf3⟩
        · rw [HW.out, ← HTL.out, if_pos HOK.out, HNR.out]
          unfold tokV
          rw [← HT.out]
          rfl
        · rw [HW.out]
          rw [HK1.out] at hf2
          exact hf2
      | false =>
        have HOK := Lib.hid hok
        clear hok
        have h5 := h3
        simp only [List.set_cons_zero, List.set_cons_succ] at h5
        clear h3
        go_wp2
        obtain ⟨hf1, hf2, hf3⟩ := h5.fin (.int .i64 2) (.string t) (.int .i64 0) (.int .i64 ((plOf s.data.toList i0).1 : Nat)) (.int .i64 ((plOf s.data.toList i0).2 : Nat))
        refine bodyPost_ret (results37_of hf1 rfl rfl) rfl ?_
        refine ⟨?_, ?_, hf3⟩
        · rw [HW.out, ← HTL.out, if_neg (by rw [HOK.out]; decide), numRes_no HOK.out]
          unfold tokV
          rw [← HT.out]
          rfl
        · rw [HW.out]
          rw [HK1.out] at hf2
          exact hf2
    | false =>
      have HW := Lib.hid (wordR_sig HB0.out hl hdg)
      have HC2 : Hid (∀ W, Calls Try.prog 41 #[.int .u8 (s[i0].toNat : Nat)] W fun e w' => e = .returned (.bool false) ∧ W = w') := Lib.hid (fun W => by rw [← hdg]; exact digit_any _ W)
      clear hl hdg
      refine (HC.out _).mono ?_
      rintro e W0' ⟨rfl, rfl⟩
      go_wp2_with fail
      refine (HC2.out _).mono ?_
      rintro e W0' ⟨rfl, rfl⟩
      go_wp2_with fail
      refine (sign_any B S s hs i0 hi0 _ hws'.rdr hws'.sg).mono ?_
      rintro e W1 ⟨rfl, hr1, hk1⟩
      obtain ⟨t, ht⟩ : ∃ t, t = s.extract i0 (i0 + sgN (s.data.toList.drop i0)) := ⟨_, rfl⟩
      rw [← ht]
      have h1 := hws'.kept' hr1 hk1
      have hsl : i0 + sgN (s.data.toList.drop i0) ≤ s.size := sgN_le HDL.out hi0
      have hts : t.size = sgN (s.data.toList.drop i0) := by rw [ht, ByteArray.size_extract]; omega
      have HT := Lib.hid ht
      have HTS := Lib.hid hts
      have hts2 : t.size ≤ 1000000 := by omega
      clear ht hts hr1 hk1 hws' HC HC2
      obtain ⟨k1, hk1⟩ : ∃ k, k = i0 + sgN (s.data.toList.drop i0) := ⟨_, rfl⟩
      rw [← hk1] at h1
      have HK1 := Lib.hid hk1
      clear hk1
      have h3 := (h1.set_ 0 (.int .i64 4)).set_ 1 (.string t)
      have d0 := h1.cell 0; have d1 := h1.cell 1; have d2 := h1.cell 2; have d3 := h1.cell 3; have d4 := h1.cell 4
      have g0 := h1.free 0; have g1 := h1.free 1; have g2 := h1.free 2; have g3 := h1.free 3; have g4 := h1.free 4
      have r0 := h1.res.cell 0; have r1 := h1.res.cell 1; have r2 := h1.res.cell 2; have r3 := h1.res.cell 3; have r4 := h1.res.cell 4
      have q0 := h1.res.free 0; have q1 := h1.res.free 1; have q2 := h1.res.free 2; have q3 := h1.res.free 3; have q4 := h1.res.free 4
      simp only [tok0, List.getElem?_cons_zero, List.getElem?_cons_succ] at d0 d1 d2 d3 d4 r0 r1 r2 r3 r4
      clear h1
      by_cases h0 : t.size = 0
      · have HE : Hid (sgN (s.data.toList.drop i0) = 0) := Lib.hid (by rw [← HTS.out]; exact h0)
        have htE : t = ⟨#[]⟩ := by apply ByteArray.ext; exact Array.eq_empty_of_size_eq_zero h0
        clear h0
        subst htE
        have h5 := h3
        simp only [List.set_cons_zero, List.set_cons_succ] at h5
        clear h3
        go_wp2
        obtain ⟨hf1, hf2, hf3⟩ := h5.fin (.int .i64 4) (.string ⟨#[]⟩) (.int .i64 0) (.int .i64 ((plOf s.data.toList i0).1 : Nat)) (.int .i64 ((plOf s.data.toList i0).2 : Nat))
        refine bodyPost_ret (results37_of hf1 rfl rfl) rfl ?_
        refine ⟨?_, ?_, hf3⟩
        · rw [HW.out, if_pos HE.out]
          unfold tokV
          rw [← HT.out]
          rfl
        · rw [HW.out]
          rw [HK1.out] at hf2
          exact hf2
      · have HE : Hid (sgN (s.data.toList.drop i0) ≠ 0) := Lib.hid (by rw [← HTS.out]; exact h0)
        have hne : t.data.toList.isEmpty = false := by
          rw [List.isEmpty_eq_false_iff]
          intro h
          have : t.data.toList.length = t.size := by simp
          rw [h] at this
          exact h0 this.symm
        rw [← ByteArray.toList_eq] at hne
        clear h0
        go_wp2_with fail
        refine (clone_any t _ hts2).mono ?_
        rintro e W2 ⟨rfl, hk2⟩
        have h5 := h3.same hk2
        clear h3 hk2 d0 d1 d2 d3 d4 g0 g1 g2 g3 g4 r0 r1 r2 r3 r4 q0 q1 q2 q3 q4
        simp only [List.set_cons_zero, List.set_cons_succ] at h5
        have d0 := h5.cell 0; have d1 := h5.cell 1; have d2 := h5.cell 2; have d3 := h5.cell 3; have d4 := h5.cell 4
        have g0 := h5.free 0; have g1 := h5.free 1; have g2 := h5.free 2; have g3 := h5.free 3; have g4 := h5.free 4
        have r0 := h5.res.cell 0; have r1 := h5.res.cell 1; have r2 := h5.res.cell 2; have r3 := h5.res.cell 3; have r4 := h5.res.cell 4
        have q0 := h5.res.free 0; have q1 := h5.res.free 1; have q2 := h5.res.free 2; have q3 := h5.res.free 3; have q4 := h5.res.free 4
        simp only [tok0, List.getElem?_cons_zero, List.getElem?_cons_succ] at d0 d1 d2 d3 d4 r0 r1 r2 r3 r4
        go_wp2
        obtain ⟨hf1, hf2, hf3⟩ := (h5.set_ 1 (.string t)).fin (.int .i64 4) (.string t) (.int .i64 0) (.int .i64 ((plOf s.data.toList i0).1 : Nat)) (.int .i64 ((plOf s.data.toList i0).2 : Nat))
        refine bodyPost_ret (results37_of hf1 rfl rfl) rfl ?_
        refine ⟨?_, ?_, hf3⟩
        · rw [HW.out, if_neg HE.out]
          unfold tokV
          rw [← HT.out]
          rfl
        · rw [HW.out]
          rw [HK1.out] at hf2
          exact hf2
end Go.Proofs.Ythknjkmkhjjmmaa
