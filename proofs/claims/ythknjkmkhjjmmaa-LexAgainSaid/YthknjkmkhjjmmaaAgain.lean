/- What LexAgain asks of places and of words with blanks between (conditions: none). -/
import Derived.Test.YthknjkmkhjjmmaaTexts
import Derived.Laws.OwnMore
namespace Go.Proofs.Ythknjkmkhjjmmaa
open Go.RowKit Go.Shelf

theorem plOf_next (s : List UInt8) (k : Nat) : plOf s (k + 1) = if s[k]? = some 10 then ((plOf s k).1 + 1, 1) else ((plOf s k).1, (plOf s k).2 + 1) := rfl
theorem plOf_rises (s : List UInt8) (i : Nat) : ∀ d, (plOf s i).1 < (plOf s (i + d + 1)).1 ∨ (plOf s i).1 = (plOf s (i + d + 1)).1 ∧ (plOf s i).2 < (plOf s (i + d + 1)).2 := by
  intro d
  induction d with
  | zero =>
    rw [Nat.add_zero, plOf_next]
    split
    · left; dsimp only; omega
    · right; dsimp only; omega
  | succ d ih =>
    rw [show i + (d + 1) + 1 = i + d + 1 + 1 from rfl, plOf_next s (i + d + 1)]
    split
    · left; dsimp only; rcases ih with h | h <;> omega
    · dsimp only
      rcases ih with h | h
      · left; omega
      · right; omega
theorem plOf_ne (s : List UInt8) {i j : Nat} (h : i < j) : (plOf s i).1 ≠ (plOf s j).1 ∨ (plOf s i).1 = (plOf s j).1 ∧ (plOf s i).2 ≠ (plOf s j).2 := by
  have := plOf_rises s i (j - i - 1)
  rw [show i + (j - i - 1) + 1 = j from by omega] at this
  rcases this with h | h
  · left; omega
  · right; omega

set_option maxRecDepth 100000 in
set_option maxHeartbeats 1000000 in
theorem at_any (s : ByteArray) (hs : s.size ≤ 1000000) (j : Nat) (hj : j < s.size) (w : World) :
    Calls Try.prog 22 #[.string s, .agg #[.int .i64 ((plOf s.data.toList j).1 : Nat), .int .i64 ((plOf s.data.toList j).2 : Nat)]] w fun e w' => e = .returned (.int .i64 (j : Nat)) ∧ Kept noX w w' := by
  obtain ⟨lj, hlj⟩ : ∃ l, l = (plOf s.data.toList j).1 := ⟨_, rfl⟩
  obtain ⟨cj, hcj⟩ : ∃ c, c = (plOf s.data.toList j).2 := ⟨_, rfl⟩
  rw [← hlj, ← hcj]
  have hc := Cells.fresh w 25 [.int .i64 (lj : Nat), .int .i64 (cj : Nat)]
  have p0 := hc.cell 0; have p1 := hc.cell 1
  simp only [List.getElem?_cons_zero, List.getElem?_cons_succ] at p0 p1
  clear hc
  have HLJ := Lib.hid hlj
  have HCJ := Lib.hid hcj
  clear hlj hcj
  go_enter Try.func22, Try.ntmps22
  go_wp2
  go_loop [5, 6, 7] (fun l c i => ∃ k : Nat, i = .int .i64 k ∧ k ≤ j ∧ l = .int .i64 ((plOf s.data.toList k).1 : Nat) ∧ c = .int .i64 ((plOf s.data.toList k).2 : Nat)) (fun _ _ i => j - (intOf i).toNat)
  case atStart => exact ⟨0, rfl, Nat.zero_le _, rfl, rfl⟩
  case round =>
    obtain ⟨k, rfl, hk, rfl, rfl⟩ := hrel
    have hpl := plOf_le s.data.toList k
    have hlt' : decide ((k : Int) < (s.size : Int)) = true := by simp; omega
    by_cases hkj : k < j
    · have hne := plOf_ne s.data.toList hkj
      rw [← HLJ.out, ← HCJ.out] at hne
      have hks : k < s.size := by omega
      have hnx := plOf_next s.data.toList k
      rw [byte_at hks] at hnx
      by_cases h10 : s[k] = 10
      · have t10 : ((s[k].toNat : Int) == 10) = true := by rw [h10]; rfl
        rw [h10, if_pos rfl] at hnx
        have HNX := Lib.hid hnx
        clear hnx h10
        by_cases hl : (plOf s.data.toList k).1 = lj
        · have e1 : (((plOf s.data.toList k).1 : Int) == (lj : Int)) = true := by rw [hl]; simp
          have e2 : (((plOf s.data.toList k).2 : Int) == (cj : Int)) = false := by
            rw [beq_eq_false_iff_ne]; omega
          clear hl hne
          go_wp2
          go_round
          case rel => exact ⟨k + 1, by go_num, by omega, by rw [HNX.out]; rfl, by rw [HNX.out]; rfl⟩
          case measure => simp [intOf]; omega
        · have e1 : (((plOf s.data.toList k).1 : Int) == (lj : Int)) = false := by
            rw [beq_eq_false_iff_ne]; omega
          clear hl hne
          go_wp2
          go_round
          case rel => exact ⟨k + 1, by go_num, by omega, by rw [HNX.out]; rfl, by rw [HNX.out]; rfl⟩
          case measure => simp [intOf]; omega
      · have t10 : ((s[k].toNat : Int) == 10) = false := by
          rw [beq_eq_false_iff_ne]; intro hh; apply h10; apply UInt8.toNat_inj.1; show _ = 10; omega
        rw [if_neg (by simpa using h10)] at hnx
        have HNX := Lib.hid hnx
        clear hnx h10
        by_cases hl : (plOf s.data.toList k).1 = lj
        · have e1 : (((plOf s.data.toList k).1 : Int) == (lj : Int)) = true := by rw [hl]; simp
          have e2 : (((plOf s.data.toList k).2 : Int) == (cj : Int)) = false := by
            rw [beq_eq_false_iff_ne]; omega
          clear hl hne
          go_wp2
          go_round
          case rel => exact ⟨k + 1, by go_num, by omega, by rw [HNX.out], by rw [HNX.out]; rfl⟩
          case measure => simp [intOf]; omega
        · have e1 : (((plOf s.data.toList k).1 : Int) == (lj : Int)) = false := by
            rw [beq_eq_false_iff_ne]; omega
          clear hl hne
          go_wp2
          go_round
          case rel => exact ⟨k + 1, by go_num, by omega, by rw [HNX.out], by rw [HNX.out]; rfl⟩
          case measure => simp [intOf]; omega
    · obtain rfl : k = j := by omega
      have e1 : (((plOf s.data.toList k).1 : Int) == (lj : Int)) = true := by rw [HLJ.out]; simp
      have e2 : (((plOf s.data.toList k).2 : Int) == (cj : Int)) = true := by rw [HCJ.out]; simp
      go_wp2
      go_ret
      exact ⟨rfl, (Kept.refl _ _).alloc _⟩

/-! ### words with blanks between -/
theorem runQ_app (q : Int → Bool) (x : UInt8) (r : List UInt8) (hx : q (x.toNat : Nat) = false) : ∀ l : List UInt8, runQ q (l.take (runQ q l) ++ x :: r) = runQ q l := by
  intro l
  induction l with
  | nil =>
    have : runQ q [] = 0 := rfl
    rw [this, List.take_zero, List.nil_append, runQ_cons, hx]
    rfl
  | cons b l ih =>
    rw [runQ_cons]
    cases hb : q (b.toNat : Nat) with
    | true =>
      simp only [if_true, List.take_succ_cons, List.cons_append]
      rw [runQ_cons, hb, if_pos rfl, ih]
    | false =>
      simp only [Bool.false_eq_true, if_false, List.take_zero, List.nil_append]
      rw [runQ_cons, hx]
      rfl
theorem take_len {l : List UInt8} {n : Nat} (h : n ≤ l.length) : (l.take n).length = n := by rw [List.length_take]; omega
theorem take_app {l r : List UInt8} {n : Nat} (h : n ≤ l.length) : (l.take n ++ r).take n = l.take n := by
  rw [List.take_append_of_le_length (by rw [take_len h]; omega), List.take_of_length_le (by rw [take_len h]; omega)]
theorem head_app {l r : List UInt8} {n : Nat} {b : UInt8} (h : l[0]? = some b) (hn : 0 < n) : (l.take n ++ r)[0]? = some b := by
  cases l with
  | nil => simp at h
  | cons a l =>
    obtain ⟨n, rfl⟩ : ∃ m, n = m + 1 := ⟨n - 1, by omega⟩
    simpa using h
theorem sg_no32 : ∀ t ∈ sgL, ∀ c : UInt8, t ≠ [c, 32] := by
  intro t ht c
  have : sgL.all (fun t => t[1]? != some 32) = true := by decide
  have h := List.all_eq_true.1 this t ht
  rintro rfl
  simp at h
theorem wordR_app {l : List UInt8} (r : List UInt8) (h : (wordR l).2.2.2 = 0) : wordR (l.take (wordR l).2.1 ++ 32 :: r) = wordR l := by
  cases hl : l[0]? with
  | none =>
    have : l = [] := by
      cases l with
      | nil => rfl
      | cons a l => simp at hl
    subst this
    simp [wordR] at h
  | some b =>
    have hpos := wordR_pos h
    have hle := wordR_le l
    have hh := fun n (hn : 0 < n) => head_app (r := 32 :: r) hl hn
    by_cases h1 : letB (b.toNat : Nat) = true
    · have e := wordR_let hl h1
      rw [e] at hpos hle ⊢
      dsimp only at hpos hle ⊢
      rw [wordR_let (hh _ hpos) h1, runQ_app alnB 32 r (by decide), take_app hle]
    · have h1' : letB (b.toNat : Nat) = false := by simpa using h1
      by_cases h2 : digB (b.toNat : Nat) = true
      · have e := wordR_dig hl h1' h2
        rw [e] at hpos hle ⊢
        dsimp only at hpos hle ⊢
        rw [wordR_dig (hh _ hpos) h1' h2, runQ_app alnB 32 r (by decide), take_app hle]
      · have h2' : digB (b.toNat : Nat) = false := by simpa using h2
        have e := wordR_sig hl h1' h2'
        rw [e] at hpos hle ⊢
        dsimp only at hpos hle ⊢
        have : sgN (l.take (sgN l) ++ 32 :: r) = sgN l := by
          unfold sgN at hpos hle ⊢
          split at hpos
          · rename_i h3
            simp only [if_pos h3] at hle ⊢
            rw [if_pos]
            refine ⟨by rw [List.length_append, take_len hle]; omega, ?_⟩
            rw [take_app hle]
            exact h3.2
          · rename_i h3
            split at hpos
            · rename_i h4
              simp only [if_neg h3, if_pos h4] at hle ⊢
              rw [if_neg, if_pos]
              · refine ⟨by rw [List.length_append, take_len hle]; omega, ?_⟩
                rw [take_app hle]
                exact h4.2
              · rintro ⟨_, h5⟩
                cases l with
                | nil => simp at hl
                | cons a l =>
                  simp only [List.take_succ_cons, List.take_zero, List.cons_append, List.nil_append] at h5
                  exact sg_no32 _ h5 a rfl
            · omega
        rw [wordR_sig (hh _ hpos) h1' h2', this]

theorem skN_no {b : UInt8} (h : (remB false (b.toNat : Nat) || blkB (b.toNat : Nat)) = false) (l : List UInt8) : skN (b :: l) = 0 := by
  unfold skN runS
  rw [if_neg (by rw [h]; exact Bool.false_ne_true)]
theorem skN_blank (l : List UInt8) : skN (32 :: l) = skN l + 1 := by
  unfold skN
  conv => lhs; unfold runS
  have h1 : (remB false ((32 : UInt8).toNat : Nat) || blkB ((32 : UInt8).toNat : Nat)) = true := by decide
  have h2 : remB false ((32 : UInt8).toNat : Nat) = false := by decide
  rw [if_pos h1, h2]
theorem no_blank : ∀ x : UInt8, letB (x.toNat : Nat) = true ∨ digB (x.toNat : Nat) = true → (remB false (x.toNat : Nat) || blkB (x.toNat : Nat)) = false := by
  intro x hx
  have h : 48 ≤ x.toNat := by
    rcases hx with h | h
    · simp only [letB, Bool.and_eq_true, decide_eq_true_eq] at h; omega
    · simp only [digB, Bool.and_eq_true, decide_eq_true_eq] at h; omega
  generalize x.toNat = y at h
  have e : ∀ c : Int, c < 48 → ((y : Int) == c) = false := fun c hc => by rw [beq_eq_false_iff_ne]; omega
  simp [remB, blkB, e]
theorem sg_head {t : List UInt8} (h : t ∈ sgL) {b : UInt8} (hb : t[0]? = some b) : (remB false (b.toNat : Nat) || blkB (b.toNat : Nat)) = false := by
  have : sgL.all (fun t => !(remB false ((t.headD 0).toNat : Nat) || blkB ((t.headD 0).toNat : Nat))) = true := by decide
  have h2 := List.all_eq_true.1 this t h
  cases t with
  | nil => simp at hb
  | cons a t =>
    simp only [List.getElem?_cons_zero, Option.some.injEq] at hb
    subst hb
    simpa using h2

theorem skN_word {l : List UInt8} (h : (wordR l).2.2.2 = 0) : skN l = 0 := by
  cases l with
  | nil => rfl
  | cons b l =>
    refine skN_no ?_ l
    by_cases h1 : letB (b.toNat : Nat) = true
    · exact no_blank b (.inl h1)
    · by_cases h2 : digB (b.toNat : Nat) = true
      · exact no_blank b (.inr h2)
      · rw [wordR_sig rfl (by simpa using h1) (by simpa using h2)] at h
        dsimp only at h
        by_cases hs : sgN (b :: l) = 0
        · rw [if_pos hs] at h; cases h
        · unfold sgN at hs
          split at hs
          · rename_i h3
            exact sg_head h3.2 rfl
          · split at hs
            · rename_i h4
              exact sg_head h4.2 rfl
            · exact absurd rfl hs

/-- The word at i, as a list. -/
def wl (s : List UInt8) (i : Nat) : List UInt8 := (s.drop i).take (wordR (s.drop i)).2.1
def wd (s : ByteArray) (i : Nat) : ByteArray := s.extract i (i + (wordR (s.data.toList.drop i)).2.1)
theorem wd_list (s : ByteArray) (i : Nat) : (wd s i).data.toList = wl s.data.toList i := extract_list _ _ _
theorem wl_len (s : List UInt8) (i : Nat) : (wl s i).length = (wordR (s.drop i)).2.1 := take_len (wordR_le _)
theorem wd_size (s : ByteArray) (i : Nat) : (wd s i).size = (wordR (s.data.toList.drop i)).2.1 := by
  rw [← wl_len, ← wd_list]
  simp
/-- The words, a blank behind each. -/
def joinW (s : ByteArray) : Nat → ByteArray
  | 0 => ⟨#[]⟩
  | k + 1 => joinW s k ++ wd s (posW s.data.toList k) ++ ⟨#[32]⟩
def tailW (s : List UInt8) : Nat → Nat → List UInt8
  | _, 0 => []
  | k, d + 1 => wl s (posW s k) ++ 32 :: tailW s (k + 1) d

theorem join_next (s : ByteArray) (k : Nat) : (joinW s (k + 1)).data.toList = (joinW s k).data.toList ++ (wl s.data.toList (posW s.data.toList k) ++ [32]) := by
  show (joinW s k ++ wd s _ ++ ⟨#[32]⟩).data.toList = _
  rw [ByteArray.data_append, ByteArray.data_append, Array.toList_append, Array.toList_append, wd_list, List.append_assoc]
theorem join_size_next (s : ByteArray) (k : Nat) : (joinW s (k + 1)).size = (joinW s k).size + (wordR (s.data.toList.drop (posW s.data.toList k))).2.1 + 1 := by
  show (joinW s k ++ wd s _ ++ ⟨#[32]⟩).size = _
  rw [ByteArray.size_append, ByteArray.size_append, wd_size]
  rfl
theorem join_tail (s : ByteArray) : ∀ d k, (joinW s (k + d)).data.toList = (joinW s k).data.toList ++ tailW s.data.toList k d := by
  intro d
  induction d with
  | zero => intro k; rw [Nat.add_zero, tailW, List.append_nil]
  | succ d ih =>
    intro k
    rw [show k + (d + 1) = k + 1 + d from by omega, ih (k + 1), join_next, tailW]
    simp [List.append_assoc]
theorem join_len (s : ByteArray) (k : Nat) : (joinW s k).data.toList.length = (joinW s k).size := by simp
theorem join_small {s : ByteArray} {k : Nat} (h : goodW s.data.toList k) : (joinW s k).size ≤ posW s.data.toList k + k := by
  induction k with
  | zero => exact Nat.zero_le _
  | succ k ih =>
    have h1 := ih (fun j hj => h j (by omega))
    rw [join_size_next]
    have : posW s.data.toList (k + 1) = nextW s.data.toList (posW s.data.toList k) := rfl
    unfold nextW at this
    omega

theorem join_drop {s : ByteArray} {n k : Nat} (h : k ≤ n) : (joinW s n).data.toList.drop (joinW s k).size = tailW s.data.toList k (n - k) := by
  have := join_tail s (n - k) k
  rw [show k + (n - k) = n from by omega] at this
  rw [this, ← join_len, List.drop_left]

section
variable {s : ByteArray} {n : Nat} (hg : goodW s.data.toList n)
include hg

theorem tail_word {k d : Nat} (h : k + (d + 1) ≤ n) : wordR (tailW s.data.toList k (d + 1)) = wordR (s.data.toList.drop (posW s.data.toList k)) := wordR_app _ (hg k (by omega)).2
theorem tail_sk {k d : Nat} (h : k + d ≤ n) : skN (tailW s.data.toList k d) = 0 := by
  cases d with
  | zero => rfl
  | succ d =>
    refine skN_word ?_
    rw [tail_word hg h]
    exact (hg k (by omega)).2
theorem join_pos {k : Nat} (h : k ≤ n) : posW (joinW s n).data.toList k = (joinW s k).size := by
  induction k with
  | zero =>
    show skN _ = 0
    have h2 := join_drop (s := s) (n := n) (Nat.zero_le n)
    have h3 : (joinW s 0).size = 0 := rfl
    rw [h3, List.drop_zero] at h2
    rw [h2]
    exact tail_sk hg (by omega)
  | succ k ih =>
    have h1 := ih (by omega)
    have h2 := join_drop (s := s) (n := n) (k := k) (by omega)
    obtain ⟨d, hd⟩ : ∃ d, n - k = d + 1 := ⟨n - k - 1, by omega⟩
    rw [hd] at h2
    show nextW _ _ = _
    rw [h1]
    unfold nextW
    rw [← List.drop_drop, h2, tail_word hg (by omega), join_size_next]
    have h3 : (tailW s.data.toList k (d + 1)).drop (wordR (s.data.toList.drop (posW s.data.toList k))).2.1 = 32 :: tailW s.data.toList (k + 1) d := by
      rw [tailW, ← wl_len, List.drop_left]
    rw [h3, skN_blank, tail_sk hg (by omega)]
theorem join_word {k : Nat} (h : k < n) : wordR ((joinW s n).data.toList.drop (joinW s k).size) = wordR (s.data.toList.drop (posW s.data.toList k)) := by
  rw [join_drop (s := s) (n := n) (by omega)]
  obtain ⟨d, hd⟩ : ∃ d, n - k = d + 1 := ⟨n - k - 1, by omega⟩
  rw [hd]
  exact tail_word hg (by omega)
theorem join_good : goodW (joinW s n).data.toList n := by
  intro k hk
  rw [join_pos hg (by omega)]
  refine ⟨?_, ?_⟩
  · have h1 := join_drop (s := s) (n := n) (k := k) (by omega)
    obtain ⟨d, hd⟩ : ∃ d, n - k = d + 1 := ⟨n - k - 1, by omega⟩
    rw [hd, tailW] at h1
    have h2 := congrArg List.length h1
    rw [List.length_drop, List.length_append, List.length_cons] at h2
    omega
  · unfold errW
    rw [join_word hg hk]
    exact (hg k hk).2
theorem join_end : posW (joinW s n).data.toList n = (joinW s n).data.toList.length := by
  rw [join_pos hg (Nat.le_refl _), join_len]
theorem join_tok {k : Nat} (h : k < n) : (tokD (joinW s n) (posW (joinW s n).data.toList k)).kind = (tokD s (posW s.data.toList k)).kind ∧
    (tokD (joinW s n) (posW (joinW s n).data.toList k)).text = (tokD s (posW s.data.toList k)).text ∧
    (tokD (joinW s n) (posW (joinW s n).data.toList k)).num = (tokD s (posW s.data.toList k)).num := by
  have hw := join_word hg h
  rw [join_pos hg (by omega)]
  refine ⟨?_, ?_, ?_⟩
  · show (wordR _).1 = (wordR _).1
    rw [hw]
  · show wd _ _ = wd _ _
    apply ByteArray.ext
    apply Array.toList_inj.1
    rw [wd_list, wd_list]
    unfold wl
    rw [hw, join_drop (s := s) (n := n) (by omega)]
    obtain ⟨d, hd⟩ : ∃ d, n - k = d + 1 := ⟨n - k - 1, by omega⟩
    rw [hd, tailW, ← wl_len, List.take_left]
    rw [wl_len]
    rfl
  · show (wordR _).2.2.1 = (wordR _).2.2.1
    rw [hw]
end
end Go.Proofs.Ythknjkmkhjjmmaa
