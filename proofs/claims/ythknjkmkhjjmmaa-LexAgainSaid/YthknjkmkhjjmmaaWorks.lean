/- What works, which every law asks, answers: true (conditions: none). -/
import Derived.Test.YthknjkmkhjjmmaaLex
namespace Go.Proofs.Ythknjkmkhjjmmaa
open Go.RowKit Go.Shelf

/-- A word as Go has it. -/
structure TokD where
  kind : Int
  text : ByteArray
  num : Int
  line : Int
  col : Int
def TokD.cells (x : TokD) : List Value := [.int .i64 x.kind, .string x.text, .int .i64 x.num, .int .i64 x.line, .int .i64 x.col]

/-- Slice v holds n words, T 0, T 1, .. -/
def TokRow (W : World) (v : Value) (n : Nat) (T : Nat → TokD) : Prop :=
  ∃ xs, W.ownsRow 0 40 5 v n xs ∧ ∀ k, k < n → ∀ j, j < 5 → xs[k * 5 + j]? = (T k).cells[j]?

theorem TokRow.kept {W W' : World} {v : Value} {n : Nat} {T : Nat → TokD} {X : Nat → Prop} (h : TokRow W v n T) (hk : Kept X W W') (hx : ∀ g, v.ownBlock = some g → ¬ X g) : TokRow W' v n T := by
  obtain ⟨xs, h1, h2⟩ := h
  exact ⟨xs, own_kept h1 hk hx, h2⟩
theorem TokRow.form {W : World} {v : Value} {n : Nat} {T : Nat → TokD} (h : TokRow W v n T) : ∃ A c, v = .slice A n c ∧ n ≤ c ∧ c ≤ maxLen := by
  obtain ⟨xs, h1, h2⟩ := h
  rcases h1.2 with ⟨rfl, rfl⟩ | ⟨g, cap, cur, rfl, _, _, hc, hm, _⟩
  · exact ⟨none, 0, rfl, Nat.le_refl _, Nat.zero_le _⟩
  · exact ⟨_, _, rfl, hc, hm⟩
theorem TokRow.at_ {W : World} {v : Value} {n : Nat} {T : Nat → TokD} (h : TokRow W v n T) {k : Nat} (hk : k < n) :
    ∃ g c, v = .slice (some ⟨g, 0, none⟩) n c ∧ n ≤ c ∧ ∀ j, j < 5 → W.cell? ⟨g, k * 5 + j, none⟩ = (T k).cells[j]? := by
  obtain ⟨xs, h1, h2⟩ := h
  have h1' := h1
  rcases h1.2 with ⟨rfl, rfl⟩ | ⟨g, cap, cur, rfl, _, hg, hc, hm, hsz, htake⟩
  · omega
  · refine ⟨g, cap, rfl, hc, fun j hj => ?_⟩
    have hx := h2 k hk j hj
    have hj' : (T k).cells[j]? = some ((T k).cells[j]'(by simpa [TokD.cells] using hj)) := List.getElem?_eq_getElem _
    rw [hj'] at hx ⊢
    have := h1'.cells (g := g) rfl (k * 5 + j) _ hx
    have e : (⟨g, 0, none⟩ : Addr).add (k * 5 + j) = ⟨g, k * 5 + j, none⟩ := by unfold Addr.add; split <;> simp_all
    rw [e] at this
    exact this

def tokD (s : ByteArray) (i : Nat) : TokD :=
  ⟨(wordR (s.data.toList.drop i)).1, s.extract i (i + (wordR (s.data.toList.drop i)).2.1), (wordR (s.data.toList.drop i)).2.2.1, ((plOf s.data.toList i).1 : Nat), ((plOf s.data.toList i).2 : Nat)⟩

theorem toks_at (s : ByteArray) (f : Nat → Nat) : ∀ (n k j : Nat), k < n → j < 5 → (toks s ((List.range n).map f))[k * 5 + j]? = (tokD s (f k)).cells[j]? := by
  intro n
  induction n with
  | zero => intro k j hk; omega
  | succ n ih =>
    intro k j hk hj
    rw [List.range_succ, List.map_append, List.map_cons, List.map_nil, toks_snoc]
    have hlen : ∀ m, (toks s ((List.range m).map f)).length = m * 5 := by
      intro m
      induction m with
      | zero => rfl
      | succ m ihm =>
        rw [List.range_succ, List.map_append, List.map_cons, List.map_nil, toks_snoc, List.length_append, ihm]
        simp [tokV]; omega
    by_cases hkn : k < n
    · rw [List.getElem?_append_left (by rw [hlen]; omega)]
      exact ih k j hkn hj
    · obtain rfl : k = n := by omega
      rw [List.getElem?_append_right (by rw [hlen]; omega), hlen, Nat.add_sub_cancel_left]
      rfl

theorem posW_mono {s : List UInt8} {n m : Nat} (h : goodW s m) (hnm : n < m) : posW s n < posW s m := by
  induction m with
  | zero => omega
  | succ m ih =>
    have h2 := nextW_lt (h m (by omega)).2
    have e : posW s (m + 1) = nextW s (posW s m) := rfl
    by_cases hn : n = m
    · subst hn; rw [e]; exact h2
    · have := ih (fun k hk => h k (by omega)) (by omega)
      rw [e]; omega

theorem all_unique {s : List UInt8} {n m : Nat} (h : goodW s n) (he : posW s n = s.length) (h' : goodW s m) (he' : posW s m = s.length) : n = m := by
  rcases Nat.lt_trichotomy n m with hlt | heq | hgt
  · have := (h' n hlt).1; omega
  · exact heq
  · have := (h m hgt).1; omega
theorem bad_unique {s : List UInt8} {n m : Nat} (h : goodW s n) (he : errW s (posW s n) ≠ 0) (h' : goodW s m) (he' : errW s (posW s m) ≠ 0) : n = m := by
  rcases Nat.lt_trichotomy n m with hlt | heq | hgt
  · exact absurd (h' n hlt).2 he
  · exact heq
  · exact absurd (h m hgt).2 he'
theorem not_both {s : List UInt8} {n m : Nat} (h : goodW s n) (he : posW s n = s.length) (h' : goodW s m) (hlt' : posW s m < s.length) (he' : errW s (posW s m) ≠ 0) : False := by
  rcases Nat.lt_trichotomy n m with hlt | heq | hgt
  · have := (h' n hlt).1; omega
  · subst heq; omega
  · exact absurd (h m hgt).2 he'

/-- All words of a text. -/
theorem LexOut.all {s : ByteArray} {w W' : World} {e : Ending} (h : LexOut s w e W') {n : Nat} (hg : goodW s.data.toList n) (he : posW s.data.toList n = s.data.toList.length) :
    ∃ v, e = .returned (.tuple #[v, .agg #[.int .i64 0, .int .i64 0], .int .i64 0]) ∧ TokRow W' v n (fun k => tokD s (posW s.data.toList k)) ∧ (∀ g, v.ownBlock = some g → w.heap.size ≤ g) ∧ Kept noX w W' := by
  rcases h with ⟨m, v, hgm, hem, he1, ho, hb, hk⟩ | ⟨m, hgm, hlt, hbad, he1, hk⟩
  · obtain rfl := all_unique hgm hem hg he
    exact ⟨v, he1, ⟨_, ho, fun k hk j hj => toks_at s _ _ k j hk hj⟩, hb, hk⟩
  · exact (not_both hg he hgm hlt hbad).elim
/-- The first word that is none. -/
theorem LexOut.bad {s : ByteArray} {w W' : World} {e : Ending} (h : LexOut s w e W') {n : Nat} (hg : goodW s.data.toList n) (hl : posW s.data.toList n < s.data.toList.length) (he : errW s.data.toList (posW s.data.toList n) ≠ 0) :
    e = .returned (.tuple #[.slice none 0 0, .agg #[.int .i64 ((plOf s.data.toList (posW s.data.toList n)).1 : Nat), .int .i64 ((plOf s.data.toList (posW s.data.toList n)).2 : Nat)], .int .i64 (errW s.data.toList (posW s.data.toList n))]) ∧ Kept noX w W' := by
  rcases h with ⟨m, v, hgm, hem, he1, ho, hb, hk⟩ | ⟨m, hgm, hlt, hbad, he1, hk⟩
  · exact (not_both hgm hem hg hl he).elim
  · obtain rfl := bad_unique hgm hbad hg he
    exact ⟨he1, hk⟩

set_option maxHeartbeats 400000 in
theorem num_any (x : Int) (w : World) : Calls Try.prog 14 #[.int .i64 x] w fun e w' => e = .returned (.int .i64 x) ∧ w = w' := by
  go_enter Try.func14, Try.ntmps14
  go_wp2
  go_ret
  exact ⟨rfl, rfl⟩

def s1 : ByteArray := ⟨#[118, 97, 114, 32, 120, 49, 61, 45, 55, 59, 35, 110, 111]⟩
def s2 : ByteArray := ⟨#[120, 32, 38, 32, 121]⟩
instance (s : List UInt8) (n : Nat) : Decidable (goodW s n) := inferInstanceAs (Decidable (∀ k, k < n → _))
theorem s1_good : goodW s1.data.toList 6 := by decide +kernel
theorem s1_end : posW s1.data.toList 6 = s1.data.toList.length := by decide +kernel
theorem s2_good : goodW s2.data.toList 1 := by decide +kernel
theorem s2_lt : posW s2.data.toList 1 < s2.data.toList.length := by decide +kernel
theorem s2_err : errW s2.data.toList (posW s2.data.toList 1) = 110 := by decide +kernel
theorem s2_pl : plOf s2.data.toList (posW s2.data.toList 1) = (1, 3) := by decide +kernel
theorem s1_k : (tokD s1 (posW s1.data.toList 4)).kind = 2 := by decide +kernel
theorem s1_n : (tokD s1 (posW s1.data.toList 4)).num = 7 := by decide +kernel
theorem s1_l : (tokD s1 (posW s1.data.toList 4)).line = 1 := by decide +kernel
theorem s1_c : (tokD s1 (posW s1.data.toList 4)).col = 9 := by decide +kernel
theorem s1_t : (tokD s1 (posW s1.data.toList 4)).text = ⟨#[55]⟩ := by
  apply ByteArray.ext
  decide +kernel
theorem s1_tok : (tokD s1 (posW s1.data.toList 4)).cells = [.int .i64 2, .string ⟨#[55]⟩, .int .i64 7, .int .i64 1, .int .i64 9] := by
  unfold TokD.cells
  rw [s1_k, s1_n, s1_l, s1_c, s1_t]

set_option maxRecDepth 100000 in
set_option maxHeartbeats 1000000 in
theorem works_any (w : World) : Calls Try.prog 10 #[] w fun e w' => e = .returned (.bool true) ∧ Kept noX w w' := by
  go_enter Try.func10, Try.ntmps10
  go_wp2_with fail
  refine (lex_calls s1 (by decide) w).mono ?_
  intro e W1 h1
  obtain ⟨v, rfl, hrow, hnew, hk1⟩ := h1.all s1_good s1_end
  clear h1
  obtain ⟨A, c, rfl, hc, hm⟩ := hrow.form
  have hat := fun W (hk : Kept noX W1 W) => (hrow.kept hk (fun _ _ h => h)).at_ (k := 4) (by omega)
  go_wp2_with fail
  refine (lex_calls s2 (by decide) _).mono ?_
  intro e W2 h2
  obtain ⟨rfl, hk2⟩ := h2.bad s2_good s2_lt (by rw [s2_err]; decide)
  clear h2
  rw [s2_err, s2_pl]
  go_wp2_with fail
  have hp1 := ((Cells.fresh W1 25 [.int .i64 0, .int .i64 0]).kept hk2 (fun h => h)).alloc (.cells #[.int .i64 1, .int .i64 3] 25)
  have hp2 := Cells.fresh W2 25 [.int .i64 1, .int .i64 3]
  have hk3 : Kept noX W1 (W2.alloc (.cells #[.int .i64 1, .int .i64 3] 25)) := (((Kept.refl _ _).alloc _).trans hk2).alloc _
  obtain ⟨g, c', hv, hc', hcell⟩ := hat _ hk3
  have hkw := hk1.trans hk3
  injection hv with hA _ hcc
  subst hA
  subst hcc
  generalize hW3 : W2.alloc (.cells #[.int .i64 1, .int .i64 3] 25) = W3 at hcell hkw ⊢
  have hp1' : Cells W3 W1.heap.size 25 [.int .i64 0, .int .i64 0] := by rw [← hW3]; exact hp1
  have hp2' : Cells W3 W2.heap.size 25 [.int .i64 1, .int .i64 3] := by rw [← hW3]; exact hp2
  have t0 := hcell 0 (by omega); have t1 := hcell 1 (by omega); have t2 := hcell 2 (by omega); have t3 := hcell 3 (by omega); have t4 := hcell 4 (by omega)
  rw [s1_tok] at t0 t1 t2 t3 t4
  simp only [List.getElem?_cons_zero, List.getElem?_cons_succ, Nat.reduceMul, Nat.reduceAdd] at t0 t1 t2 t3 t4
  have p0 := hp1'.cell 0; have p1 := hp1'.cell 1; have p2 := hp2'.cell 0; have p3 := hp2'.cell 1
  simp only [List.getElem?_cons_zero, List.getElem?_cons_succ] at p0 p1 p2 p3
  have HK := Lib.hid hkw
  clear hkw hp1 hp2 hp1' hp2' hcell hat hW3 hk3 hk2 hk1 hrow hnew hm
  refine (num_any _ _).mono ?_
  rintro e W3' ⟨rfl, rfl⟩
  go_wp2_with fail
  refine (num_any _ _).mono ?_
  rintro e W3' ⟨rfl, rfl⟩
  go_wp2
  go_ret
  exact ⟨rfl, HK.out⟩
end Go.Proofs.Ythknjkmkhjjmmaa
