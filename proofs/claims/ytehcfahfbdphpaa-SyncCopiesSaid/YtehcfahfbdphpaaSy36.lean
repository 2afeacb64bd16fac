/- Layer 4: the document's copy of a state, its parts (conditions: none). -/
import Derived.Test.YtehcfahfbdphpaaSy30
namespace Go.Proofs.Ytehcfahfbdphpaa
open Go.RowKit Go.Shelf

/-- Blocks with a tag lie from B on. -/
def TBd (W : World) (T : Nat → Nat) (B : Nat) : Prop := ∀ g, T g ≠ 0 → B ≤ g ∧ g < W.heap.size
/-- An empty row of the call's own. -/
def EmpQ (W : World) (T : Nat → Nat) (tag : Nat) (t : TypeId) (u : Value) : Prop := ∃ g, u = .slice (some ⟨g, 0, none⟩) 0 0 ∧ Cells W g t [] ∧ T g = tag
theorem EmpQ.kept {W W' : World} {T T' : Nat → Nat} {X : Nat → Prop} {tag : Nat} {t : TypeId} {u : Value} (h : EmpQ W T tag t u) (hk : Kept X W W') (hx : ∀ g, g < W.heap.size → T g = tag → ¬ X g) (hT : ∀ g, g < W.heap.size → T' g = T g) : EmpQ W' T' tag t u := by
  obtain ⟨g, h1, h2, h3⟩ := h
  exact ⟨g, h1, h2.kept hk (hx g h2.lt h3), (hT g h2.lt).trans h3⟩
/-- A new block with a tag. -/
def tnew (T : Nat → Nat) (B tag : Nat) : Nat → Nat := fun g => if g = B then tag else T g
theorem tnew_old {T : Nat → Nat} {W : World} {tag : Nat} : ∀ g, g < W.heap.size → tnew T W.heap.size tag g = T g := fun g hg => if_neg (by omega)
theorem TBd.new {W : World} {T : Nat → Nat} {B tag : Nat} (h : TBd W T B) (hB : B ≤ W.heap.size) (o : Obj) : TBd (W.alloc o) (tnew T W.heap.size tag) B := fun g hg => by
  rw [World.size_alloc]
  unfold tnew at hg
  split at hg
  · omega
  · have := h g hg; omega
theorem EmpQ.fresh {W : World} {T : Nat → Nat} {tag : Nat} {t : TypeId} : EmpQ (W.alloc (.cells #[] t)) (tnew T W.heap.size tag) tag t (.slice (some ⟨W.heap.size, 0, none⟩) 0 0) := ⟨_, rfl, Cells.fresh W t [], if_pos rfl⟩
/-- The block of a row that has grown has its tag. -/
def tgrow (T : Nat → Nat) (v : Value) (tag : Nat) : Nat → Nat := fun g => if v.ownBlock = some g then tag else T g
theorem tgrow_old {T : Nat → Nat} {W : World} {v : Value} {tag g0 : Nat} (h0 : T g0 = tag) (hv : ∀ b, v.ownBlock = some b → b = g0 ∨ W.heap.size ≤ b) : ∀ g, g < W.heap.size → tgrow T v tag g = T g := fun g hg => by
  unfold tgrow
  split
  · rename_i h
    rcases hv g h with h | h
    · rw [h, h0]
    · omega
  · rfl
theorem TBd.grow {W W' : World} {T : Nat → Nat} {B : Nat} {v : Value} {tag g0 : Nat} (h : TBd W T B) (hg0 : B ≤ g0) (hB : B ≤ W.heap.size) (hv : ∀ b, v.ownBlock = some b → b = g0 ∨ W.heap.size ≤ b) (hl : ∀ b, v.ownBlock = some b → b < W'.heap.size) (hs : W.heap.size ≤ W'.heap.size) : TBd W' (tgrow T v tag) B := fun g hg => by
  unfold tgrow at hg
  split at hg
  · rename_i he
    have := hl g he
    rcases hv g he with h | h <;> omega
  · have := h g hg; omega

/-- The first region: what holds whatever has been made so far. -/
def CpB (w1 W : World) (T : Nat → Nat) (b13 b14 : Bool) (u3 u9 u13 u17 : Value) : Prop :=
  b13 = true → ∃ g, u3 = .pointer (some ⟨g, 0, none⟩) ∧ w1.heap.size ≤ g ∧ T g = 0 ∧ ∃ cs, Cells W g 33 cs ∧ cs.length = 5 ∧ (b14 = true → cs = [u9, .slice none 0 0, u13, .slice none 0 0, u17])
def CpE (W : World) (T : Nat → Nat) (tag : Nat) (b b' : Bool) (u : Value) : Prop := b = true → b' = false → EmpQ W T tag 3 u
def CpQ (W : World) (T : Nat → Nat) (tag : Nat) (b : Bool) (u : Value) (xs : List Int) : Prop := b = true → QAt W T tag 3 u xs
section
variable {w1 W W' : World} {T T' : Nat → Nat} {X : Nat → Prop} {tag : Nat} {b b' b13 b14 : Bool} {u u3 u9 u13 u17 : Value} {xs : List Int}
theorem CpE.kept (h : CpE W T tag b b' u) (hk : Kept X W W') (hx : ∀ g, g < W.heap.size → X g → T g ≠ tag) (hT : ∀ g, g < W.heap.size → T' g = T g) : CpE W' T' tag b b' u := fun h1 h2 => (h h1 h2).kept hk (fun g hg ht hX => hx g hg hX ht) hT
theorem CpQ.kept (h : CpQ W T tag b u xs) (hk : Kept X W W') (hx : ∀ g, g < W.heap.size → X g → T g ≠ tag) (hT : ∀ g, g < W.heap.size → T' g = T g) : CpQ W' T' tag b u xs := fun h1 => (h h1).kept hk (fun g hg ht hX => hx g hg hX ht) hT
theorem CpB.kept (h : CpB w1 W T b13 b14 u3 u9 u13 u17) (hk : Kept X W W') (hx : ∀ g, g < W.heap.size → X g → T g ≠ 0) (hT : ∀ g, g < W.heap.size → T' g = T g) : CpB w1 W' T' b13 b14 u3 u9 u13 u17 := fun h1 => by
  obtain ⟨g, a, b, c, cs, d, e, f⟩ := h h1
  exact ⟨g, a, b, (hT g d.lt).trans c, cs, d.kept hk (fun hX => hx g d.lt hX c), e, f⟩
theorem CpB.other (u9' u13' u17' : Value) (h : CpB w1 W T b13 b14 u3 u9 u13 u17) (hn : ¬ b14 = true) : CpB w1 W T b13 b14 u3 u9' u13' u17' := fun h1 => by
  obtain ⟨g, a, b, c, cs, d, e, f⟩ := h h1
  exact ⟨g, a, b, c, cs, d, e, fun h => absurd h hn⟩
end
def CpI (w w1 : World) (agg v0 v2 v4 : Value) (R : RS) (tk : List Int) (l : Array Bool) (a : Act) (W : World) : Prop :=
  ∃ (T : Nat → Nat) (b0 b3 b4 b7 b8 b11 b12 b13 b14 : Bool) (u3 u6 u9 u10 u13 u14 u17 u18 : Value),
    l = #[b0, true, true, b3, b4, true, true, b7, b8, true, true, b11, b12, b13, b14] ∧
    a = { tmps := #[agg, .pointer (some ⟨w.heap.size, 0, none⟩), .pointer (some ⟨w.heap.size + 1, 0, none⟩), u3, undef, undef, u6, .pointer (some ⟨w.heap.size, 0, none⟩), v0, u9, u10, .pointer (some ⟨w.heap.size, 2, none⟩), v2, u13, u14, .pointer (some ⟨w.heap.size, 4, none⟩), v4, u17, u18, undef, undef, undef, undef, undef, undef, undef, undef, undef, undef, undef, undef, undef, undef, undef, undef, undef, undef, undef, undef, undef, undef, undef, undef, undef, undef, undef, undef, undef, undef, undef, undef, undef, undef, undef, undef, undef, undef, undef], defers := [] } ∧
    Kept noX w1 W ∧ TBd W T w1.heap.size ∧
    (CpE W T 1 b0 b3 u6 ∧ CpE W T 2 b4 b7 u10 ∧ CpE W T 3 b8 b11 u14) ∧
    (CpQ W T 1 b3 u9 R.ow ∧ CpQ W T 2 b7 u13 R.rm ∧ CpQ W T 3 b11 u17 tk) ∧
    (b12 = true → (b3 = true ∧ b7 = true ∧ b11 = true) ∧ u18 = .agg #[u9, .slice none 0 0, u13, .slice none 0 0, u17]) ∧
    CpB w1 W T b13 b14 u3 u9 u13 u17 ∧ (b14 = true → b12 = true ∧ b13 = true)
structure RB (R : RS) : Prop where
  ow : R.ow.length ≤ 64
  cs : R.cs.length ≤ 64
  rm : R.rm.length ≤ 64
  st : R.st.length ≤ 64
  tk : R.tk.length ≤ 64
  ci : ∀ i (h : i < R.cs.length), R.cs[i].length ≤ 1000000000
  si : ∀ i (h : i < R.st.length), R.st[i].length ≤ 1000000000
end Go.Proofs.Ytehcfahfbdphpaa
