/- Layer 4: the document's copy of a state, its rows in blocks with tags (conditions: none). -/
import Derived.Test.YtehcfahfbdphpaaSy36
namespace Go.Proofs.Ytehcfahfbdphpaa
open Go.RowKit Go.Shelf

/-- A state all of whose rows lie in blocks of their own. -/
def ZP (W : World) (T : Nat → Nat) (v0 v1 v2 v3 v4 : Value) (l1 l3 : List Value) (R : RS) : Prop :=
  (QAt W T 1 3 v0 R.ow ∧ QAt W T 2 3 v2 R.rm ∧ QAt W T 3 3 v4 (R.tk.map fun n : Nat => (n : Int))) ∧
  (W.ownsRow 0 22 1 v1 R.cs.length l1 ∧ ∀ g, v1.ownBlock = some g → T g = 4) ∧
  (W.ownsRow 0 47 1 v3 R.st.length l3 ∧ ∀ g, v3.ownBlock = some g → T g = 5) ∧
  (∀ i (h : i < R.cs.length), ∃ u, l1[i]? = some u ∧ QAt W T (6 + 2 * i) 3 u R.cs[i]) ∧
  (∀ i (h : i < R.st.length), ∃ u, l3[i]? = some u ∧ QAt W T (7 + 2 * i) 2 u R.st[i])
section
variable {W W' : World} {T T' : Nat → Nat} {X : Nat → Prop} {v0 v1 v2 v3 v4 v1' u : Value} {l1 l3 : List Value} {R : RS} {xs : List Int}
theorem ZP.kept (h : ZP W T v0 v1 v2 v3 v4 l1 l3 R) (hk : Kept X W W') (hx : ∀ g, g < W.heap.size → X g → T g = 0) (hT : ∀ g, g < W.heap.size → T' g = T g) : ZP W' T' v0 v1 v2 v3 v4 l1 l3 R := by
  obtain ⟨⟨a, b, c⟩, ⟨d, e⟩, ⟨f, g⟩, i, j⟩ := h
  have hn : ∀ tag, 0 < tag → ∀ g, g < W.heap.size → T g = tag → ¬ X g := fun tag h0 g hg ht hX => by have := hx g hg hX; omega
  refine ⟨⟨a.kept hk (hn 1 (by omega)) hT, b.kept hk (hn 2 (by omega)) hT, c.kept hk (hn 3 (by omega)) hT⟩, ⟨own_kept d hk (fun g hg => hn 4 (by omega) g (own_lt d hg) (e g hg)), fun g hg => (hT g (own_lt d hg)).trans (e g hg)⟩, ⟨own_kept f hk (fun q hq => hn 5 (by omega) q (own_lt f hq) (g q hq)), fun q hq => (hT q (own_lt f hq)).trans (g q hq)⟩, fun k hk' => ?_, fun k hk' => ?_⟩
  · obtain ⟨u, h1, h2⟩ := i k hk'
    exact ⟨u, h1, h2.kept hk (hn _ (by omega)) hT⟩
  · obtain ⟨u, h1, h2⟩ := j k hk'
    exact ⟨u, h1, h2.kept hk (hn _ (by omega)) hT⟩
theorem ZP.keep (h : ZP W T v0 v1 v2 v3 v4 l1 l3 R) (hk : Kept noX W W') : ZP W' T v0 v1 v2 v3 v4 l1 l3 R := h.kept hk (fun _ _ h => h.elim) (fun _ _ => rfl)
/-- One more list of who waits. -/
theorem ZP.addC {gb : Nat} (h : ZP W T v0 v1 v2 v3 v4 l1 l3 R) (hk : Kept (fun b => v1.ownBlock = some b ∨ b = gb) W W') (hgb : T gb = 0) (hu : W'.ownsRow 0 3 1 u xs.length (xs.map (.int .i64))) (hxl : xs.length ≤ 1000000000) (hub : ∀ b, u.ownBlock = some b → W.heap.size ≤ b)
    (hv : W'.ownsRow 0 22 1 v1' (R.cs.length + 1) (l1 ++ [u])) (hvb : ∀ b, v1'.ownBlock = some b → v1.ownBlock = some b ∨ W.heap.size ≤ b) :
    ∃ T', ZP W' T' v0 v1' v2 v3 v4 (l1 ++ [u]) l3 { R with cs := R.cs ++ [xs] } ∧ (∀ g, g < W.heap.size → T' g = T g) ∧ (∀ g, T' g ≠ 0 → T g ≠ 0 ∨ W.heap.size ≤ g ∧ g < W'.heap.size) := by
  obtain ⟨⟨a, b, c⟩, ⟨d, e⟩, ⟨f, g⟩, i, j⟩ := h
  have hT : ∀ g, g < W.heap.size → (if u.ownBlock = some g then 6 + 2 * R.cs.length else if v1'.ownBlock = some g then 4 else T g) = T g := fun g hg => by
    split
    · rename_i h1; have := hub g h1; omega
    · split
      · rename_i h1
        rcases hvb g h1 with h2 | h2
        · exact (e g h2).symm
        · omega
      · rfl
  have hn : ∀ tag, tag ≠ 0 → tag ≠ 4 → ∀ g, g < W.heap.size → T g = tag → ¬ (v1.ownBlock = some g ∨ g = gb) := fun tag h0 h4 g hg ht hX => by
    rcases hX with hX | rfl
    · exact h4 (ht.symm.trans (e g hX))
    · exact h0 (ht.symm.trans hgb)
  have hl1 : l1.length = R.cs.length := by have := d.1; omega
  refine ⟨fun g => if u.ownBlock = some g then 6 + 2 * R.cs.length else if v1'.ownBlock = some g then 4 else T g, ⟨⟨a.kept hk (hn 1 (by omega) (by omega)) hT, b.kept hk (hn 2 (by omega) (by omega)) hT, c.kept hk (hn 3 (by omega) (by omega)) hT⟩, ⟨by simpa using hv, fun q hq => ?_⟩, ⟨own_kept f hk (fun q hq => hn 5 (by omega) (by omega) q (own_lt f hq) (g q hq)), fun q hq => (hT q (own_lt f hq)).trans (g q hq)⟩, fun k hk' => ?_, fun k hk' => ?_⟩, hT, fun q hq => ?_⟩
  · have hq' : ¬ u.ownBlock = some q := fun h1 => own_types hu hv h1 hq (by decide)
    show (if _ then _ else if _ then _ else _) = 4
    rw [if_neg hq', if_pos hq]
  · have hk2 : k < R.cs.length + 1 := by simpa using hk'
    rcases Nat.lt_or_ge k R.cs.length with h1 | h1
    · obtain ⟨z, h2, h3⟩ := i k h1
      exact ⟨z, by rw [List.getElem?_append_left (by omega)]; exact h2, by simpa [List.getElem_append_left h1] using h3.kept (T' := fun g => if u.ownBlock = some g then 6 + 2 * R.cs.length else if v1'.ownBlock = some g then 4 else T g) hk (hn _ (by omega) (by omega)) hT⟩
    · obtain rfl : k = R.cs.length := by omega
      refine ⟨u, by rw [List.getElem?_append_right (by omega)]; simp [hl1], ?_⟩
      have e2 : (R.cs ++ [xs])[R.cs.length]'hk' = xs := by simp
      exact ⟨by rw [e2]; exact hu, fun q hq => if_pos hq, by rw [e2]; exact hxl⟩
  · obtain ⟨z, h2, h3⟩ := j k hk'
    exact ⟨z, h2, h3.kept hk (hn _ (by omega) (by omega)) hT⟩
  · by_cases h1 : u.ownBlock = some q
    · exact .inr ⟨hub q h1, own_lt hu h1⟩
    · by_cases h2 : v1'.ownBlock = some q
      · rcases hvb q h2 with h3 | h3
        · exact .inl (by rw [e q h3]; decide)
        · exact .inr ⟨h3, own_lt hv h2⟩
      · refine .inl ?_
        have : (if u.ownBlock = some q then 6 + 2 * R.cs.length else if v1'.ownBlock = some q then 4 else T q) ≠ 0 := hq
        rwa [if_neg h1, if_neg h2] at this
/-- One more list of what was sent. -/
theorem ZP.addS {gb : Nat} {v3' : Value} (h : ZP W T v0 v1 v2 v3 v4 l1 l3 R) (hk : Kept (fun b => v3.ownBlock = some b ∨ b = gb) W W') (hgb : T gb = 0) (hu : W'.ownsRow 0 2 1 u xs.length (xs.map (.int .i64))) (hxl : xs.length ≤ 1000000000) (hub : ∀ b, u.ownBlock = some b → W.heap.size ≤ b)
    (hv : W'.ownsRow 0 47 1 v3' (R.st.length + 1) (l3 ++ [u])) (hvb : ∀ b, v3'.ownBlock = some b → v3.ownBlock = some b ∨ W.heap.size ≤ b) :
    ∃ T', ZP W' T' v0 v1 v2 v3' v4 l1 (l3 ++ [u]) { R with st := R.st ++ [xs] } ∧ (∀ g, g < W.heap.size → T' g = T g) ∧ (∀ g, T' g ≠ 0 → T g ≠ 0 ∨ W.heap.size ≤ g ∧ g < W'.heap.size) := by
  obtain ⟨⟨a, b, c⟩, ⟨f, g⟩, ⟨d, e⟩, j, i⟩ := h
  have hT : ∀ g, g < W.heap.size → (if u.ownBlock = some g then 7 + 2 * R.st.length else if v3'.ownBlock = some g then 5 else T g) = T g := fun g hg => by
    split
    · rename_i h1; have := hub g h1; omega
    · split
      · rename_i h1
        rcases hvb g h1 with h2 | h2
        · exact (e g h2).symm
        · omega
      · rfl
  have hn : ∀ tag, tag ≠ 0 → tag ≠ 5 → ∀ g, g < W.heap.size → T g = tag → ¬ (v3.ownBlock = some g ∨ g = gb) := fun tag h0 h4 g hg ht hX => by
    rcases hX with hX | rfl
    · exact h4 (ht.symm.trans (e g hX))
    · exact h0 (ht.symm.trans hgb)
  have hl3 : l3.length = R.st.length := by have := d.1; omega
  refine ⟨fun g => if u.ownBlock = some g then 7 + 2 * R.st.length else if v3'.ownBlock = some g then 5 else T g, ⟨⟨a.kept hk (hn 1 (by omega) (by omega)) hT, b.kept hk (hn 2 (by omega) (by omega)) hT, c.kept hk (hn 3 (by omega) (by omega)) hT⟩, ⟨own_kept f hk (fun q hq => hn 4 (by omega) (by omega) q (own_lt f hq) (g q hq)), fun q hq => (hT q (own_lt f hq)).trans (g q hq)⟩, ⟨by simpa using hv, fun q hq => ?_⟩, fun k hk' => ?_, fun k hk' => ?_⟩, hT, fun q hq => ?_⟩
  · have hq' : ¬ u.ownBlock = some q := fun h1 => own_types hu hv h1 hq (by decide)
    show (if _ then _ else if _ then _ else _) = 5
    rw [if_neg hq', if_pos hq]
  · obtain ⟨z, h2, h3⟩ := j k hk'
    exact ⟨z, h2, h3.kept hk (hn _ (by omega) (by omega)) hT⟩
  · have hk2 : k < R.st.length + 1 := by simpa using hk'
    rcases Nat.lt_or_ge k R.st.length with h1 | h1
    · obtain ⟨z, h2, h3⟩ := i k h1
      exact ⟨z, by rw [List.getElem?_append_left (by omega)]; exact h2, by simpa [List.getElem_append_left h1] using h3.kept (T' := fun g => if u.ownBlock = some g then 7 + 2 * R.st.length else if v3'.ownBlock = some g then 5 else T g) hk (hn _ (by omega) (by omega)) hT⟩
    · obtain rfl : k = R.st.length := by omega
      refine ⟨u, by rw [List.getElem?_append_right (by omega)]; simp [hl3], ?_⟩
      have e2 : (R.st ++ [xs])[R.st.length]'hk' = xs := by simp
      exact ⟨by rw [e2]; exact hu, fun q hq => if_pos hq, by rw [e2]; exact hxl⟩
  · by_cases h1 : u.ownBlock = some q
    · exact .inr ⟨hub q h1, own_lt hu h1⟩
    · by_cases h2 : v3'.ownBlock = some q
      · rcases hvb q h2 with h3 | h3
        · exact .inl (by rw [e q h3]; decide)
        · exact .inr ⟨h3, own_lt hv h2⟩
      · refine .inl ?_
        have : (if u.ownBlock = some q then 7 + 2 * R.st.length else if v3'.ownBlock = some q then 5 else T q) ≠ 0 := hq
        rwa [if_neg h1, if_neg h2] at this
end
/-- A round of the loops: what holds of the region whatever has come up so far (b: the box of what is made; v: the row that grows, of k rows ls; xs: the list that is copied). -/
def CiJ (w1 : World) (gb : Nat) (t te : TypeId) (v : Value) (k : Nat) (ls : List Value) (xs : List Int) (fld : Nat) (bx : Value → List Value) (af : Value → Value → Value → Value → Value → Value → Act) (l : Array Bool) (a : Act) (W : World) : Prop :=
  ∃ (b1 b2 b8 b9 b10 b11 b12 : Bool) (u27 u28 u34 u35 u36 u37 : Value), l = #[true, b1, b2, true, true, true, true, true, b8, b9, b10, b11, b12] ∧ a = af u27 u28 u34 u35 u36 u37 ∧
    Kept (fun b => v.ownBlock = some b ∨ b = gb) w1 W ∧ (b10 = false → W.ownsRow 0 te 1 v k ls) ∧ Cells W gb 33 (bx (if b12 then u36 else v)) ∧
    (b1 = true → u27 = v) ∧ (b2 = true → b8 = false → ∃ g, u28 = .slice (some ⟨g, 0, none⟩) 0 0 ∧ Cells W g t [] ∧ w1.heap.size ≤ g) ∧
    (b8 = true → W.ownsRow 0 t 1 u34 xs.length (xs.map (.int .i64)) ∧ ∀ b, u34.ownBlock = some b → w1.heap.size ≤ b) ∧
    (b9 = true → b8 = true ∧ (b10 = false → ∃ g, u35 = .slice (some ⟨g, 0, none⟩) 1 1 ∧ Cells W g te [u34] ∧ w1.heap.size ≤ g)) ∧
    (b10 = true → (b9 = true ∧ b1 = true) ∧ W.ownsRow 0 te 1 u36 (k + 1) (ls ++ [u34]) ∧ ∀ b, u36.ownBlock = some b → v.ownBlock = some b ∨ w1.heap.size ≤ b) ∧
    (b11 = true → u37 = .pointer (some ⟨gb, fld, none⟩) ∧ b10 = true) ∧ (b12 = true → b11 = true)
/-- The lists of who waits have been copied, up to the k-th. -/
def LpC (w1 : World) (gb : Nat) (u9 u13 u17 : Value) (R : RS) (k : Nat) (wr : World) : Prop :=
  ∃ T v1 l1, Cells wr gb 33 [u9, v1, u13, .slice none 0 0, u17] ∧ ZP wr T u9 v1 u13 (.slice none 0 0) u17 l1 [] { R with cs := R.cs.take k, st := [] } ∧ TBd wr T w1.heap.size ∧ T gb = 0 ∧ Kept noX w1 wr
/-- And the lists of what was sent. -/
def LpS (w1 : World) (gb : Nat) (u9 v1 u13 u17 : Value) (l1 : List Value) (R : RS) (k : Nat) (wr : World) : Prop :=
  ∃ T v3 l3, Cells wr gb 33 [u9, v1, u13, v3, u17] ∧ ZP wr T u9 v1 u13 v3 u17 l1 l3 { R with st := R.st.take k } ∧ TBd wr T w1.heap.size ∧ T gb = 0 ∧ Kept noX w1 wr
theorem Kept.cell_far {X : Nat → Prop} {w W : World} {b o : Nat} {v : Value} (hk : Kept X w W) (h : w.cell? ⟨b, o, none⟩ = some v) (hx : ¬ X b) : W.cell? ⟨b, o, none⟩ = some v :=
  (World.cell?_of_block (hk.block _ (block_lt_of_cell h) hx)).trans h
theorem ret_1c {P : Program} {fn : Func} {a : Act} {W : World} {R : Ending → World → Prop} {r0 : ResultVar} (h : fn.results = #[r0]) {v0 : Value} (hf : a.defers = [])
    (h0 : resVal P W a.tmps r0 v0) (hR : R (.returned v0) W) : bodyPost P fn R .ret a W := by
  refine bodyPost_ret (v := v0) ?_ hf hR
  have e : results fn a.tmps = (fn.results.mapM (resRead a.tmps)) >>= fun vs => pure (if h : vs.size = 1 then vs[0] else .tuple vs) := by
    unfold results
    congr 1
  have h0' : (resRead a.tmps r0).run P W = .ok v0 W := h0
  rw [e, h, show #[r0] = [r0].toArray from rfl, List.mapM_toArray, Sem.run_bind]
  have hm : (List.toArray <$> List.mapM (resRead a.tmps) [r0]).run P W = .ok #[v0] W := by
    have e2 : (List.toArray <$> List.mapM (resRead a.tmps) [r0]) = (List.mapM (resRead a.tmps) [r0]) >>= fun l => pure l.toArray := rfl
    rw [e2, Sem.run_bind, List.mapM_cons, Sem.run_bind, h0', Result.andThen_ok]
    rfl
  rw [hm, Result.andThen_ok]
  rfl
end Go.Proofs.Ytehcfahfbdphpaa
