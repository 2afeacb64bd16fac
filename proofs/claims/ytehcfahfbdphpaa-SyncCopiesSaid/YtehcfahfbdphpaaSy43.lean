/- Layer 4: the document's state with one list of another kind (conditions: none). -/
import Derived.Test.YtehcfahfbdphpaaSy39
namespace Go.Proofs.Ytehcfahfbdphpaa
open Go.RowKit Go.Shelf

section
variable {W W5 : World} {T : Nat → Nat} {X Z : Nat → Prop} {v0 v1 v2 v3 v4 : Value} {l1 l3 : List Value} {R : RS} {g c i : Nat} {xs : List Int} {u' : Value}
theorem ZP.rvC (h : ZP W T v0 (.slice (some ⟨g, 0, none⟩) R.cs.length c) v2 v3 v4 l1 l3 R) (hi : i < R.cs.length) (hk : Kept X W W5) (hx : ∀ k, k < W.heap.size → X k → T k = 0 ∨ T k = 6 + 2 * i) (hZ : ∀ k, Z k → T k = 0)
    (hu : RowV (W5.setCell ⟨g, i, none⟩ u') Z u' (dI xs)) : RV (W5.setCell ⟨g, i, none⟩ u') Z [v0, .slice (some ⟨g, 0, none⟩) R.cs.length c, v2, v3, v4] { R with cs := R.cs.set i xs } := by
  obtain ⟨⟨a, b, d⟩, ⟨e, f⟩, ⟨q, r⟩, s, t⟩ := h
  have hg : T g = 4 := f g rfl
  have hgl : g < W.heap.size := own_lt e rfl
  have hs := hk.size
  have hX : ∀ tag, tag ≠ 0 → tag ≠ 6 + 2 * i → ∀ k, k < W.heap.size → T k = tag → ¬ X k := fun tag h0 h6 k hk' ht hX => by rcases hx k hk' hX with h | h <;> omega
  have hkc : Kept (· = g) W5 (W5.setCell ⟨g, i, none⟩ u') := (Kept.refl (· = g) _).setCell (p := ⟨g, i, none⟩) (fun _ => rfl) _
  have hG : ∀ tag, tag ≠ 4 → ∀ k, T k = tag → ¬ k = g := fun tag h4 k ht e => by rw [e, hg] at ht; exact h4 ht.symm
  have hN : ∀ tag, tag ≠ 0 → ∀ k, T k = tag → ¬ Z k := fun tag h0 k ht hz => h0 (ht.symm.trans (hZ k hz))
  have row : ∀ {tag : Nat} {ty : TypeId} {v : Value} {ys : List Int}, QAt W T tag ty v ys → tag ≠ 0 → tag ≠ 4 → tag ≠ 6 + 2 * i → RowV (W5.setCell ⟨g, i, none⟩ u') Z v (dI ys) := fun hq h0 h4 h6 =>
    own_row (own_kept (own_kept hq.1 hk (fun k hk' => hX _ h0 h6 k (own_lt hq.1 hk') (hq.2.1 k hk'))) hkc (fun k hk' => hG _ h4 k (hq.2.1 k hk'))) (fun k hk' => hN _ h0 k (hq.2.1 k hk'))
  refine ⟨_, _, _, _, _, rfl, row a (by omega) (by omega) (by omega), ?_, row b (by omega) (by omega) (by omega), ?_, ?_⟩
  · have h1 := own_set (own_kept e hk (fun k hk' => hX 4 (by omega) (by omega) k (own_lt e hk') (f k hk'))) hi u'
    have h2 : (W5.setCell ⟨g, i, none⟩ u').ownsRow 0 22 1 (.slice (some ⟨g, 0, none⟩) R.cs.length c) (R.cs.set i xs).length (l1.set i u') := by rw [List.length_set]; exact h1
    have hl : l1.length = R.cs.length := by have := e.1; omega
    refine own_rows h2 (fun k hk' => hN 4 (by omega) k (f k hk')) (fun k hk' => ?_)
    have hk2 : k < R.cs.length := by simpa using hk'
    by_cases hki : i = k
    · subst hki
      refine ⟨u', by simp [hl, hi], ?_⟩
      simpa using hu
    · obtain ⟨z, hz1, hz2⟩ := s k hk2
      refine ⟨z, by rw [List.getElem?_set_ne hki]; exact hz1, ?_⟩
      rw [List.getElem_set_ne hki]
      exact row hz2 (by omega) (by omega) (by omega)
  · refine own_rows (t := 47) (ls := l3) (own_kept (own_kept q hk (fun k hk' => hX 5 (by omega) (by omega) k (own_lt q hk') (r k hk'))) hkc (fun k hk' => hG 5 (by omega) k (r k hk'))) (fun k hk' => hN 5 (by omega) k (r k hk')) (fun k hk' => ?_)
    obtain ⟨z, hz1, hz2⟩ := t k hk'
    exact ⟨z, hz1, row hz2 (by omega) (by omega) (by omega)⟩
  · have := row d (by omega) (by omega) (by omega)
    simpa [dN, List.map_map, Function.comp_def] using this
theorem ZP.rvS (h : ZP W T v0 v1 v2 (.slice (some ⟨g, 0, none⟩) R.st.length c) v4 l1 l3 R) (hi : i < R.st.length) (hk : Kept X W W5) (hx : ∀ k, k < W.heap.size → X k → T k = 0 ∨ T k = 7 + 2 * i) (hZ : ∀ k, Z k → T k = 0)
    (hu : RowV (W5.setCell ⟨g, i, none⟩ u') Z u' (dI xs)) : RV (W5.setCell ⟨g, i, none⟩ u') Z [v0, v1, v2, .slice (some ⟨g, 0, none⟩) R.st.length c, v4] { R with st := R.st.set i xs } := by
  obtain ⟨⟨a, b, d⟩, ⟨q, r⟩, ⟨e, f⟩, t, s⟩ := h
  have hg : T g = 5 := f g rfl
  have hgl : g < W.heap.size := own_lt e rfl
  have hs := hk.size
  have hX : ∀ tag, tag ≠ 0 → tag ≠ 7 + 2 * i → ∀ k, k < W.heap.size → T k = tag → ¬ X k := fun tag h0 h6 k hk' ht hX => by rcases hx k hk' hX with h | h <;> omega
  have hkc : Kept (· = g) W5 (W5.setCell ⟨g, i, none⟩ u') := (Kept.refl (· = g) _).setCell (p := ⟨g, i, none⟩) (fun _ => rfl) _
  have hG : ∀ tag, tag ≠ 5 → ∀ k, T k = tag → ¬ k = g := fun tag h4 k ht e => by rw [e, hg] at ht; exact h4 ht.symm
  have hN : ∀ tag, tag ≠ 0 → ∀ k, T k = tag → ¬ Z k := fun tag h0 k ht hz => h0 (ht.symm.trans (hZ k hz))
  have row : ∀ {tag : Nat} {ty : TypeId} {v : Value} {ys : List Int}, QAt W T tag ty v ys → tag ≠ 0 → tag ≠ 5 → tag ≠ 7 + 2 * i → RowV (W5.setCell ⟨g, i, none⟩ u') Z v (dI ys) := fun hq h0 h4 h6 =>
    own_row (own_kept (own_kept hq.1 hk (fun k hk' => hX _ h0 h6 k (own_lt hq.1 hk') (hq.2.1 k hk'))) hkc (fun k hk' => hG _ h4 k (hq.2.1 k hk'))) (fun k hk' => hN _ h0 k (hq.2.1 k hk'))
  refine ⟨_, _, _, _, _, rfl, row a (by omega) (by omega) (by omega), ?_, row b (by omega) (by omega) (by omega), ?_, ?_⟩
  · refine own_rows (t := 22) (ls := l1) (own_kept (own_kept q hk (fun k hk' => hX 4 (by omega) (by omega) k (own_lt q hk') (r k hk'))) hkc (fun k hk' => hG 4 (by omega) k (r k hk'))) (fun k hk' => hN 4 (by omega) k (r k hk')) (fun k hk' => ?_)
    obtain ⟨z, hz1, hz2⟩ := t k hk'
    exact ⟨z, hz1, row hz2 (by omega) (by omega) (by omega)⟩
  · have h1 := own_set (own_kept e hk (fun k hk' => hX 5 (by omega) (by omega) k (own_lt e hk') (f k hk'))) hi u'
    have h2 : (W5.setCell ⟨g, i, none⟩ u').ownsRow 0 47 1 (.slice (some ⟨g, 0, none⟩) R.st.length c) (R.st.set i xs).length (l3.set i u') := by rw [List.length_set]; exact h1
    have hl : l3.length = R.st.length := by have := e.1; omega
    refine own_rows h2 (fun k hk' => hN 5 (by omega) k (f k hk')) (fun k hk' => ?_)
    have hk2 : k < R.st.length := by simpa using hk'
    by_cases hki : i = k
    · subst hki
      refine ⟨u', by simp [hl, hi], ?_⟩
      simpa using hu
    · obtain ⟨z, hz1, hz2⟩ := s k hk2
      refine ⟨z, by rw [List.getElem?_set_ne hki]; exact hz1, ?_⟩
      rw [List.getElem_set_ne hki]
      exact row hz2 (by omega) (by omega) (by omega)
  · have := row d (by omega) (by omega) (by omega)
    simpa [dN, List.map_map, Function.comp_def] using this
theorem ZP.setT {t : Nat} (h : ZP W T v0 v1 v2 v3 (.slice (some ⟨g, 0, none⟩) R.tk.length c) l1 l3 R) (hi : i < R.tk.length) : ZP (W.setCell ⟨g, i, none⟩ (.int .i64 (t : Int))) T v0 v1 v2 v3 (.slice (some ⟨g, 0, none⟩) R.tk.length c) l1 l3 { R with tk := R.tk.set i t } := by
  obtain ⟨⟨b, d, a⟩, ⟨e, f⟩, ⟨q, r⟩, i', j⟩ := h
  have hg : T g = 3 := a.2.1 g rfl
  have hk : Kept (· = g) W (W.setCell ⟨g, i, none⟩ (.int .i64 (t : Int))) := (Kept.refl (· = g) _).setCell (p := ⟨g, i, none⟩) (fun _ => rfl) _
  have hn : ∀ tag, tag ≠ 3 → ∀ k, k < W.heap.size → T k = tag → ¬ k = g := fun tag h0 k _ ht e => h0 (by rw [← ht, e, hg])
  have hm : (R.tk.map fun n : Nat => (n : Int)).length = R.tk.length := List.length_map _
  have ha : QAt (W.setCell ⟨g, i, none⟩ (.int .i64 (t : Int))) T 3 3 (.slice (some ⟨g, 0, none⟩) R.tk.length c) ((R.tk.set i t).map fun n : Nat => (n : Int)) := by
    have h0 : QAt W T 3 3 (.slice (some ⟨g, 0, none⟩) (R.tk.map fun n : Nat => (n : Int)).length c) (R.tk.map fun n : Nat => (n : Int)) := by rw [hm]; exact a
    have h1 := h0.set (i := i) (u := (t : Int)) (by rw [hm]; exact hi)
    rw [hm] at h1
    rw [List.map_set]
    exact h1
  refine ⟨⟨b.kept hk (hn 1 (by decide)) (fun _ _ => rfl), d.kept hk (hn 2 (by decide)) (fun _ _ => rfl), ha⟩, ⟨own_kept e hk (fun k hk' => hn 4 (by decide) k (own_lt e hk') (f k hk')), f⟩, ⟨own_kept q hk (fun k hk' => hn 5 (by decide) k (own_lt q hk') (r k hk')), r⟩, fun k hk' => ?_, fun k hk' => ?_⟩
  · obtain ⟨u, h1, h2⟩ := i' k hk'
    exact ⟨u, h1, h2.kept hk (hn _ (by omega)) (fun _ _ => rfl)⟩
  · obtain ⟨u, h1, h2⟩ := j k hk'
    exact ⟨u, h1, h2.kept hk (hn _ (by omega)) (fun _ _ => rfl)⟩
end
end Go.Proofs.Ytehcfahfbdphpaa
