/- Layer 4: a state whose queue has turned (conditions: at most 10^9 things). -/
import Derived.Test.YtehcfahfbdphpaaSy15
namespace Go.Proofs.Ytehcfahfbdphpaa
open Go.RowKit Go.Shelf

theorem cells_eq {W : World} {g : Nat} {t : TypeId} {cs cs' : List Value} (h : Cells W g t cs) (h' : Cells W g t cs') : cs = cs' := by
  unfold Cells at h h'
  rw [h] at h'
  injection h' with h'
  injection h' with h'
  simpa using h'
def tagQ (T : Nat → Nat) (n : Nat) (v' : Value) (tag : Nat) (q : Nat) : Nat := if n ≤ q ∧ v'.ownBlock = some q then tag else T q
theorem tagQ_old {T : Nat → Nat} {n : Nat} {v' : Value} {tag q : Nat} (h : q < n) : tagQ T n v' tag q = T q := if_neg (fun h' => by omega)

section
variable {W W3 : World} {T : Nat → Nat} {p : Nat} {S : SS} (h : SyAt W T p S)
include h
theorem SyAt.setC (i : Nat) (hi : i < S.cs.length) {g cc : Nat} {curC : List Value} {v v' : Value} {xs' : List Int} (hv : W.cell? ⟨p, 2, none⟩ = some (.slice (some ⟨g, 0, none⟩) S.cs.length cc)) (hMg : Cells W g 99 curC) (hcv : curC[i]? = some v)
    (hC3 : Cells W3 g 99 (curC.set i v')) (hown : W3.ownsRow 0 3 1 v' xs'.length (xs'.map (.int .i64))) (hloc : v'.ownBlock = v.ownBlock ∨ ∀ b, v'.ownBlock = some b → W.heap.size ≤ b) (hk : Kept (fun k => k = g ∨ v.ownBlock = some k) W W3) (hl : xs'.length ≤ 1000000000) :
    SyTo W T p { S with cs := S.cs.set i xs' } W3 := by
  obtain ⟨Am, Ac, Aq, cm', cc', cq, curM, curC2, curQ, ⟨hp, hTp⟩, ⟨hM, hC, hQ⟩, hos, hcs, hqs, hTl, hb⟩ := h
  obtain ⟨g', rfl, hMg2, hTg⟩ := hC (by omega)
  have hgg : g' = g := by
    rw [hp.cell 2] at hv
    simp only [List.getElem?_cons_zero, List.getElem?_cons_succ] at hv
    injection hv with hv
    injection hv with hv
    injection hv with hv
    injection hv with hv
  subst hgg
  obtain rfl := cells_eq hMg2 hMg
  have hTv : ∀ b, v.ownBlock = some b → T b = 5 + 2 * i := fun b hb => by
    obtain ⟨v2, a, q⟩ := hcs i hi
    rw [hcv] at a
    injection a with a
    subst a
    exact q.2.1 b hb
  have hne : ∀ tag, tag ≠ 3 → tag ≠ 5 + 2 * i → ∀ q, q < W.heap.size → T q = tag → ¬ (q = g' ∨ v.ownBlock = some q) := fun tag h2 h3 q _ hq he => by
    rcases he with he | he
    · exact h2 (by rw [← hq, he]; exact hTg)
    · exact h3 (by rw [← hq]; exact hTv q he)
  have hT := fun q (hq : q < W.heap.size) => tagQ_old (T := T) (v' := v') (tag := 5 + 2 * i) hq
  refine ⟨tagQ T W.heap.size v' (5 + 2 * i), ⟨Am, some ⟨g', 0, none⟩, Aq, cm', cc', cq, curM, curC2.set i v', curQ, ⟨?_, (hT p hp.lt).trans hTp⟩, ⟨hM.kept hk (hne 2 (by omega) (by omega)) hT, fun _ => ⟨g', rfl, hC3, (hT g' hMg.lt).trans hTg⟩, hQ.kept hk (hne 4 (by omega) (by omega)) hT⟩, hos, ?_, ?_, ?_, ?_⟩, hT, hk.mono (fun q _ hq => ?_)⟩
  · have := hp.kept hk (hne 1 (by omega) (by omega) p hp.lt hTp)
    simpa using this
  · intro j hj
    have hj' : j < S.cs.length := by simpa using hj
    by_cases hij : i = j
    · subst hij
      refine ⟨v', by rw [List.getElem?_set_self (List.getElem?_eq_some_iff.1 hcv).1], ?_⟩
      simp only [List.getElem_set_self]
      refine ⟨hown, ⟨fun b hb => ?_, hl⟩⟩
      by_cases hbn : W.heap.size ≤ b
      · exact if_pos ⟨hbn, hb⟩
      · rcases hloc with h1 | h1
        · rw [hT b (by omega)]; exact hTv b (h1.symm.trans hb)
        · exact absurd (h1 b hb) hbn
    · obtain ⟨v2, a, b⟩ := hcs j hj'
      refine ⟨v2, by rw [List.getElem?_set_ne hij]; exact a, ?_⟩
      have := b.kept hk (hne _ (by omega) (by omega)) hT
      simpa [hij] using this
  · intro j hj
    obtain ⟨v2, a, b, c, d⟩ := hqs j hj
    exact ⟨v2, a, b, c, d.kept hk (hne _ (by omega) (by omega)) hT⟩
  · intro q hq
    unfold tagQ at hq
    split at hq
    · rename_i hh; exact own_lt hown hh.2
    · exact Nat.lt_of_lt_of_le (hTl q hq) hk.size
  · simpa using hb
  · rcases hq with rfl | hq
    · rw [hTg]; omega
    · rw [hTv q hq]; omega
theorem SyAt.setQ (i : Nat) (hi : i < S.qs.length) {g cq : Nat} {curQ cur' : List Value} {v v' : Value} {xs' : List Int} {sent' : Int} (hv : W.cell? ⟨p, 3, none⟩ = some (.slice (some ⟨g, 0, none⟩) S.qs.length cq)) (hMg : Cells W g 112 curQ) (hcv : curQ[i * 3]? = some v)
    (hC3 : Cells W3 g 112 cur') (hc0 : cur'[i * 3]? = some v') (hc2 : cur'[i * 3 + 2]? = some (.int .i64 sent')) (hcr : ∀ q, q ≠ i * 3 → q ≠ i * 3 + 2 → cur'[q]? = curQ[q]?)
    (hown : W3.ownsRow 0 2 1 v' xs'.length (xs'.map (.int .i64))) (hloc : v'.ownBlock = v.ownBlock ∨ ∀ b, v'.ownBlock = some b → W.heap.size ≤ b) (hk : Kept (fun k => k = g ∨ v.ownBlock = some k) W W3) (hl : xs'.length ≤ 1000000000) :
    SyTo W T p { S with qs := S.qs.set i ⟨xs', S.qs[i].room, sent'⟩ } W3 := by
  obtain ⟨Am, Ac, Aq, cm', cc', cq', curM, curC, curQ2, ⟨hp, hTp⟩, ⟨hM, hC, hQ⟩, hos, hcs, hqs, hTl, hb⟩ := h
  obtain ⟨g', rfl, hMg2, hTg⟩ := hQ (by omega)
  have hgg : g' = g := by
    rw [hp.cell 3] at hv
    simp only [List.getElem?_cons_zero, List.getElem?_cons_succ] at hv
    injection hv with hv
    injection hv with hv
    injection hv with hv
    injection hv with hv
  subst hgg
  obtain rfl := cells_eq hMg2 hMg
  have hTv : ∀ b, v.ownBlock = some b → T b = 6 + 2 * i := fun b hb => by
    obtain ⟨v2, a, _, _, q⟩ := hqs i hi
    rw [hcv] at a
    injection a with a
    subst a
    exact q.2.1 b hb
  have hne : ∀ tag, tag ≠ 4 → tag ≠ 6 + 2 * i → ∀ q, q < W.heap.size → T q = tag → ¬ (q = g' ∨ v.ownBlock = some q) := fun tag h2 h3 q _ hq he => by
    rcases he with he | he
    · exact h2 (by rw [← hq, he]; exact hTg)
    · exact h3 (by rw [← hq]; exact hTv q he)
  have hT := fun q (hq : q < W.heap.size) => tagQ_old (T := T) (v' := v') (tag := 6 + 2 * i) hq
  refine ⟨tagQ T W.heap.size v' (6 + 2 * i), ⟨Am, Ac, some ⟨g', 0, none⟩, cm', cc', cq', curM, curC, cur', ⟨?_, (hT p hp.lt).trans hTp⟩, ⟨hM.kept hk (hne 2 (by omega) (by omega)) hT, hC.kept hk (hne 3 (by omega) (by omega)) hT, fun _ => ⟨g', rfl, hC3, (hT g' hMg.lt).trans hTg⟩⟩, hos, ?_, ?_, ?_, ?_⟩, hT, hk.mono (fun q _ hq => ?_)⟩
  · have := hp.kept hk (hne 1 (by omega) (by omega) p hp.lt hTp)
    simpa using this
  · intro j hj
    obtain ⟨v2, a, b⟩ := hcs j hj
    exact ⟨v2, a, b.kept hk (hne _ (by omega) (by omega)) hT⟩
  · intro j hj
    have hj' : j < S.qs.length := by simpa using hj
    by_cases hij : i = j
    · subst hij
      obtain ⟨v2, _, a1, _, _⟩ := hqs i hi
      simp only [List.getElem_set_self]
      refine ⟨v', hc0, by rw [hcr _ (by omega) (by omega)]; exact a1, hc2, hown, ⟨fun b hb => ?_, hl⟩⟩
      by_cases hbn : W.heap.size ≤ b
      · exact if_pos ⟨hbn, hb⟩
      · rcases hloc with h1 | h1
        · rw [hT b (by omega)]; exact hTv b (h1.symm.trans hb)
        · exact absurd (h1 b hb) hbn
    · obtain ⟨v2, a, b, c, d⟩ := hqs j hj'
      have e : (S.qs.set i ⟨xs', S.qs[i].room, sent'⟩)[j]'hj = S.qs[j] := List.getElem_set_ne hij _
      simp only [e]
      exact ⟨v2, by rw [hcr _ (by omega) (by omega)]; exact a, by rw [hcr _ (by omega) (by omega)]; exact b, by rw [hcr _ (by omega) (by omega)]; exact c, d.kept hk (hne _ (by omega) (by omega)) hT⟩
  · intro q hq
    unfold tagQ at hq
    split at hq
    · rename_i hh; exact own_lt hown hh.2
    · exact Nat.lt_of_lt_of_le (hTl q hq) hk.size
  · simpa using hb
  · rcases hq with rfl | hq
    · rw [hTg]; omega
    · rw [hTv q hq]; omega
end
end Go.Proofs.Ytehcfahfbdphpaa
