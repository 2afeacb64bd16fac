/- Layer 4: a state and two lists beside it (conditions: none). -/
import Derived.Test.YtehcfahfbdphpaaSy16
import Derived.Test.YtehcfahfbdphpaaSy24
namespace Go.Proofs.Ytehcfahfbdphpaa
open Go.RowKit Go.Shelf

theorem own_types {W : World} {b b' n n' : Nat} {t t' : TypeId} {v v' : Value} {xs xs' : List Value} {g : Nat} (h : W.ownsRow b t 1 v n xs) (h' : W.ownsRow b' t' 1 v' n' xs') (hv : v.ownBlock = some g) (hv' : v'.ownBlock = some g) (ht : t ≠ t') : False := by
  rcases h.2 with ⟨rfl, _⟩ | ⟨g1, c1, cur1, rfl, _, hg1, _⟩
  · cases hv
  · rcases h'.2 with ⟨rfl, _⟩ | ⟨g2, c2, cur2, rfl, _, hg2, _⟩
    · cases hv'
    · have e1 : g1 = g := Option.some.inj hv
      have e2 : g2 = g := Option.some.inj hv'
      subst e1
      subst e2
      rw [hg1] at hg2
      injection hg2 with hg2
      injection hg2 with _ hg2
      exact ht hg2
theorem own_ge {W : World} {b n : Nat} {t : TypeId} {v : Value} {xs : List Value} {g : Nat} (h : W.ownsRow b t 1 v n xs) (hv : v.ownBlock = some g) : b ≤ g := by
  rcases h.2 with ⟨rfl, _⟩ | ⟨g1, c1, cur1, rfl, hb, _⟩
  · cases hv
  · have e1 : g1 = g := Option.some.inj hv
    omega
theorem own_formN {W : World} {b n : Nat} {t : TypeId} {v : Value} {xs : List Value} (h : W.ownsRow b t 1 v n xs) : ∃ A c, v = .slice A n c ∧ n ≤ c ∧ c ≤ 9223372036854775807 := by
  rcases h.2 with ⟨rfl, h0⟩ | ⟨g1, c1, cur1, rfl, _, _, h1, h2, _⟩
  · exact ⟨none, 0, by rw [h0], by omega, by omega⟩
  · unfold maxLen at h2
    exact ⟨_, _, rfl, h1, by omega⟩
theorem own_drop {W : World} {b g cap k o : Nat} {t : TypeId} {xs : List Int} (h : W.ownsRow b t 1 (.slice (some ⟨g, 0, none⟩) xs.length cap) xs.length (xs.map (.int .i64))) (hk : k ≤ xs.length) (ho : 0 < xs.length - k → o = k) :
    RowV W noX (.slice (some ⟨g, o, none⟩) (xs.length - k) (cap - k)) ((xs.drop k).map (D.int .i64)) := by
  obtain ⟨cur, rest, hC, hcur, hcl, hcap⟩ := own_cells (own_low h (Nat.zero_le b))
  obtain ⟨A, c, hv, hc1, hc2⟩ := own_formN h
  injection hv with _ _ hv
  subst hv
  have hlen : (xs.drop k).length = xs.length - k := List.length_drop
  refine Rep.row ⟨g, o, none⟩ _ _ 1 _ (fun i => [.int .i64 ((xs.drop k).getD i 0)]) (by rw [List.length_map, hlen]) (fun _ => rfl) (by omega) (by unfold maxLen; omega) (fun _ h => h) (by omega) (fun _ _ => rfl) (fun i hi j hj => ?_) (fun i hi => ?_)
  · obtain rfl : j = 0 := by omega
    have e := ho (by omega)
    have hx : k + i < xs.length := by omega
    show W.cell? ⟨g, o + (i * 1 + 0), none⟩ = _
    rw [e, Nat.mul_one, Nat.add_zero, hC.cell, hcur, List.getElem?_append_left (by simpa using hx), List.getElem?_map, List.getElem?_eq_getElem hx, List.getD_eq_getElem?_getD, List.getElem?_drop, List.getElem?_eq_getElem hx]
    rfl
  · have hi' : i < (xs.drop k).length := by simpa using hi
    rw [List.getElem_map, List.getD_eq_getElem?_getD, List.getElem?_eq_getElem hi']
    exact .int _ _
/-- A state of the caller's own, and two lists of its own beside it. -/
def OW (w wr : World) (p : Nat) (S : SS) (vi vc : Value) (ins came : List Int) : Prop :=
  ∃ T, SyAt wr T p S ∧ (∀ g, T g ≠ 0 → w.heap.size ≤ g) ∧ Kept noX w wr ∧ (wr.ownsRow w.heap.size 2 1 vi ins.length (ins.map (.int .i64)) ∧ ∀ g, vi.ownBlock = some g → T g = 0) ∧ (wr.ownsRow w.heap.size 3 1 vc came.length (came.map (.int .i64)) ∧ ∀ g, vc.ownBlock = some g → T g = 0)
theorem OW.keep {w wr W' : World} {p : Nat} {S : SS} {vi vc : Value} {ins came : List Int} (h : OW w wr p S vi vc ins came) (hk : Kept noX wr W') : OW w W' p S vi vc ins came := by
  obtain ⟨T, h1, h2, h3, ⟨h4, h5⟩, ⟨h6, h7⟩⟩ := h
  exact ⟨T, h1.keep hk, h2, h3.trans hk, ⟨own_kept h4 hk (fun _ _ h => h), h5⟩, ⟨own_kept h6 hk (fun _ _ h => h), h7⟩⟩
theorem OW.made {w wr : World} {T : Nat → Nat} {p : Nat} {S : SS} (h1 : SyAt wr T p S) (h2 : ∀ g, T g ≠ 0 → w.heap.size ≤ g) (h3 : Kept noX w wr) : OW w wr p S (.slice none 0 0) (.slice none 0 0) [] [] :=
  ⟨T, h1, h2, h3, ⟨World.ownsRow_nil _ _ _ _, fun g hg => by cases hg⟩, ⟨World.ownsRow_nil _ _ _ _, fun g hg => by cases hg⟩⟩
theorem ow_to {w wr W' : World} {T : Nat → Nat} {p : Nat} {S' : SS} {vi vc : Value} {ins came : List Int} (h2 : ∀ g, T g ≠ 0 → w.heap.size ≤ g) (h3 : Kept noX w wr)
    (h4 : wr.ownsRow w.heap.size 2 1 vi ins.length (ins.map (.int .i64)) ∧ ∀ g, vi.ownBlock = some g → T g = 0) (h6 : wr.ownsRow w.heap.size 3 1 vc came.length (came.map (.int .i64)) ∧ ∀ g, vc.ownBlock = some g → T g = 0) (ht : SyTo wr T p S' W') : OW w W' p S' vi vc ins came := by
  obtain ⟨T', a, b, c⟩ := ht
  have hs := h3.size
  refine ⟨T', a, fun g hg => ?_, h3.join c (fun i hi hl => by have := h2 i hi; omega), ⟨own_kept h4.1 c (fun g hg h => h (h4.2 g hg)), fun g hg => (b g (own_lt h4.1 hg)).trans (h4.2 g hg)⟩, ⟨own_kept h6.1 c (fun g hg h => h (h6.2 g hg)), fun g hg => (b g (own_lt h6.1 hg)).trans (h6.2 g hg)⟩⟩
  by_cases hlt : g < wr.heap.size
  · rw [b g hlt] at hg
    exact h2 g hg
  · omega
theorem OW.addI {w wr W' : World} {p : Nat} {S : SS} {vi vc v' : Value} {ins came : List Int} {x : Int} (h : OW w wr p S vi vc ins came) (hk : Kept (fun k => vi.ownBlock = some k) wr W')
    (hown : W'.ownsRow w.heap.size 2 1 v' (ins ++ [x]).length ((ins ++ [x]).map (.int .i64))) (hloc : v'.ownBlock = vi.ownBlock ∨ v'.ownBlock = some (wr.heap.size + 1)) : OW w W' p S v' vc (ins ++ [x]) came := by
  obtain ⟨T, h1, h2, h3, ⟨h4, h5⟩, ⟨h6, h7⟩⟩ := h
  have hTl : ∀ g, T g ≠ 0 → g < wr.heap.size := by
    obtain ⟨_, _, _, _, _, _, _, _, _, _, _, _, _, _, hh, _⟩ := h1
    exact hh
  have hne : ∀ g, vi.ownBlock = some g → ¬ vc.ownBlock = some g := fun g a b => own_types h4 h6 a b (by decide)
  have hge : ∀ g, vi.ownBlock = some g → w.heap.size ≤ g := fun g a => own_ge h4 a
  have hT : ∀ g, v'.ownBlock = some g → T g = 0 := fun g a => by
    rcases hloc with hl | hl
    · exact h5 g (hl.symm.trans a)
    · have e : wr.heap.size + 1 = g := Option.some.inj (hl.symm.trans a)
      rcases Nat.eq_zero_or_pos (T g) with h0 | h0
      · exact h0
      · have := hTl g (by omega); omega
  exact ⟨T, h1.kept hk h5, h2, h3.join hk (fun i hi hl => by have := hge i hi; omega), ⟨hown, hT⟩, ⟨own_kept h6 hk (fun g a b => hne g b a), h7⟩⟩
theorem OW.addC {w wr W' : World} {p : Nat} {S : SS} {vi vc v' : Value} {ins came : List Int} {x : Int} (h : OW w wr p S vi vc ins came) (hk : Kept (fun k => vc.ownBlock = some k) wr W')
    (hown : W'.ownsRow w.heap.size 3 1 v' (came ++ [x]).length ((came ++ [x]).map (.int .i64))) (hloc : v'.ownBlock = vc.ownBlock ∨ v'.ownBlock = some (wr.heap.size + 1)) : OW w W' p S vi v' ins (came ++ [x]) := by
  obtain ⟨T, h1, h2, h3, ⟨h4, h5⟩, ⟨h6, h7⟩⟩ := h
  have hTl : ∀ g, T g ≠ 0 → g < wr.heap.size := by
    obtain ⟨_, _, _, _, _, _, _, _, _, _, _, _, _, _, hh, _⟩ := h1
    exact hh
  have hne : ∀ g, vc.ownBlock = some g → ¬ vi.ownBlock = some g := fun g a b => own_types h4 h6 b a (by decide)
  have hge : ∀ g, vc.ownBlock = some g → w.heap.size ≤ g := fun g a => own_ge h6 a
  have hT : ∀ g, v'.ownBlock = some g → T g = 0 := fun g a => by
    rcases hloc with hl | hl
    · exact h7 g (hl.symm.trans a)
    · have e : wr.heap.size + 1 = g := Option.some.inj (hl.symm.trans a)
      rcases Nat.eq_zero_or_pos (T g) with h0 | h0
      · exact h0
      · have := hTl g (by omega); omega
  exact ⟨T, h1.kept hk h7, h2, h3.join hk (fun i hi hl => by have := hge i hi; omega), ⟨own_kept h4 hk (fun g a b => hne g b a), h5⟩, ⟨hown, hT⟩⟩
end Go.Proofs.Ytehcfahfbdphpaa
