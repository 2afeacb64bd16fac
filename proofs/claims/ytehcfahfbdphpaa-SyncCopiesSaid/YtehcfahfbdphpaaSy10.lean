/- Layer 4: a state in memory, whose blocks are tagged as its own; what calls keep of it (conditions: none). -/
import Derived.Test.YtehcfahfbdphpaaSy9
namespace Go.Proofs.Ytehcfahfbdphpaa
open Go.RowKit Go.Shelf

structure CH where
  it : List Int
  room : Int
  sent : Int
structure SS where
  os : List Int
  cs : List (List Int)
  qs : List CH

/-- A row of so many elements, in a block of that tag. -/
def RowIs (W : World) (T : Nat → Nat) (tag : Nat) (t : TypeId) (A : Option Addr) (n : Nat) (cur : List Value) : Prop := 0 < n → ∃ g, A = some ⟨g, 0, none⟩ ∧ Cells W g t cur ∧ T g = tag
/-- A queue's slice, in a block of that tag. -/
def QAt (W : World) (T : Nat → Nat) (tag : Nat) (t : TypeId) (v : Value) (xs : List Int) : Prop := W.ownsRow 0 t 1 v xs.length (xs.map (.int .i64)) ∧ (∀ g, v.ownBlock = some g → T g = tag) ∧ xs.length ≤ 1000000000
def SyAt (W : World) (T : Nat → Nat) (p : Nat) (S : SS) : Prop :=
  ∃ Am Ac Aq cm cc cq curM curC curQ,
    (Cells W p 79 [.bool true, .slice Am S.os.length cm, .slice Ac S.cs.length cc, .slice Aq S.qs.length cq] ∧ T p = 1) ∧
    (RowIs W T 2 86 Am S.os.length curM ∧ RowIs W T 3 99 Ac S.cs.length curC ∧ RowIs W T 4 112 Aq S.qs.length curQ) ∧
    (∀ i (h : i < S.os.length), curM[i]? = some (.int .i64 S.os[i])) ∧
    (∀ i (h : i < S.cs.length), ∃ v, curC[i]? = some v ∧ QAt W T (5 + 2 * i) 3 v S.cs[i]) ∧
    (∀ i (h : i < S.qs.length), ∃ v, curQ[i * 3]? = some v ∧ curQ[i * 3 + 1]? = some (.int .i64 S.qs[i].room) ∧ curQ[i * 3 + 2]? = some (.int .i64 S.qs[i].sent) ∧ QAt W T (6 + 2 * i) 2 v S.qs[i].it) ∧
    (∀ g, T g ≠ 0 → g < W.heap.size) ∧ (S.os.length ≤ 64 ∧ S.cs.length ≤ 64 ∧ S.qs.length ≤ 64)
/-- A call has led to that state: nothing but the state's own blocks has turned, and new ones are its own. -/
def SyTo (W : World) (T : Nat → Nat) (p : Nat) (S' : SS) (W' : World) : Prop := ∃ T', SyAt W' T' p S' ∧ (∀ g, g < W.heap.size → T' g = T g) ∧ Kept (fun g => T g ≠ 0) W W'

section
variable {W W' : World} {T T' : Nat → Nat} {X : Nat → Prop} {tag : Nat} {t : TypeId} {A : Option Addr} {n : Nat} {cur : List Value} {v : Value} {xs : List Int} {p : Nat} {S : SS}
theorem RowIs.kept (h : RowIs W T tag t A n cur) (hk : Kept X W W') (hx : ∀ g, g < W.heap.size → T g = tag → ¬ X g) (hT : ∀ g, g < W.heap.size → T' g = T g) : RowIs W' T' tag t A n cur := fun h0 => by
  obtain ⟨g, h1, h2, h3⟩ := h h0
  exact ⟨g, h1, h2.kept hk (hx g h2.lt h3), (hT g h2.lt).trans h3⟩
theorem own_lt {base : Nat} {size : Nat} {ys : List Value} (h : W.ownsRow base t size v n ys) {g : Nat} (hg : v.ownBlock = some g) : g < W.heap.size := by
  rcases h.2 with ⟨rfl, _⟩ | ⟨g', cap, cur, rfl, _, hgg, _⟩
  · cases hg
  · have e : g' = g := Option.some.inj hg
    subst e
    exact (Array.getElem?_eq_some_iff.1 hgg).1
theorem QAt.kept (h : QAt W T tag t v xs) (hk : Kept X W W') (hx : ∀ g, g < W.heap.size → T g = tag → ¬ X g) (hT : ∀ g, g < W.heap.size → T' g = T g) : QAt W' T' tag t v xs :=
  ⟨own_kept h.1 hk (fun g hg => hx g (own_lt h.1 hg) (h.2.1 g hg)), fun g hg => (hT g (own_lt h.1 hg)).trans (h.2.1 g hg), h.2.2⟩
theorem SyAt.kept (h : SyAt W T p S) (hk : Kept X W W') (hx : ∀ g, X g → T g = 0) : SyAt W' T p S := by
  obtain ⟨Am, Ac, Aq, cm, cc, cq, curM, curC, curQ, ⟨h1, h2⟩, ⟨h3, h4, h5⟩, h6, h7, h8, h9, h10⟩ := h
  have hn : ∀ tag, 0 < tag → ∀ g, g < W.heap.size → T g = tag → ¬ X g := fun tag h0 g _ hg hX => by have := hx g hX; omega
  exact ⟨Am, Ac, Aq, cm, cc, cq, curM, curC, curQ, ⟨h1.kept hk (hn 1 (by omega) p h1.lt h2), h2⟩, ⟨h3.kept hk (hn 2 (by omega)) (fun _ _ => rfl), h4.kept hk (hn 3 (by omega)) (fun _ _ => rfl), h5.kept hk (hn 4 (by omega)) (fun _ _ => rfl)⟩, h6,
    fun i hi => by obtain ⟨v, a, b⟩ := h7 i hi; exact ⟨v, a, b.kept hk (hn _ (by omega)) (fun _ _ => rfl)⟩,
    fun i hi => by obtain ⟨v, a, b, c, d⟩ := h8 i hi; exact ⟨v, a, b, c, d.kept hk (hn _ (by omega)) (fun _ _ => rfl)⟩, fun g hg => Nat.lt_of_lt_of_le (h9 g hg) hk.size, h10⟩
theorem SyAt.keep (h : SyAt W T p S) (hk : Kept noX W W') : SyAt W' T p S := h.kept hk (fun _ h => h.elim)
theorem SyAt.lt (h : SyAt W T p S) : p < W.heap.size := by
  obtain ⟨_, _, _, _, _, _, _, _, _, ⟨h1, _⟩, _⟩ := h
  exact h1.lt
theorem SyAt.same (h : SyAt W T p S) (hk : Kept noX W W') : SyTo W T p S W' := ⟨T, h.keep hk, fun _ _ => rfl, hk.any⟩
end

def okN (m c : Int) (rooms : List Int) : Bool := [m, c, (rooms.length : Int)].all (inI 0 64) && rooms.all (inI 1 16)
def initS (m c : Int) (rooms : List Int) : SS := ⟨List.replicate m.toNat (-1), List.replicate c.toNat [], rooms.map fun r => ⟨[], r, 0⟩⟩

set_option maxRecDepth 100000 in
set_option maxHeartbeats 1000000 in
theorem within_row (lo hi : Int) (A : Option Addr) (c : Nat) (xs : List Int) (hlen : xs.length ≤ 9223372036854775806) (w : World) (hv : RowV w noX (.slice A xs.length c) (xs.map (D.int .i64))) :
    Calls Try.prog 34 #[.int .i64 lo, .int .i64 hi, .slice A xs.length c] w fun e w' => e = .returned (.bool (xs.all (inI lo hi))) ∧ w' = w := by
  rcases Nat.eq_zero_or_pos xs.length with h0 | h0
  · obtain rfl : xs = [] := List.eq_nil_of_length_eq_zero h0
    clear hv
    go_enter Try.func34, Try.ntmps34
    go_wp2
    go_loopw [11] (fun i wr => i = .int .i64 0 ∧ wr = w) (fun _ _ => 0)
    case atStart => exact ⟨rfl, rfl⟩
    case round =>
      obtain ⟨rfl, rfl⟩ := hrel
      go_wp2
      go_ret
      exact ⟨rfl, rfl⟩
  · obtain ⟨b, o, c2, hveq, _, _⟩ := rowN_at hv h0
    injection hveq with hA _ hc
    subst hA hc
    refine within_any lo hi b o c xs hlen w (fun i h => ?_)
    obtain ⟨b', o', c', hveq, hcell, _⟩ := rowN_at hv h
    injection hveq with hA _ _
    injection hA with hA
    injection hA with hb ho
    subst hb ho
    exact hcell
end Go.Proofs.Ytehcfahfbdphpaa
