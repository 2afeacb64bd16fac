/- Data in memory: what a row of cells says, whatever the type; it stays while other blocks turn (conditions: none). -/
import Derived.Test.YtehcfahfbdphpaaAppO
import Derived.Laws.OwnMore
namespace Go.Proofs.Ytehcfahfbdphpaa
open Go.RowKit Go.Shelf

/-- Data, whatever their types. -/
inductive D : Type where
  | int (k : IntKind) (n : Int)
  | bool (b : Bool)
  | str (s : ByteArray)
  | row (l : List D)
  | agg (l : List D)

/-- These cells are that datum, and none of its blocks is of Z. -/
inductive Rep (W : World) (Z : Nat → Prop) : List Value → D → Prop where
  | int (k n) : Rep W Z [.int k n] (.int k n)
  | bool (b) : Rep W Z [.bool b] (.bool b)
  | str (s) : Rep W Z [.string s] (.str s)
  | nilrow : Rep W Z [.slice none 0 0] (.row [])
  | row (a : Addr) (n c : Nat) (size : Nat) (ds : List D) (cs : Nat → List Value)
      (hn : n = ds.length) (hs : 0 < n → a.spot = none) (hc : n ≤ c) (hm : c ≤ maxLen) (hz : 0 < n → ¬ Z a.block) (hp : 0 < size)
      (hsz : ∀ i, i < n → (cs i).length = size)
      (hcell : ∀ i, i < n → ∀ j, j < size → W.cell? ⟨a.block, a.off + (i * size + j), none⟩ = (cs i)[j]?)
      (hd : ∀ i (hi : i < ds.length), Rep W Z (cs i) ds[i]) : Rep W Z [.slice (some a) n c] (.row ds)
  | agg (ps : List (List Value)) (ds : List D) (hl : ps.length = ds.length) (hd : ∀ i (hi : i < ds.length), Rep W Z (ps[i]'(hl ▸ hi)) ds[i]) : Rep W Z ps.flatten (.agg ds)

theorem block_lt_of {w : World} {b o : Nat} {v : Value} (h : w.cell? ⟨b, o, none⟩ = some v) : b < w.heap.size := block_lt_of_cell (a := ⟨b, o, none⟩) h

theorem Cells.keep {w w' : World} {g : Nat} {t : TypeId} {cs : List Value} (h : Cells w g t cs) (hk : Kept noX w w') : Cells w' g t cs := Cells.kept h hk (fun h => h)

/-- What is new may turn. -/
theorem Kept.mono_new {a b : World} {B : Nat} (h : Kept (fun g => g = B) a b) (hB : a.heap.size ≤ B := by omega) : Kept noX a b := h.mono (fun k hk e => by have e : k = B := e; omega)
/-- Own blocks may turn as they like. -/
theorem Kept.own {X : Nat → Prop} {a b c : World} {B : Nat} (h : Kept X a b) (k : Kept (· = B) b c) (hB : a.heap.size ≤ B) : Kept X a c := h.join k (fun i hi hlt => by omega)

namespace Rep
variable {W W' : World} {X Z Z' : Nat → Prop} {cs : List Value} {d : D}

theorem kept (h : Rep W Z cs d) (hk : Kept X W W') (hx : ∀ g, g < W.heap.size → X g → Z g) : Rep W' Z cs d := by
  induction h with
  | int k n => exact .int k n
  | bool b => exact .bool b
  | str s => exact .str s
  | nilrow => exact .nilrow
  | row a n c size ds cs hn hs hc hm hz hp hsz hcell hd ih =>
    refine .row a n c size ds cs hn hs hc hm hz hp hsz (fun i hi j hj => ?_) ih
    have hv : W.cell? ⟨a.block, a.off + (i * size + j), none⟩ = some ((cs i)[j]'(by rw [hsz i hi]; exact hj)) := by rw [hcell i hi j hj]; exact List.getElem?_eq_getElem _
    rw [← hcell i hi j hj]
    exact World.cell?_of_block (hk.block _ (block_lt_of hv) (fun hX => hz (by omega) (hx _ (block_lt_of hv) hX)))
  | agg ps ds hl hd ih => exact .agg ps ds hl ih
theorem keep (h : Rep W Z cs d) (hk : Kept noX W W') : Rep W' Z cs d := h.kept hk (fun _ _ h => h.elim)
theorem mono (h : Rep W Z cs d) (hz' : ∀ g, g < W.heap.size → Z' g → Z g) : Rep W Z' cs d := by
  induction h with
  | int k n => exact .int k n
  | bool b => exact .bool b
  | str s => exact .str s
  | nilrow => exact .nilrow
  | row a n c size ds cs hn hs hc hm hz hp hsz hcell hd ih =>
    refine .row a n c size ds cs hn hs hc hm (fun h0 hZ => ?_) hp hsz hcell ih
    have hv : W.cell? ⟨a.block, a.off + (0 * size + 0), none⟩ = some ((cs 0)[0]'(by rw [hsz 0 h0]; exact hp)) := by rw [hcell 0 h0 0 hp]; exact List.getElem?_eq_getElem _
    exact hz h0 (hz' _ (block_lt_of hv) hZ)
  | agg ps ds hl hd ih => exact .agg ps ds hl ih
theorem any (h : Rep W Z cs d) : Rep W noX cs d := h.mono (fun _ _ h => h.elim)

theorem int_iff {k n} : Rep W Z cs (.int k n) ↔ cs = [.int k n] := ⟨fun h => by cases h; rfl, fun h => h ▸ .int k n⟩
theorem bool_iff {b} : Rep W Z cs (.bool b) ↔ cs = [.bool b] := ⟨fun h => by cases h; rfl, fun h => h ▸ .bool b⟩
theorem str_iff {s} : Rep W Z cs (.str s) ↔ cs = [.string s] := ⟨fun h => by cases h; rfl, fun h => h ▸ .str s⟩
theorem agg_nil : Rep W Z cs (.agg []) ↔ cs = [] := by
  constructor
  · intro h
    cases h with
    | agg ps ds hl hd =>
      have : ps = [] := List.length_eq_zero_iff.1 hl
      subst this; rfl
  · rintro rfl
    exact .agg [] [] rfl (fun i hi => absurd hi (Nat.not_lt_zero i))
theorem agg_cons {d : D} {ds : List D} : Rep W Z cs (.agg (d :: ds)) ↔ ∃ c1 c2, cs = c1 ++ c2 ∧ Rep W Z c1 d ∧ Rep W Z c2 (.agg ds) := by
  constructor
  · intro h
    cases h with
    | agg ps ds' hl hd =>
      cases ps with
      | nil => simp at hl
      | cons p ps =>
        refine ⟨p, ps.flatten, rfl, hd 0 (by simp), .agg ps ds (by simpa using hl) (fun i hi => ?_)⟩
        have := hd (i + 1) (by simpa using hi)
        simpa using this
  · rintro ⟨c1, c2, rfl, h1, h2⟩
    cases h2 with
    | agg ps ds' hl hd =>
      refine .agg (c1 :: ps) (d :: ds) (by simpa using hl) (fun i hi => ?_)
      cases i with
      | zero => simpa using h1
      | succ i => simpa using hd i (by simpa using hi)

/-- Cells are one cell each. -/
theorem one (h : Rep W Z cs d) : ∀ u ∈ cs, u.oneCell' = true := by
  induction h with
  | int k n => intro u hu; obtain rfl := List.mem_singleton.1 hu; rfl
  | bool b => intro u hu; obtain rfl := List.mem_singleton.1 hu; rfl
  | str s => intro u hu; obtain rfl := List.mem_singleton.1 hu; rfl
  | nilrow => intro u hu; obtain rfl := List.mem_singleton.1 hu; rfl
  | row a n c size ds cs hn hs hc hm hz hp hsz hcell hd ih => intro u hu; obtain rfl := List.mem_singleton.1 hu; rfl
  | agg ps ds hl hd ih =>
    intro u hu
    obtain ⟨p, hp, hu⟩ := List.mem_flatten.1 hu
    obtain ⟨i, hi, rfl⟩ := List.getElem_of_mem hp
    exact ih i (hl ▸ hi) u hu
end Rep

/-- A slice's value, whose elements are these data. -/
def RowV (W : World) (Z : Nat → Prop) (v : Value) (ds : List D) : Prop := Rep W Z [v] (.row ds)
theorem row_iff {W : World} {Z : Nat → Prop} {cs : List Value} {ds : List D} : Rep W Z cs (.row ds) ↔ ∃ v, cs = [v] ∧ RowV W Z v ds := by
  constructor
  · intro h
    have h' := h
    cases h with
    | nilrow => exact ⟨_, rfl, h'⟩
    | row => exact ⟨_, rfl, h'⟩
  · rintro ⟨v, rfl, h⟩; exact h
theorem RowV.form {W : World} {Z : Nat → Prop} {v : Value} {ds : List D} (h : RowV W Z v ds) : ∃ A n c, v = .slice A n c ∧ n = ds.length ∧ n ≤ c ∧ c ≤ maxLen := by
  unfold RowV at h
  generalize hv : [v] = vs at h
  cases h with
  | nilrow => injection hv with hv; exact ⟨_, _, _, hv, rfl, Nat.le_refl _, Nat.zero_le _⟩
  | row a n c size ds cs hn hs hc hm => injection hv with hv; exact ⟨_, _, _, hv, hn, hc, hm⟩
/-- An element, if there is one: where its cells are. -/
theorem RowV.at_ {W : World} {Z : Nat → Prop} {v : Value} {ds : List D} (h : RowV W Z v ds) {i : Nat} (hi : i < ds.length) :
    ∃ b o c size cs, v = .slice (some ⟨b, o, none⟩) ds.length c ∧ cs.length = size ∧ Rep W Z cs ds[i] ∧ ∀ j, j < size → W.cell? ⟨b, o + (i * size + j), none⟩ = cs[j]? := by
  unfold RowV at h
  generalize hv : [v] = vs at h
  cases h with
  | nilrow => simp at hi
  | row a n c size ds cs hn hs hc hm hz hp hsz hcell hd =>
    injection hv with hv
    subst hn
    subst hv
    have hs := hs (by omega)
    refine ⟨a.block, a.off, c, size, cs i, ?_, hsz i hi, hd i hi, fun j hj => hcell i hi j hj⟩
    cases a; simp_all
/-- What a slice of one's own holds. -/
theorem RowV.own {W : World} {Z : Nat → Prop} {t : TypeId} {size : Nat} {v : Value} {ds : List D} {xs : List Value} (h : W.ownsRow 0 t size v ds.length xs) (hp : 0 < size) (hz : ∀ g, v.ownBlock = some g → ¬ Z g)
    (hd : ∀ i (hi : i < ds.length), Rep W Z ((xs.drop (i * size)).take size) ds[i]) : RowV W Z v ds := by
  have h' := h
  rcases h.2 with ⟨rfl, h0⟩ | ⟨g, cap, cur, rfl, _, hg, hc, hm, hsz, htake⟩
  · have : ds = [] := List.length_eq_zero_iff.1 h0
    subst this; exact .nilrow
  · have hxl : ∀ i, i < ds.length → ((xs.drop (i * size)).take size).length = size := fun i hi => by
      have h1 := h'.1
      have : (i + 1) * size ≤ ds.length * size := Nat.mul_le_mul_right _ hi
      have e : (i + 1) * size = i * size + size := Nat.succ_mul i size
      rw [List.length_take, List.length_drop, h1]; omega
    refine .row ⟨g, 0, none⟩ ds.length cap size ds (fun i => (xs.drop (i * size)).take size) rfl (fun _ => rfl) hc hm (fun _ => hz g rfl) hp hxl (fun i hi j hj => ?_) hd
    have h1 := h'.1
    have e1 : (i + 1) * size ≤ ds.length * size := Nat.mul_le_mul_right _ hi
    have e2 : (i + 1) * size = i * size + size := Nat.succ_mul i size
    show W.cell? ⟨g, 0 + (i * size + j), none⟩ = _
    rw [Nat.zero_add, h'.cellAt (i * size + j) (by omega), List.getElem?_take, if_pos hj, List.getElem?_drop]
end Go.Proofs.Ytehcfahfbdphpaa
