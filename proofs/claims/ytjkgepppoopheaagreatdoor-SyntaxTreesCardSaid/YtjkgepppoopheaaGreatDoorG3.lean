/- Expressions, statements, declarations as trees, and how they lie in memory (conditions: none). -/
import Derived.Test.YtjkgepppoopheaaGreatDoorG1
namespace Go.Proofs.YtjkgepppoopheaaGreatDoor
open Go.RowKit Go.Shelf

inductive ET : Type where
  | node (kind num : Int) (name : ByteArray) (slot : Int) (loc : Bool) (op : Int) (args : List ET) : ET
mutual
def ET.d : ET → D
  | .node k m s sl lo o args => .agg [.int .i64 k, .int .i64 m, .str s, .int .i64 sl, .bool lo, .int .i64 o, .row (ET.ds args)]
def ET.ds : List ET → List D
  | [] => []
  | e :: l => e.d :: ET.ds l
end
inductive ST : Type where
  | node (kind line col : Int) (name other : ByteArray) (expr index : ET) (body els : List ST) (id slot slot2 : Int) (loc : Bool) : ST
mutual
def ST.d : ST → D
  | .node k li co s t e x b l i sl ot lo => .agg [.int .i64 k, .int .i64 li, .int .i64 co, .str s, .str t, e.d, x.d, .row (ST.ds b), .row (ST.ds l), .int .i64 i, .int .i64 sl, .int .i64 ot, .bool lo]
def ST.ds : List ST → List D
  | [] => []
  | e :: l => e.d :: ST.ds l
end
structure DT where
  kind : Int
  line : Int
  col : Int
  name : ByteArray
  num : Int
  body : List ST
def DT.d (x : DT) : D := .agg [.int .i64 x.kind, .int .i64 x.line, .int .i64 x.col, .str x.name, .int .i64 x.num, .row (ST.ds x.body)]

theorem ET.ds_eq (l : List ET) : ET.ds l = l.map ET.d := by
  induction l with
  | nil => rfl
  | cons e l ih => rw [ET.ds, ih]; rfl
theorem ST.ds_eq (l : List ST) : ST.ds l = l.map ST.d := by
  induction l with
  | nil => rfl
  | cons e l ih => rw [ST.ds, ih]; rfl
@[simp] theorem ET.ds_length (l : List ET) : (ET.ds l).length = l.length := by rw [ET.ds_eq, List.length_map]
@[simp] theorem ST.ds_length (l : List ST) : (ST.ds l).length = l.length := by rw [ST.ds_eq, List.length_map]
theorem ET.ds_get (l : List ET) (i : Nat) (hi : i < (ET.ds l).length) : (ET.ds l)[i] = (l[i]'(by simpa using hi)).d := by simp only [ET.ds_eq, List.getElem_map]
theorem ST.ds_get (l : List ST) (i : Nat) (hi : i < (ST.ds l).length) : (ST.ds l)[i] = (l[i]'(by simpa using hi)).d := by simp only [ST.ds_eq, List.getElem_map]

def numE (m : Int) : ET := .node 1 m ⟨#[]⟩ 0 false 0 []
def nameE (s : ByteArray) : ET := .node 2 0 s 0 false 0 []
def cellE (s : ByteArray) (e : ET) : ET := .node 3 0 s 0 false 0 [e]
def negE (e : ET) : ET := .node 4 0 ⟨#[]⟩ 0 false 0 [e]
def notE (e : ET) : ET := .node 5 0 ⟨#[]⟩ 0 false 0 [e]
def binE (o : Int) (e f : ET) : ET := .node 6 0 ⟨#[]⟩ 0 false o [e, f]

abbrev EV (W : World) (Z : Nat → Prop) (cs : List Value) (e : ET) : Prop := Rep W Z cs e.d
abbrev SV (W : World) (Z : Nat → Prop) (cs : List Value) (s : ST) : Prop := Rep W Z cs s.d
abbrev DV (W : World) (Z : Nat → Prop) (cs : List Value) (x : DT) : Prop := Rep W Z cs x.d

section
variable {W : World} {Z : Nat → Prop} {cs : List Value}
theorem EV.iff {k m : Int} {s : ByteArray} {sl : Int} {lo : Bool} {o : Int} {args : List ET} :
    EV W Z cs (.node k m s sl lo o args) ↔ ∃ v, cs = [.int .i64 k, .int .i64 m, .string s, .int .i64 sl, .bool lo, .int .i64 o, v] ∧ RowV W Z v (ET.ds args) := by
  simp only [EV, ET.d, Rep.agg_cons, Rep.agg_nil, Rep.int_iff, Rep.bool_iff, Rep.str_iff, row_iff]
  constructor
  · rintro ⟨_, _, rfl, rfl, _, _, rfl, rfl, _, _, rfl, rfl, _, _, rfl, rfl, _, _, rfl, rfl, _, _, rfl, rfl, _, _, rfl, ⟨v, rfl, hv⟩, rfl⟩
    exact ⟨v, rfl, hv⟩
  · rintro ⟨v, rfl, hv⟩
    exact ⟨_, _, rfl, rfl, _, _, rfl, rfl, _, _, rfl, rfl, _, _, rfl, rfl, _, _, rfl, rfl, _, _, rfl, rfl, _, _, rfl, ⟨v, rfl, hv⟩, rfl⟩
theorem EV.len {e : ET} (h : EV W Z cs e) : cs.length = 7 := by
  cases e
  obtain ⟨v, rfl, _⟩ := EV.iff.1 h
  rfl
/-- The cells of an expression, each by its own. -/
theorem EV.form {e : ET} (h : EV W Z cs e) : ∃ k m s sl lo o A N C, cs = [.int .i64 k, .int .i64 m, .string s, .int .i64 sl, .bool lo, .int .i64 o, .slice A N C] := by
  cases e
  obtain ⟨v, rfl, hv⟩ := EV.iff.1 h
  obtain ⟨A, n, c, rfl, _⟩ := hv.form
  exact ⟨_, _, _, _, _, _, _, _, _, rfl⟩
theorem SV.iff {k li co : Int} {s t : ByteArray} {e x : ET} {b l : List ST} {i sl ot : Int} {lo : Bool} :
    SV W Z cs (.node k li co s t e x b l i sl ot lo) ↔ ∃ ce cx vb vl, cs = [.int .i64 k, .int .i64 li, .int .i64 co, .string s, .string t] ++ ce ++ cx ++ [vb, vl, .int .i64 i, .int .i64 sl, .int .i64 ot, .bool lo] ∧
      EV W Z ce e ∧ EV W Z cx x ∧ RowV W Z vb (ST.ds b) ∧ RowV W Z vl (ST.ds l) := by
  simp only [SV, ST.d, Rep.agg_cons, Rep.agg_nil, Rep.int_iff, Rep.bool_iff, Rep.str_iff, row_iff]
  constructor
  · rintro ⟨_, _, rfl, rfl, _, _, rfl, rfl, _, _, rfl, rfl, _, _, rfl, rfl, _, _, rfl, rfl, ce, _, rfl, he, cx, _, rfl, hx, _, _, rfl, ⟨vb, rfl, hb⟩, _, _, rfl, ⟨vl, rfl, hl⟩, _, _, rfl, rfl, _, _, rfl, rfl, _, _, rfl, rfl, _, _, rfl, rfl, rfl⟩
    exact ⟨ce, cx, vb, vl, by simp, he, hx, hb, hl⟩
  · rintro ⟨ce, cx, vb, vl, rfl, he, hx, hb, hl⟩
    exact ⟨_, _, by simp, rfl, _, _, rfl, rfl, _, _, rfl, rfl, _, _, rfl, rfl, _, _, rfl, rfl, ce, _, rfl, he, cx, _, rfl, hx, _, _, rfl, ⟨vb, rfl, hb⟩, _, _, rfl, ⟨vl, rfl, hl⟩, _, _, rfl, rfl, _, _, rfl, rfl, _, _, rfl, rfl, _, _, rfl, rfl, rfl⟩
theorem SV.len {s : ST} (h : SV W Z cs s) : cs.length = 25 := by
  cases s
  obtain ⟨ce, cx, vb, vl, rfl, he, hx, _⟩ := SV.iff.1 h
  have h1 := he.len
  have h2 := hx.len
  simp [h1, h2]
theorem DV.iff {x : DT} : DV W Z cs x ↔ ∃ v, cs = [.int .i64 x.kind, .int .i64 x.line, .int .i64 x.col, .string x.name, .int .i64 x.num, v] ∧ RowV W Z v (ST.ds x.body) := by
  simp only [DV, DT.d, Rep.agg_cons, Rep.agg_nil, Rep.int_iff, Rep.str_iff, row_iff]
  constructor
  · rintro ⟨_, _, rfl, rfl, _, _, rfl, rfl, _, _, rfl, rfl, _, _, rfl, rfl, _, _, rfl, rfl, _, _, rfl, ⟨v, rfl, hv⟩, rfl⟩
    exact ⟨v, rfl, hv⟩
  · rintro ⟨v, rfl, hv⟩
    exact ⟨_, _, rfl, rfl, _, _, rfl, rfl, _, _, rfl, rfl, _, _, rfl, rfl, _, _, rfl, rfl, _, _, rfl, ⟨v, rfl, hv⟩, rfl⟩
theorem DV.len {x : DT} (h : DV W Z cs x) : cs.length = 6 := by
  obtain ⟨v, rfl, _⟩ := DV.iff.1 h
  rfl
theorem RowV.nil (W : World) (Z : Nat → Prop) : RowV W Z (.slice none 0 0) [] := .nilrow
theorem RowV.keep {W' : World} {v : Value} {ds : List D} (h : RowV W Z v ds) (hk : Kept noX W W') : RowV W' Z v ds := Rep.keep h hk
theorem RowV.kept {X : Nat → Prop} {W' : World} {v : Value} {ds : List D} (h : RowV W Z v ds) (hk : Kept X W W') (hx : ∀ g, g < W.heap.size → X g → Z g) : RowV W' Z v ds := Rep.kept h hk hx
theorem RowV.mono {Z' : Nat → Prop} {v : Value} {ds : List D} (h : RowV W Z v ds) (hz : ∀ g, g < W.heap.size → Z' g → Z g) : RowV W Z' v ds := Rep.mono h hz

/-- A new block that is a list's elements, of one cell row each. -/
theorem RowV.lit {t : TypeId} {size : Nat} (n : Nat) (ds : List D) (hn : n = ds.length) (cs : List Value) (hp : 0 < size) (hm : n ≤ maxLen) (hl : cs.length = n * size) (hZ : ¬ Z W.heap.size) (hd : ∀ i (hi : i < ds.length), Rep W Z ((cs.drop (i * size)).take size) ds[i]) :
    RowV (W.alloc (.cells cs.toArray t)) Z (.slice (some ⟨W.heap.size, 0, none⟩) n n) ds := by
  subst hn
  refine RowV.own (t := t) (size := size) (xs := cs) ?_ hp (fun g hg => ?_) (fun i hi => (hd i hi).keep ((Kept.refl _ _).alloc _))
  · have := World.ownsRow_lit (base := 0) (e := t) (size := size) W cs.toArray ds.length (Nat.zero_le _) hm (by simpa using hl)
    simpa using this
  · have : W.heap.size = g := by simpa [Value.ownBlock] using hg
    exact this ▸ hZ

theorem EV.leaf (W : World) (Z : Nat → Prop) (k m : Int) (s : ByteArray) (o : Int) : EV W Z [.int .i64 k, .int .i64 m, .string s, .int .i64 0, .bool false, .int .i64 o, .slice none 0 0] (.node k m s 0 false o []) :=
  EV.iff.2 ⟨_, rfl, .nilrow⟩
/-- A new block with one tree in it. -/
theorem EV.one {e : ET} (h : EV W Z cs e) (hZ : ¬ Z W.heap.size) (k m : Int) (s : ByteArray) (o : Int) (t : TypeId) :
    EV (W.alloc (.cells cs.toArray t)) Z [.int .i64 k, .int .i64 m, .string s, .int .i64 0, .bool false, .int .i64 o, .slice (some ⟨W.heap.size, 0, none⟩) 1 1] (.node k m s 0 false o [e]) := by
  refine EV.iff.2 ⟨_, rfl, RowV.lit (size := 7) 1 _ rfl cs (by decide) (by decide) (by simpa using h.len) hZ (fun i hi => ?_)⟩
  obtain rfl : i = 0 := by simpa using hi
  have : (cs.drop (0 * 7)).take 7 = cs := by rw [Nat.zero_mul, List.drop_zero, List.take_of_length_le (by rw [h.len]; exact Nat.le_refl _)]
  rw [this]; exact h
/-- A new block with two trees in it. -/
theorem EV.two {ds : List Value} {e f : ET} (h : EV W Z cs e) (h' : EV W Z ds f) (hZ : ¬ Z W.heap.size) (k m : Int) (s : ByteArray) (o : Int) (t : TypeId) :
    EV (W.alloc (.cells (cs ++ ds).toArray t)) Z [.int .i64 k, .int .i64 m, .string s, .int .i64 0, .bool false, .int .i64 o, .slice (some ⟨W.heap.size, 0, none⟩) 2 2] (.node k m s 0 false o [e, f]) := by
  have l1 := h.len
  have l2 := h'.len
  refine EV.iff.2 ⟨_, rfl, RowV.lit (size := 7) 2 _ rfl (cs ++ ds) (by decide) (by decide) (by simp [l1, l2]) hZ (fun i hi => ?_)⟩
  have hi' : i < 2 := by simpa using hi
  by_cases h0 : i = 0
  · subst h0
    have : ((cs ++ ds).drop (0 * 7)).take 7 = cs := by rw [Nat.zero_mul, List.drop_zero, ← l1, List.take_left]
    rw [this]; exact h
  · obtain rfl : i = 1 := by omega
    have : ((cs ++ ds).drop (1 * 7)).take 7 = ds := by
      rw [Nat.one_mul]
      conv => lhs; arg 2; arg 1; rw [← l1]
      rw [List.drop_left, List.take_of_length_le (by rw [l2]; exact Nat.le_refl _)]
    rw [this]; exact h'
end
end Go.Proofs.YtjkgepppoopheaaGreatDoor
