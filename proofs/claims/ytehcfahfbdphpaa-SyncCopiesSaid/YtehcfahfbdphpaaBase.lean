/- Frames of calls: what a call may have changed of the blocks that were there (conditions: none). -/
import Derived.Test.YtehcfahfbdphpaaRows
import Derived.WalkKit
import Derived.WalkSpells
import Derived.WalkLawsBesides
import Derived.BigQuiet
import Derived.Deep.QuietTactic
import Derived.Lib.Hide
import Derived.RangeFuncLeaves
import Derived.RangeFuncCalls
import Derived.StillTailTactics
import Derived.Deep.LoopGhost
import Derived.Deep.Draws
import Derived.Shelf.Abstract
import Derived.Lib.UnsafeStr
import Derived.Laws.CopyOwn
namespace Go.Proofs.Ytehcfahfbdphpaa
open Go.RowKit Go.Shelf

/-- From w to w' nothing that was there has turned but the blocks of X. -/
structure Kept (X : Nat → Prop) (w w' : World) : Prop where
  os : w'.os = w.os
  tape : w'.tape = w.tape
  output : w'.output = w.output
  size : w.heap.size ≤ w'.heap.size
  block : ∀ k, k < w.heap.size → ¬ X k → w'.heap[k]? = w.heap[k]?

def noX : Nat → Prop := fun _ => False

namespace Kept
variable {X Y : Nat → Prop} {a b w w' : World}
theorem refl (X : Nat → Prop) (w : World) : Kept X w w := ⟨rfl, rfl, rfl, Nat.le_refl _, fun _ _ _ => rfl⟩
theorem trans {c : World} (h : Kept X a b) (k : Kept X b c) : Kept X a c :=
  ⟨k.os.trans h.os, k.tape.trans h.tape, k.output.trans h.output, Nat.le_trans h.size k.size, fun i hi hx => (k.block i (Nat.lt_of_lt_of_le hi h.size) hx).trans (h.block i hi hx)⟩
theorem mono (h : Kept X a b) (hxy : ∀ k, k < a.heap.size → X k → Y k) : Kept Y a b :=
  ⟨h.os, h.tape, h.output, h.size, fun k hk hy => h.block k hk (fun hx => hy (hxy k hk hx))⟩
theorem any (h : Kept noX a b) : Kept X a b := h.mono (fun _ _ h => h.elim)
/-- The second step may also turn what is new since the first world. -/
theorem join {c : World} (h : Kept X a b) (k : Kept Y b c) (hy : ∀ i, Y i → i < a.heap.size → X i) : Kept X a c :=
  ⟨k.os.trans h.os, k.tape.trans h.tape, k.output.trans h.output, Nat.le_trans h.size k.size, fun i hi hx => (k.block i (Nat.lt_of_lt_of_le hi h.size) (fun hyi => hx (hy i hyi hi))).trans (h.block i hi hx)⟩
theorem drew (h : Kept X a w) : Kept X a w.drew := ⟨h.os, h.tape, h.output, h.size, h.block⟩
theorem drewN (h : Kept X a w) (n : Nat) : Kept X a (w.drewN n) := ⟨h.os, h.tape, h.output, h.size, h.block⟩
theorem alloc (h : Kept X a w) (o : Obj) : Kept X a (w.alloc o) :=
  ⟨h.os, h.tape, h.output, Nat.le_trans h.size (by simp), fun k hk hx => (Below.heap_alloc w o k (Nat.lt_of_lt_of_le hk h.size)).trans (h.block k hk hx)⟩
theorem setCell (h : Kept X a w) {p : Addr} (hp : p.block < a.heap.size → X p.block) (u : Value) : Kept X a (w.setCell p u) :=
  ⟨h.os, h.tape, h.output, by simpa [World.setCell] using h.size, fun k hk hx => (Below.heap_setCell w p u k (by rintro rfl; exact hx (hp hk))).trans (h.block k hk hx)⟩
theorem grown {row : Option Nat} (h : Kept X a w) (hg : w.grownBy w' row) (hr : ∀ k, row = some k → k < a.heap.size → X k) : Kept X a w' :=
  ⟨hg.os.trans h.os, hg.tape.trans h.tape, hg.output.trans h.output, Nat.le_trans h.size hg.size, fun k hk hx =>
    (hg.block k (Nat.lt_of_lt_of_le hk h.size) (fun e => hx (hr k e.symm hk))).trans (h.block k hk hx)⟩
theorem below (h : Kept X a b) {B : Nat} (hB : B ≤ a.heap.size) (hx : ∀ k, X k → B ≤ k) : Below B a b :=
  ⟨h.os, h.tape, h.output, h.size, fun k hk => h.block k (by omega) (fun hxk => by have := hx k hxk; omega)⟩
theorem of_below {B : Nat} (h : Below B a b) (hx : ∀ k, B ≤ k → k < a.heap.size → X k) : Kept X a b :=
  ⟨h.os, h.tape, h.output, h.size, fun k hk hxk => h.block k (Nat.lt_of_not_le (fun hB => hxk (hx k hB hk)))⟩
theorem heap {k : Nat} {o : Obj} (h : Kept X a b) (ho : a.heap[k]? = some o) (hx : ¬ X k) : b.heap[k]? = some o :=
  (h.block k (Array.getElem?_eq_some_iff.1 ho).1 hx).trans ho
end Kept

/-- Block g is just these cells, none frozen. -/
def Cells (w : World) (g : Nat) (t : TypeId) (cs : List Value) : Prop := w.heap[g]? = some (.cells cs.toArray t (0, 0))

namespace Cells
variable {w w' : World} {g : Nat} {t : TypeId} {cs : List Value}
theorem lt (h : Cells w g t cs) : g < w.heap.size := (Array.getElem?_eq_some_iff.1 h).1
theorem cell (h : Cells w g t cs) (i : Nat) : w.cell? ⟨g, i, none⟩ = cs[i]? := by
  unfold Cells at h
  simp [World.cell?, h]
theorem free (h : Cells w g t cs) (i : Nat) : w.frozen? ⟨g, i, none⟩ = false := by
  unfold Cells at h
  simp [World.frozen?, h]
theorem fresh (w : World) (t : TypeId) (cs : List Value) : Cells (w.alloc (.cells cs.toArray t (0, 0))) w.heap.size t cs := World.alloc_heap_new w _
theorem drew (h : Cells w g t cs) : Cells w.drew g t cs := h
theorem drewN (h : Cells w g t cs) (n : Nat) : Cells (w.drewN n) g t cs := h
theorem alloc (h : Cells w g t cs) (o : Obj) : Cells (w.alloc o) g t cs := (Below.heap_alloc w o g h.lt).trans h
theorem put (h : Cells w g t cs) (i : Nat) (u : Value) : Cells (w.setCell ⟨g, i, none⟩ u) g t (cs.set i u) := by
  unfold Cells at h ⊢
  simp [World.setCell, Array.getElem?_modify, h]
theorem far (h : Cells w g t cs) {p : Addr} (hp : g ≠ p.block) (u : Value) : Cells (w.setCell p u) g t cs := (Below.heap_setCell w p u g hp).trans h
theorem kept {X : Nat → Prop} (h : Cells w g t cs) (hk : Kept X w w') (hx : ¬ X g) : Cells w' g t cs := hk.heap h hx
end Cells
end Go.Proofs.Ytehcfahfbdphpaa
