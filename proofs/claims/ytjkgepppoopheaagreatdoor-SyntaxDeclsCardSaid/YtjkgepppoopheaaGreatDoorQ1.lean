/- Expressions, statements, declarations as trees, and how they lie in memory (conditions: none). -/
import Derived.Test.YtjkgepppoopheaaGreatDoorAbb
import Derived.Test.YtjkgepppoopheaaGreatDoorRows
import Derived.WalkKit
import Derived.WalkSpells
import Derived.WalkLawsBesides
import Derived.BigQuiet
import Derived.Deep.QuietTactic
import Derived.Lib.Hide
import Derived.RangeFuncLeaves
import Derived.RangeFuncCalls
import Derived.StillTailTactics
import Derived.Deep.LoopGhost
import Derived.Deep.Draws
import Derived.Shelf.Abstract
import Derived.Lib.UnsafeStr
import Derived.Laws.CopyOwn
import Derived.RangeFuncNested
import Derived.Maps.AppendAt
import Derived.OwnWalkIn
import Derived.Laws.OwnMore
set_option maxRecDepth 100000
set_option maxHeartbeats 1000000
namespace Go.Proofs.YtjkgepppoopheaaGreatDoor
open Go.RowKit Go.Shelf
structure Kept (X : Nat → Prop) (w w' : World) : Prop where
 os : w'.os = w.os
 tape : w'.tape = w.tape
 output : w'.output = w.output
 size : w.heap.size ≤ w'.heap.size
 block : ∀ k, k < w.heap.size → ¬ X k → w'.heap[k]? = w.heap[k]?
def noX : Nat → Prop := fun _ => False
namespace Kept
variable {X Y : Nat → Prop} {a b w w' : World}
theorem refl (X : Nat → Prop) (w : World) : Kept X w w := ⟨rfl, rfl, rfl, Nat.le_refl _, fun _ _ _ => rfl⟩
theorem trans {c : World} (h : Kept X a b) (k : Kept X b c) : Kept X a c :=
 ⟨k.os.trans h.os, k.tape.trans h.tape, k.output.trans h.output, Nat.le_trans h.size k.size, fun i hi hx => (k.block i (Nat.lt_of_lt_of_le hi h.size) hx).trans (h.block i hi hx)⟩
theorem mono (h : Kept X a b) (hxy : ∀ k, k < a.heap.size → X k → Y k) : Kept Y a b :=
 ⟨h.os, h.tape, h.output, h.size, fun k hk hy => h.block k hk (fun hx => hy (hxy k hk hx))⟩
theorem any (h : Kept noX a b) : Kept X a b := h.mono (fun _ _ h => h.elim)
theorem join {c : World} (h : Kept X a b) (k : Kept Y b c) (hy : ∀ i, Y i → i < a.heap.size → X i) : Kept X a c :=
 ⟨k.os.trans h.os, k.tape.trans h.tape, k.output.trans h.output, Nat.le_trans h.size k.size, fun i hi hx => (k.block i (Nat.lt_of_lt_of_le hi h.size) (fun hyi => hx (hy i hyi hi))).trans (h.block i hi hx)⟩
theorem drew (h : Kept X a w) : Kept X a w.drew := ⟨h.os, h.tape, h.output, h.size, h.block⟩
theorem drewN (h : Kept X a w) (n : Nat) : Kept X a (w.drewN n) := ⟨h.os, h.tape, h.output, h.size, h.block⟩
theorem alloc (h : Kept X a w) (o : Obj) : Kept X a (w.alloc o) :=
 ⟨h.os, h.tape, h.output, Nat.le_trans h.size (by simp), fun k hk hx => (Below.heap_alloc w o k (Nat.lt_of_lt_of_le hk h.size)).trans (h.block k hk hx)⟩
theorem setCell (h : Kept X a w) {p : Addr} (hp : p.block < a.heap.size → X p.block) (u : Value) : Kept X a (w.setCell p u) :=
 ⟨h.os, h.tape, h.output, by simpa [World.setCell] using h.size, fun k hk hx => (Below.heap_setCell w p u k (by rintro rfl; exact hx (hp hk))).trans (h.block k hk hx)⟩
theorem grown {row : Option Nat} (h : Kept X a w) (hg : w.grownBy w' row) (hr : ∀ k, row = some k → k < a.heap.size → X k) : Kept X a w' :=
 ⟨hg.os.trans h.os, hg.tape.trans h.tape, hg.output.trans h.output, Nat.le_trans h.size hg.size, fun k hk hx =>
   (hg.block k (Nat.lt_of_lt_of_le hk h.size) (fun e => hx (hr k e.symm hk))).trans (h.block k hk hx)⟩
theorem below (h : Kept X a b) {B : Nat} (hB : B ≤ a.heap.size) (hx : ∀ k, X k → B ≤ k) : Below B a b :=
 ⟨h.os, h.tape, h.output, h.size, fun k hk => h.block k kom (fun hxk => by have := hx k hxk; omega)⟩
theorem of_below {B : Nat} (h : Below B a b) (hx : ∀ k, B ≤ k → k < a.heap.size → X k) : Kept X a b :=
 ⟨h.os, h.tape, h.output, h.size, fun k hk hxk => h.block k (Nat.lt_of_not_le (fun hB => hxk (hx k hB hk)))⟩
theorem heap {k : Nat} {o : Obj} (h : Kept X a b) (ho : a.heap[k]? = some o) (hx : ¬ X k) : b.heap[k]? = some o :=
 (h.block k (Array.getElem?_eq_some_iff.1 ho).1 hx).trans ho
end Kept
def Cells (w : World) (g : Nat) (t : TypeId) (cs : List Value) : Prop := w.heap[g]? = some (.cells cs.toArray t (0, 0))
namespace Cells
variable {w w' : World} {g : Nat} {t : TypeId} {cs : List Value}
theorem lt (h : Cells w g t cs) : g < w.heap.size := (Array.getElem?_eq_some_iff.1 h).1
theorem cell (h : Cells w g t cs) (i : Nat) : w.cell? ⟨g, i, none⟩ = cs[i]? := by
 unfold Cells at h
 simp [World.cell?, h]
theorem free (h : Cells w g t cs) (i : Nat) : w.frozen? ⟨g, i, none⟩ = false := by
 unfold Cells at h
 simp [World.frozen?, h]
theorem fresh (w : World) (t : TypeId) (cs : List Value) : Cells (w.alloc (.cells cs.toArray t (0, 0))) w.heap.size t cs := World.alloc_heap_new w _
theorem drew (h : Cells w g t cs) : Cells w.drew g t cs := h
theorem drewN (h : Cells w g t cs) (n : Nat) : Cells (w.drewN n) g t cs := h
theorem alloc (h : Cells w g t cs) (o : Obj) : Cells (w.alloc o) g t cs := (Below.heap_alloc w o g h.lt).trans h
theorem put (h : Cells w g t cs) (i : Nat) (u : Value) : Cells (w.setCell ⟨g, i, none⟩ u) g t (cs.set i u) := by
 unfold Cells at h ⊢
 simp [World.setCell, Array.getElem?_modify, h]
theorem far (h : Cells w g t cs) {p : Addr} (hp : g ≠ p.block) (u : Value) : Cells (w.setCell p u) g t cs := (Below.heap_setCell w p u g hp).trans h
theorem kept {X : Nat → Prop} (h : Cells w g t cs) (hk : Kept X w w') (hx : ¬ X g) : Cells w' g t cs := hk.heap h hx
end Cells
variable {P : Program}
def SeqO {α : Type} (P : Program) (g : Nat) (lb : Array Value) (encs : α → Array Value) (go : α → Prop) (May : List α → α → Prop) (S Sp : List α → Prop) (base : Nat) (w : World) : Prop :=
 ∀ (l : Nat) (J Jx : (Nat → Prop) → List α → World → Prop) (W : World), Kept noX w W →
  (∀ O pre W1 W2, (∀ k, O k → base ≤ k) → J O pre W1 → Kept O W1 W2 → J O pre W2) →
  (∀ O O' pre W1, J O pre W1 → (∀ k, k < W1.heap.size → O' k → O k) → J O' pre W1) →
  (∀ O pre W1 W2, (∀ k, O k → base ≤ k) → Jx O pre W1 → Kept O W1 W2 → Jx O pre W2) →
  (∀ O pre x W1, (∀ k, O k → base ≤ k) → (∀ k, O k → k < W1.heap.size) → May pre x → J O pre W1 → YieldAt Fence.wide 0 P l (encs x) W1 fun e W' =>
    (e = .returned (.bool true) ∧ go x ∧ J O (pre ++ [x]) W' ∧ Kept (fun k => ¬ O k) W1 W') ∨ (e = .returned (.bool false) ∧ Jx O (pre ++ [x]) W')) →
  J (fun k => base ≤ k ∧ k < w.heap.size) [] W →
  CallsIn Fence.wide 0 P g (#[.func (.yield l) #[] #[]] ++ lb) W fun e W' => (∃ v, e = .returned v) ∧ ((∃ xs, S xs ∧ ∃ O, (∀ k, O k → base ≤ k) ∧ J O xs W') ∨ (∃ pre, Sp pre ∧ ∃ O, (∀ k, O k → base ≤ k) ∧ Jx O pre W'))
theorem Kept.putObj {X : Nat → Prop} {a w : World} (h : Kept X a w) {r : Nat} (hr : r < a.heap.size → X r) (o : Obj) : Kept X a (w.putObj r o) :=
 ⟨h.os, h.tape, h.output, by rw [World.putObj_size]; exact h.size, fun k hk hx => (World.putObj_heap_other (by rintro rfl; exact hx (hr hk))).trans (h.block k hk hx)⟩
def postO {α : Type} (O : Nat → Prop) (go : Prop) (I : (Nat → Prop) → List α → World → Prop) (Ix : Code → (Nat → Prop) → List α → World → Prop) (xs : List α) (W : World) : Exit → Act → World → Prop
 | .normal, _, W' => go ∧ Kept (fun k => ¬ O k) W W' ∧ I O xs W'
 | .ret, _, W' => Kept (fun k => ¬ O k) W W' ∧ Ix .ret O xs W'
 | .exit id, _, W' => Kept (fun k => ¬ O k) W W' ∧ Ix (.exit id) O xs W'
 | .goto t, _, W' => Kept (fun k => ¬ O k) W W' ∧ Ix (.goto t) O xs W'
 | .panic _, _, _ => False
 | .outgrown, _, _ => False
theorem wpIn_rangeO {α : Type} {g : Operand} {ps : Array Tmp} {assign body : Code} {Q : Exit → Act → World → Prop} {a : Act} {w : World}
  {gf : Nat} {lb : Array Value} (hg : a.eval g = .func (.func gf) #[] lb) (eg : ∀ args w, (callFunc gf args).run P w = .ok (.enter gf args) w)
  {encs : α → Array Value} {go : α → Prop} {May : List α → α → Prop} {S Sp : List α → Prop} {w0 : World} {base : Nat} (hseq : SeqO P gf lb encs go May S Sp base w0) (hbase : base ≤ w.heap.size) (hw0 : Kept noX w0 w) (hps : ∀ x, (encs x).size = ps.size)
  (I : (Nat → Prop) → List α → World → Prop) (Ix : Code → (Nat → Prop) → List α → World → Prop) (Ax : (Nat → Prop) → List α → α → Act → World → Prop)
  (hI : ∀ O pre W1 W2, (∀ k, O k → base ≤ k) → I O pre W1 → Kept O W1 W2 → I O pre W2)
  (hIe : ∀ O O' pre W1, I O pre W1 → (∀ k, k < W1.heap.size → O' k → O k) → I O' pre W1)
  (hIx : ∀ c O pre W1 W2, (∀ k, O k → base ≤ k) → Ix c O pre W1 → Kept O W1 W2 → Ix c O pre W2)
  (hAx : ∀ O pre x a1 W1 W2, (∀ k, O k → base ≤ k) → Ax O pre x a1 W1 → Kept O W1 W2 → Ax O pre x a1 W2)
  (h0 : I (fun k => base ≤ k ∧ k < w0.heap.size) [] w)
  (hassign : ∀ (l : Nat) O pre x W, (∀ k, O k → base ≤ k) → (∀ k, O k → k < W.heap.size) → May pre x → I O pre W →
    assign.wpIn (Fence.wide.inRound l) 0 P (Exit.then (fun a1 W1 => Kept noX W W1 ∧ Ax O pre x a1 W1) (fun _ _ _ => False)) { tmps := (ps.zip (encs x)).foldl (fun t (p, v) => t.setIfInBounds p v) a.tmps, defers := [] } W)
  (hbody : ∀ (l : Nat) O pre x a1 W, (∀ k, O k → base ≤ k) → May pre x → Ax O pre x a1 W → body.wpIn (Fence.wide.inRound l) 0 P (postO O (go x) I Ix (pre ++ [x]) W) a1 W)
  (hdone : ∀ (D : Nat) xs O W, w.heap.size ≤ D → (∀ k, O k → base ≤ k) → O D → S xs → I O xs W → W.heap[D]? = some (.deferred (some [])) → Q .normal { a with defers := { target := .collected D, args := #[] } :: a.defers } W)
  (hstop : ∀ (D : Nat) c pre O W, w.heap.size ≤ D → (∀ k, O k → base ≤ k) → O D → Sp pre → Ix c O pre W → W.heap[D]? = some (.deferred (some [])) → c.wpIn Fence.wide 0 P Q { a with defers := { target := .collected D, args := #[] } :: a.defers } W) :
  (Code.rangeFunc g ps assign body).wpIn Fence.wide 0 P Q a w := by
 refine wpIn_rangeFunc ?_
 intro fn hfn
 obtain ⟨rec, hrec⟩ : ∃ rec : LoopState → Option Code → Loop, rec = fun st pe => { state := st, pending := pe, fn, tmps := a.tmps, params := ps, assign, body, defers := w.heap.size } := ⟨_, rfl⟩
 obtain ⟨W1, hW1⟩ : ∃ W1, (w.alloc (.deferred (some []))).alloc (.loop (rec .ready none)) = W1 := ⟨_, rfl⟩
 have hL1 : W1.heap[w.heap.size + 1]? = some (.loop (rec .ready none)) := by exact k_25
 have hK1 : W1.heap[w.heap.size]? = some (.deferred (some [])) := by
  rw [← hW1]; exact (Below.heap_alloc _ _ _ (by simp)).trans (World.alloc_heap_new w _)
 have hkw : Kept noX w W1 := by rw [← hW1]; exact ((Kept.refl _ _).alloc _).alloc _
 have hsz : W1.heap.size = w.heap.size + 2 := by rw [← hW1]; simp
 -- the set that the caller's invariant leaves out, with the loop's own two blocks
 let OO : (Nat → Prop) → Nat → Prop := fun O k => O k ∨ k = w.heap.size ∨ k = w.heap.size + 1
 have hOO : ∀ O : Nat → Prop, (∀ k, O k → base ≤ k) → ∀ k, OO O k → base ≤ k := fun O h k hk => by
  rcases hk with hk | hk | hk
  ·have := h k hk; omega
  ·omega
  ·omega
 refine ⟨w.heap.size + 1, [{ target := .collected w.heap.size, args := #[] }], W1, { target := .fn (.func gf) lb, args := #[.func (.yield (w.heap.size + 1)) #[] #[]] }, W1, gf,
   #[.func (.yield (w.heap.size + 1)) #[] #[]] ++ lb, W1, ?_, ?_, ?_, ?_, fun h => by simp [Fence.wide] at h, ?_⟩
 ·rw [← hW1, hrec]; exact run_enterLoop_outer _ _ _ _ _
 ·simp only [resolve, hg]
  simp [go_sem]
 ·intro _ _; trivial
 ·simp [invoke, go_sem, eg]
 ·refine (hseq (w.heap.size + 1)
    (fun O pre W => I (OO O) pre W ∧ (¬ O w.heap.size ∧ ¬ O (w.heap.size + 1)) ∧ W.heap[w.heap.size + 1]? = some (.loop (rec .ready none)) ∧ W.heap[w.heap.size]? = some (.deferred (some [])))
    (fun O pre W => ∃ c, Ix c (OO O) pre W ∧ (¬ O w.heap.size ∧ ¬ O (w.heap.size + 1)) ∧ W.heap[w.heap.size + 1]? = some (.loop (rec .done (some c))) ∧ W.heap[w.heap.size]? = some (.deferred (some [])))
    W1 (hw0.trans hkw)
    (fun O pre A B hO hs hk => ⟨hI _ _ A B (hOO O hO) hs.1 (hk.mono (fun _ _ h => .inl h)), hs.2.1, hk.heap hs.2.2.1 hs.2.1.2, hk.heap hs.2.2.2 hs.2.1.1⟩)
    (fun O O' pre A hs h => ⟨hIe _ _ _ _ hs.1 (fun k hk ho => by
      rcases ho with ho | ho
      · exact .inl (h k hk ho)
      · exact .inr ho), ⟨fun ho => hs.2.1.1 (h _ (Array.getElem?_eq_some_iff.1 hs.2.2.2).1 ho), fun ho => hs.2.1.2 (h _ (Array.getElem?_eq_some_iff.1 hs.2.2.1).1 ho)⟩, hs.2.2⟩)
    (fun O pre A B hO hs hk => by
      obtain ⟨c, hc, hn, hl, hd⟩ := hs
      exact ⟨c, hIx c _ _ A B (hOO O hO) hc (hk.mono (fun _ _ h => .inl h)), hn, hk.heap hl hn.2, hk.heap hd hn.1⟩)
    ?_ ⟨hI (OO fun k => base ≤ k ∧ k < w0.heap.size) [] w W1 (hOO _ (fun _ h => h.1)) (hIe _ _ _ _ h0 (fun k hk ho => by
      rcases ho with ho | ho | ho
      · exact ho
      · omega
      · omega)) hkw.any, ⟨fun h => by have := hw0.size; omega, fun h => by have := hw0.size; omega⟩, hL1, hK1⟩).mono ?_
  ·-- one round
   rintro O pre x W hO hOs hmay ⟨hi, hn, hl, hk⟩
   have hlt : w.heap.size + 1 < W.heap.size := (Array.getElem?_eq_some_iff.1 hl).1
   have hy := run_yield (P := P) (args := encs x) hl (by rw [hrec]; exact hps x)
   rw [hrec] at hy
   refine ⟨fn, _, assign, body, hy, roundIn_of_wpIn hfn (wpIn_mono (hassign _ (OO O) pre x W (hOO O hO) (fun k ho => by
     rcases ho with ho | ho | ho
     · exact hOs k ho
     · omega
     · omega) hmay hi) ?_)⟩
   intro e0 a1 W2 hq
   cases e0 with
   | normal =>
    obtain ⟨hk2, hax⟩ := hq
    have hl2' : W2.heap[w.heap.size + 1]? = some (.loop (rec .ready none)) := hk2.heap hl (fun h => h)
    have hd2' : W2.heap[w.heap.size]? = some (.deferred (some [])) := hk2.heap hk (fun h => h)
    have hbr := run_beginRound (P := P) hl2' (by rw [hrec])
    refine ⟨_, hbr, ?_⟩
    have hlt2 : w.heap.size + 1 < W2.heap.size := (Array.getElem?_eq_some_iff.1 hl2').1
    have hl3 : (W2.putObj (w.heap.size + 1) (.loop { rec .ready none with state := .busy })).heap[w.heap.size + 1]? = some (.loop { rec .ready none with state := .busy }) := World.putObj_heap_same hlt2
    have hd3 : (W2.putObj (w.heap.size + 1) (.loop { rec .ready none with state := .busy })).heap[w.heap.size]? = some (.deferred (some [])) := (World.putObj_heap_other kom).trans hd2'
    have hk3 : Kept (OO O) W2 (W2.putObj (w.heap.size + 1) (.loop { rec .ready none with state := .busy })) := (Kept.refl _ _).putObj (fun _ => .inr (.inr rfl)) _
    have hk3' : Kept (fun k => ¬ O k) W2 (W2.putObj (w.heap.size + 1) (.loop { rec .ready none with state := .busy })) := (Kept.refl _ _).putObj (fun _ h => hn.2 h) _
    refine wpIn_mono (hbody _ (OO O) pre x a1 _ (hOO O hO) hmay (hAx _ _ _ _ _ _ (hOO O hO) hax hk3)) ?_
    have fin : ∀ (jump : Option Code) (W4 : World), Kept (fun k => ¬ OO O k) (W2.putObj (w.heap.size + 1) (.loop { rec .ready none with state := .busy })) W4 →
      (Instr.endRound (w.heap.size + 1) jump).run P W4 = .ok (.bool jump.isNone) (W4.putObj (w.heap.size + 1) (.loop (rec (if jump.isNone then .ready else .done) jump))) ∧
      (W4.putObj (w.heap.size + 1) (.loop (rec (if jump.isNone then .ready else .done) jump))).heap[w.heap.size + 1]? = some (.loop (rec (if jump.isNone then .ready else .done) jump)) ∧
      (W4.putObj (w.heap.size + 1) (.loop (rec (if jump.isNone then .ready else .done) jump))).heap[w.heap.size]? = some (.deferred (some [])) ∧
      Kept (OO O) W4 (W4.putObj (w.heap.size + 1) (.loop (rec (if jump.isNone then .ready else .done) jump))) ∧
      Kept (fun k => ¬ O k) W (W4.putObj (w.heap.size + 1) (.loop (rec (if jump.isNone then .ready else .done) jump))) := fun jump W4 hkk => by
     have hl4 := hkk.heap hl3 (fun h => h (.inr (.inr rfl)))
     have hd4 := hkk.heap hd3 (fun h => h (.inr (.inl rfl)))
     have := run_endRound (P := P) jump hl4
     rw [hrec] at this ⊢
     refine ⟨this, World.putObj_heap_same (Array.getElem?_eq_some_iff.1 hl4).1, (World.putObj_heap_other kom).trans hd4, (Kept.refl _ _).putObj (fun _ => .inr (.inr rfl)) _, ?_⟩
     exact (((hk2.any).trans hk3').trans (hkk.mono (fun k _ h hh => h (.inl hh)))).putObj (fun _ h => hn.2 h) _
    rintro e a3 W4 hp
    cases e with
    | normal => exact k_15
    | ret =>
     obtain ⟨hk4, hi4⟩ := hp
     obtain ⟨hr, hl5, hd5, hk5, hk6⟩ := fin (some .ret) W4 hk4
     exact ⟨_, _, hr, .inr ⟨rfl, .ret, hIx _ _ _ _ _ (hOO O hO) hi4 hk5, hn, hl5, hd5⟩⟩
    | exit id =>
     obtain ⟨hk4, hi4⟩ := hp
     obtain ⟨hr, hl5, hd5, hk5, hk6⟩ := fin (some (.exit id)) W4 hk4
     exact ⟨_, _, hr, .inr ⟨rfl, .exit id, hIx _ _ _ _ _ (hOO O hO) hi4 hk5, hn, hl5, hd5⟩⟩
    | goto t =>
     obtain ⟨hk4, hi4⟩ := hp
     obtain ⟨hr, hl5, hd5, hk5, hk6⟩ := fin (some (.goto t)) W4 hk4
     exact ⟨_, _, hr, .inr ⟨rfl, .goto t, hIx _ _ _ _ _ (hOO O hO) hi4 hk5, hn, hl5, hd5⟩⟩
    | panic ch => exact hp.elim
    | outgrown => exact hp.elim
   | exit id => exact hq.elim
   | goto t => exact hq.elim
   | ret => exact hq.elim
   | panic ch => exact hq.elim
   | outgrown => exact hq.elim
  ·exact k_8
theorem wpListIn_append_at {F : Fence} {n : Nat} {P : Program} (w : World) {ops : Array Oper} {rest : List Oper} {o : Oper} {a : Act} {Q : Exit → Act → World → Prop}
  (hg : o.guard = none) (s x : Operand) (t : TypeId) (hop : o.op = Op.call { callee := Callee.builtin Builtin.append, args := #[s, x], argTypes := #[t, t] })
  (base : Nat) (e : TypeId) (i : TypeInfo) (z : Value) (size bytes : Nat) (h1 : P.underlying t = some (.slice e)) (h2 : P.info? e = some i) (h3 : i.zero = some z) (h4 : i.size = size) (h5 : i.bytes = bytes) (h6 : z.cells.size = size) (h7 : 0 < size)
  (v : Value) (k : Nat) (xs : List Value) (hs : a.eval s = v) (hown : w.ownsRow base e size v k xs) (ad : Addr) (m c : Nat) (news : List Value) (hx : a.eval x = .slice (some ad) m c) (hn : news.length = m * size)
  (hc : ∀ j u, news[j]? = some u → w.cell? (ad.add j) = some u) (h1c : ∀ u ∈ news, u.oneCell' = true) (b1 : k + m ≤ maxLen) (b2 : (k + m) * bytes ≤ 140737488355328) (b3 : base ≤ w.heap.size)
  (hK : ∀ v' w', w'.ownsRow base e size v' (k + m) (xs ++ news) → w.grownBy w' v.ownBlock → (v'.ownBlock = v.ownBlock ∨ v'.ownBlock = some w.heap.size) → wpListIn F n P ops Q rest (a.put o.dst v') w') :
  wpListIn F n P ops Q (o :: rest) a w := by
 refine wpListIn_plain hg fun K hK' => ?_
 obtain ⟨v', w', hrun, r1, r2, _, r3⟩ := run_append_own_at (P := P) w base t o.type e i z size bytes h1 h2 h3 h4 h5 h6 h7 v k xs hown ad m c news hn hc h1c b1 b2 b3
 unfold Oper.wpIn
 refine ⟨?_, ?_⟩
 ·simp [Oper.about, hop, resolve, Target.leads, Sem.run_pure]
 ·rw [Oper.semAt_plain F _ _ (by rw [hop]; intro c hc'; cases hc')]
  simp [execOp, hop, resolve, invoke, builtin, hs, hx, hrun, Result.andThen]
  exact hK' _ _ (hK v' w' r1 r2 r3)
theorem own_kept {X : Nat → Prop} {w w' : World} {base : Nat} {e : TypeId} {size : Nat} {v : Value} {n : Nat} {xs : List Value} (h : w.ownsRow base e size v n xs) (hk : Kept X w w') (hx : ∀ g, v.ownBlock = some g → ¬ X g) : w'.ownsRow base e size v n xs := by
 refine ⟨h.1, ?_⟩
 rcases h.2 with hn | ⟨g, cap, cur, rfl, hb, hgg, rest⟩
 ·exact .inl hn
 ·exact .inr ⟨g, cap, cur, rfl, hb, hk.heap hgg (hx g rfl), rest⟩
theorem own_ne {w : World} {base : Nat} {e t : TypeId} {size : Nat} {v : Value} {n g : Nat} {xs cs : List Value} (h : w.ownsRow base e size v n xs) (hc : Cells w g t cs) (ht : e ≠ t) : v.ownBlock ≠ some g := by
 rcases h.2 with ⟨rfl, _⟩ | ⟨g', cap, cur, rfl, hb, hgg, rest⟩
 ·simp [Value.ownBlock]
 ·intro he
  have : g' = g := by simpa [Value.ownBlock] using he
  subst this
  unfold Cells at hc
  rw [hgg] at hc
  injection hc with hc
  injection hc with _ hc
  exact ht hc
structure TokD where
 kind : Int
 text : ByteArray
 num : Int
 line : Int
 col : Int
def TokD.cells (x : TokD) : List Value := [.int .i64 x.kind, .string x.text, .int .i64 x.num, .int .i64 x.line, .int .i64 x.col]
def TokRow (W : World) (v : Value) (n : Nat) (T : Nat → TokD) : Prop :=
 ∃ xs, W.ownsRow 0 92 5 v n xs ∧ ∀ k, k < n → ∀ j, j < 5 → xs[k * 5 + j]? = (T k).cells[j]?
theorem TokRow.kept {W W' : World} {v : Value} {n : Nat} {T : Nat → TokD} {X : Nat → Prop} (h : TokRow W v n T) (hk : Kept X W W') (hx : ∀ g, v.ownBlock = some g → ¬ X g) : TokRow W' v n T := by
 obtain ⟨xs, h1, h2⟩ := h
 exact ⟨xs, own_kept h1 hk hx, h2⟩
theorem TokRow.form {W : World} {v : Value} {n : Nat} {T : Nat → TokD} (h : TokRow W v n T) : ∃ A c, v = .slice A n c ∧ n ≤ c ∧ c ≤ maxLen := by
 obtain ⟨xs, h1, h2⟩ := h
 rcases h1.2 with ⟨rfl, rfl⟩ | ⟨g, cap, cur, rfl, _, _, hc, hm, _⟩
 ·exact ⟨none, 0, rfl, Nat.le_refl _, Nat.zero_le _⟩
 ·exact ⟨_, _, rfl, hc, hm⟩
theorem TokRow.at_ {W : World} {v : Value} {n : Nat} {T : Nat → TokD} (h : TokRow W v n T) {k : Nat} (hk : k < n) :
  ∃ g c, v = .slice (some ⟨g, 0, none⟩) n c ∧ n ≤ c ∧ ∀ j, j < 5 → W.cell? ⟨g, k * 5 + j, none⟩ = (T k).cells[j]? := by
 obtain ⟨xs, h1, h2⟩ := h
 have h1' := h1
 rcases h1.2 with ⟨rfl, rfl⟩ | ⟨g, cap, cur, rfl, _, hg, hc, hm, hsz, htake⟩
 ·omega
 ·refine ⟨g, cap, rfl, hc, fun j hj => ?_⟩
  have hx := h2 k hk j hj
  have hj' : (T k).cells[j]? = some ((T k).cells[j]'(by simpa [TokD.cells] using hj)) := List.getElem?_eq_getElem _
  rw [hj'] at hx ⊢
  have := h1'.cells (g := g) rfl (k * 5 + j) _ hx
  have e : (⟨g, 0, none⟩ : Addr).add (k * 5 + j) = ⟨g, k * 5 + j, none⟩ := by unfold Addr.add; split <;> simp_all
  rw [e] at this
  exact this
inductive D : Type where
 | int (k : IntKind) (n : Int)
 | bool (b : Bool)
 | str (s : ByteArray)
 | row (l : List D)
 | agg (l : List D)
inductive Rep (W : World) (Z : Nat → Prop) : List Value → D → Prop where
 | int (k n) : Rep W Z [.int k n] (.int k n)
 | bool (b) : Rep W Z [.bool b] (.bool b)
 | str (s) : Rep W Z [.string s] (.str s)
 | nilrow : Rep W Z [.slice none 0 0] (.row [])
 | row (a : Addr) (n c : Nat) (size : Nat) (ds : List D) (cs : Nat → List Value)
   (hn : n = ds.length) (hs : 0 < n → a.spot = none) (hc : n ≤ c) (hm : c ≤ maxLen) (hz : 0 < n → ¬ Z a.block) (hp : 0 < size)
   (hsz : ∀ i, i < n → (cs i).length = size)
   (hcell : ∀ i, i < n → ∀ j, j < size → W.cell? ⟨a.block, a.off + (i * size + j), none⟩ = (cs i)[j]?)
   (hd : ∀ i (hi : i < ds.length), Rep W Z (cs i) ds[i]) : Rep W Z [.slice (some a) n c] (.row ds)
 | agg (ps : List (List Value)) (ds : List D) (hl : ps.length = ds.length) (hd : ∀ i (hi : i < ds.length), Rep W Z (ps[i]'(hl ▸ hi)) ds[i]) : Rep W Z ps.flatten (.agg ds)
theorem block_lt_of {w : World} {b o : Nat} {v : Value} (h : w.cell? ⟨b, o, none⟩ = some v) : b < w.heap.size := block_lt_of_cell (a := ⟨b, o, none⟩) h
theorem Cells.keep {w w' : World} {g : Nat} {t : TypeId} {cs : List Value} (h : Cells w g t cs) (hk : Kept noX w w') : Cells w' g t cs := Cells.kept h hk (fun h => h)
theorem Kept.mono_new {a b : World} {B : Nat} (h : Kept (fun g => g = B) a b) (hB : a.heap.size ≤ B := by omega) : Kept noX a b := h.mono (fun k hk e => by have e : k = B := e; omega)
theorem Kept.own {X : Nat → Prop} {a b c : World} {B : Nat} (h : Kept X a b) (k : Kept (· = B) b c) (hB : a.heap.size ≤ B) : Kept X a c := h.join k (fun i hi hlt => by omega)
namespace Rep
variable {W W' : World} {X Z Z' : Nat → Prop} {cs : List Value} {d : D}
theorem kept (h : Rep W Z cs d) (hk : Kept X W W') (hx : ∀ g, g < W.heap.size → X g → Z g) : Rep W' Z cs d := by
 induction h with
 | int k n => exact .int k n
 | bool b => exact .bool b
 | str s => exact .str s
 | nilrow => exact .nilrow
 | row a n c size ds cs hn hs hc hm hz hp hsz hcell hd ih =>
  refine .row a n c size ds cs hn hs hc hm hz hp hsz (fun i hi j hj => ?_) ih
  have hv : W.cell? ⟨a.block, a.off + (i * size + j), none⟩ = some ((cs i)[j]'(by rw [hsz i hi]; exact hj)) := by rw [hcell i hi j hj]; exact List.getElem?_eq_getElem _
  rw [← hcell i hi j hj]
  exact World.cell?_of_block (hk.block _ (block_lt_of hv) (fun hX => hz kom (hx _ (block_lt_of hv) hX)))
 | agg ps ds hl hd ih => exact .agg ps ds hl ih
theorem keep (h : Rep W Z cs d) (hk : Kept noX W W') : Rep W' Z cs d := h.kept hk (fun _ _ h => h.elim)
theorem mono (h : Rep W Z cs d) (hz' : ∀ g, g < W.heap.size → Z' g → Z g) : Rep W Z' cs d := by
 induction h with
 | int k n => exact .int k n
 | bool b => exact .bool b
 | str s => exact .str s
 | nilrow => exact .nilrow
 | row a n c size ds cs hn hs hc hm hz hp hsz hcell hd ih =>
  refine .row a n c size ds cs hn hs hc hm (fun h0 hZ => ?_) hp hsz hcell ih
  have hv : W.cell? ⟨a.block, a.off + (0 * size + 0), none⟩ = some ((cs 0)[0]'(by rw [hsz 0 h0]; exact hp)) := by rw [hcell 0 h0 0 hp]; exact List.getElem?_eq_getElem _
  exact hz h0 (hz' _ (block_lt_of hv) hZ)
 | agg ps ds hl hd ih => exact .agg ps ds hl ih
theorem any (h : Rep W Z cs d) : Rep W noX cs d := h.mono (fun _ _ h => h.elim)
theorem int_iff {k n} : Rep W Z cs (.int k n) ↔ cs = [.int k n] := ⟨fun h => by cases h; rfl, fun h => h ▸ .int k n⟩
theorem bool_iff {b} : Rep W Z cs (.bool b) ↔ cs = [.bool b] := ⟨fun h => by cases h; rfl, fun h => h ▸ .bool b⟩
theorem str_iff {s} : Rep W Z cs (.str s) ↔ cs = [.string s] := ⟨fun h => by cases h; rfl, fun h => h ▸ .str s⟩
theorem agg_nil : Rep W Z cs (.agg []) ↔ cs = [] := by
 constructor
 ·intro h
  cases h with
  | agg ps ds hl hd =>
   have : ps = [] := List.length_eq_zero_iff.1 hl
   subst this; rfl
 ·rintro rfl
  exact .agg [] [] rfl (fun i hi => absurd hi (Nat.not_lt_zero i))
theorem agg_cons {d : D} {ds : List D} : Rep W Z cs (.agg (d :: ds)) ↔ ∃ c1 c2, cs = c1 ++ c2 ∧ Rep W Z c1 d ∧ Rep W Z c2 (.agg ds) := by
 constructor
 ·intro h
  cases h with
  | agg ps ds' hl hd =>
   cases ps with
   | nil => simp at hl
   | cons p ps =>
    refine ⟨p, ps.flatten, rfl, hd 0 (by simp), .agg ps ds (by simpa using hl) (fun i hi => ?_)⟩
    have := hd (i + 1) (by simpa using hi)
    simpa using this
 ·rintro ⟨c1, c2, rfl, h1, h2⟩
  cases h2 with
  | agg ps ds' hl hd =>
   refine .agg (c1 :: ps) (d :: ds) (by simpa using hl) (fun i hi => ?_)
   cases i with
   | zero => simpa using h1
   | succ i => simpa using hd i (by simpa using hi)
theorem one (h : Rep W Z cs d) : ∀ u ∈ cs, u.oneCell' = true := by
 induction h with
 | int k n => intro u hu; obtain rfl := List.mem_singleton.1 hu; rfl
 | bool b => intro u hu; obtain rfl := List.mem_singleton.1 hu; rfl
 | str s => intro u hu; obtain rfl := List.mem_singleton.1 hu; rfl
 | nilrow => intro u hu; obtain rfl := List.mem_singleton.1 hu; rfl
 | row a n c size ds cs hn hs hc hm hz hp hsz hcell hd ih => intro u hu; obtain rfl := List.mem_singleton.1 hu; rfl
 | agg ps ds hl hd ih =>
  intro u hu
  obtain ⟨p, hp, hu⟩ := List.mem_flatten.1 hu
  obtain ⟨i, hi, rfl⟩ := List.getElem_of_mem hp
  exact ih i (hl ▸ hi) u hu
end Rep
def RowV (W : World) (Z : Nat → Prop) (v : Value) (ds : List D) : Prop := Rep W Z [v] (.row ds)
theorem row_iff {W : World} {Z : Nat → Prop} {cs : List Value} {ds : List D} : Rep W Z cs (.row ds) ↔ ∃ v, cs = [v] ∧ RowV W Z v ds := by
 constructor
 ·intro h
  have h' := h
  cases h with
  | nilrow => exact ⟨_, rfl, h'⟩
  | row => exact ⟨_, rfl, h'⟩
 ·rintro ⟨v, rfl, h⟩; exact h
theorem RowV.form {W : World} {Z : Nat → Prop} {v : Value} {ds : List D} (h : RowV W Z v ds) : ∃ A n c, v = .slice A n c ∧ n = ds.length ∧ n ≤ c ∧ c ≤ maxLen := by
 unfold RowV at h
 generalize hv : [v] = vs at h
 cases h with
 | nilrow => injection hv with hv; exact ⟨_, _, _, hv, rfl, Nat.le_refl _, Nat.zero_le _⟩
 | row a n c size ds cs hn hs hc hm => injection hv with hv; exact ⟨_, _, _, hv, hn, hc, hm⟩
theorem RowV.at_ {W : World} {Z : Nat → Prop} {v : Value} {ds : List D} (h : RowV W Z v ds) {i : Nat} (hi : i < ds.length) :
  ∃ b o c size cs, v = .slice (some ⟨b, o, none⟩) ds.length c ∧ cs.length = size ∧ Rep W Z cs ds[i] ∧ ∀ j, j < size → W.cell? ⟨b, o + (i * size + j), none⟩ = cs[j]? := by
 unfold RowV at h
 generalize hv : [v] = vs at h
 cases h with
 | nilrow => simp at hi
 | row a n c size ds cs hn hs hc hm hz hp hsz hcell hd =>
  injection hv with hv
  subst hn
  subst hv
  have hs := hs kom
  refine ⟨a.block, a.off, c, size, cs i, ?_, hsz i hi, hd i hi, fun j hj => hcell i hi j hj⟩
  cases a; simp_all
theorem RowV.own {W : World} {Z : Nat → Prop} {t : TypeId} {size : Nat} {v : Value} {ds : List D} {xs : List Value} (h : W.ownsRow 0 t size v ds.length xs) (hp : 0 < size) (hz : ∀ g, v.ownBlock = some g → ¬ Z g)
  (hd : ∀ i (hi : i < ds.length), Rep W Z ((xs.drop (i * size)).take size) ds[i]) : RowV W Z v ds := by
 have h' := h
 rcases h.2 with ⟨rfl, h0⟩ | ⟨g, cap, cur, rfl, _, hg, hc, hm, hsz, htake⟩
 ·have : ds = [] := List.length_eq_zero_iff.1 h0
  subst this; exact .nilrow
 ·have hxl : ∀ i, i < ds.length → ((xs.drop (i * size)).take size).length = size := fun i hi => by
   have h1 := h'.1
   have : (i + 1) * size ≤ ds.length * size := Nat.mul_le_mul_right _ hi
   have e : (i + 1) * size = i * size + size := Nat.succ_mul i size
   rw [List.length_take, List.length_drop, h1]; omega
  refine .row ⟨g, 0, none⟩ ds.length cap size ds (fun i => (xs.drop (i * size)).take size) rfl (fun _ => rfl) hc hm (fun _ => hz g rfl) hp hxl (fun i hi j hj => ?_) hd
  have h1 := h'.1
  have e1 : (i + 1) * size ≤ ds.length * size := Nat.mul_le_mul_right _ hi
  have e2 : (i + 1) * size = i * size + size := Nat.succ_mul i size
  show W.cell? ⟨g, 0 + (i * size + j), none⟩ = _
  rw [Nat.zero_add, h'.cellAt (i * size + j) kom, List.getElem?_take, if_pos hj, List.getElem?_drop]
section
variable {P : Program}
def aggB : TypeDesc → Bool
 | .struct _ | .array _ _ => true
 | _ => false
theorem run_loadVar_part (w : World) (g o : Nat) (ty : TypeId) (cs : List Value) (d : TypeDesc) (hc : ∀ j v, cs[j]? = some v → w.cell? ⟨g, o + j, none⟩ = some v)
  (hu : P.underlying ty = some d) (hd : aggB d = true) (hi : (P.info? ty).map (·.size) = some cs.length) :
  (loadVar ty ⟨g, o, none⟩).run P w = .ok (.agg cs.toArray) w := by
 have hl : (loadCells ⟨g, o, none⟩ cs.length).run P w = .ok cs.toArray w :=
  run_loadCells_list (P := P) w ⟨g, o, none⟩ cs (fun j v hv => by
    have hadd : (⟨g, o, none⟩ : Addr).add j = ⟨g, o + j, none⟩ := by unfold Addr.add; split <;> simp_all
    rw [hadd]; exact hc j v hv)
 cases hq : P.info? ty with
 | none => simp [hq] at hi
 | some i =>
  have hs : i.size = cs.length := by simpa [hq] using hi
  have hagg : (isAgg ty).run P w = .ok true w := by
   unfold isAgg
   rw [Sem.run_bind, run_underlying hu w]
   cases d <;> simp_all [aggB]
  simp [loadVar, Sem.run_bind, hagg, sizeOf, typeInfo, hq, hs, hl]
theorem wpList_load_part {ops : Array Oper} {rest : List Oper} {o : Oper} {a : Act} {w : World} {Q : Exit → Act → World → Prop} (hgd : o.guard = none) (ty : TypeId) (x : Operand) (ho : o.op = .load ty x)
  (g off : Nat) (hx : a.eval x = .pointer (some ⟨g, off, none⟩)) (d : TypeDesc) (hu : P.underlying ty = some d) (hd : aggB d = true)
  (cs : List Value) (hi : (P.info? ty).map (·.size) = some cs.length) (hc : ∀ j v, cs[j]? = some v → w.cell? ⟨g, off + j, none⟩ = some v)
  (h : wpList P ops Q rest (a.put o.dst (.agg cs.toArray)) w) : wpList P ops Q (o :: rest) a w :=
 wpList_plain hgd fun _ hK => by
  unfold Oper.wp execOp
  simp only [ho, hx, Instr.loadAt, Instr.sureAddr, Sem.run_bind, Sem.run_pure, Result.andThen_ok, run_loadVar_part w g off ty cs d hc hu hd hi]
  exact hK _ _ h
theorem Cells.all {w : World} {g : Nat} {t : TypeId} {cs : List Value} (h : Cells w g t cs) : ∀ j v, cs[j]? = some v → w.cell? ⟨g, 0 + j, none⟩ = some v := fun j v hv => by rw [Nat.zero_add, h.cell j]; exact hv
theorem Cells.part {w : World} {g : Nat} {t : TypeId} {cs : List Value} (h : Cells w g t cs) (o n : Nat) : ∀ j v, ((cs.drop o).take n)[j]? = some v → w.cell? ⟨g, o + j, none⟩ = some v := fun j v hv => by
 rw [h.cell (o + j)]
 rw [List.getElem?_take] at hv
 split at hv
 ·rwa [List.getElem?_drop] at hv
 ·simp at hv
theorem wpList_load_cells {ops : Array Oper} {rest : List Oper} {o : Oper} {a : Act} {w : World} {Q : Exit → Act → World → Prop} (hgd : o.guard = none) (ty : TypeId) (x : Operand) (ho : o.op = .load ty x)
  (g : Nat) (hx : a.eval x = .pointer (some ⟨g, 0, none⟩)) (d : TypeDesc) (hu : P.underlying ty = some d) (hd : aggB d = true)
  {t : TypeId} {cs : List Value} (hc : Cells w g t cs) (hi : (P.info? ty).map (·.size) = some cs.length)
  (h : wpList P ops Q rest (a.put o.dst (.agg cs.toArray)) w) : wpList P ops Q (o :: rest) a w :=
 wpList_load_part hgd ty x ho g 0 hx d hu hd cs hi hc.all h
theorem wp_store_part {o : Oper} {a : Act} {w : World} {K : Act → World → Prop} {Q : Exit → Act → World → Prop} (hds : o.dst = none) (ty : TypeId) (x y : Operand) (ho : o.op = .store ty x y)
  (g off : Nat) (hx : a.eval x = .pointer (some ⟨g, off, none⟩)) (cs : List Value) (hy : (a.eval y).cells = cs.toArray)
  {t : TypeId} {old : List Value} (hc : Cells w g t old) (hfit : off + cs.length ≤ old.length) (hi : (P.info? ty).map (·.size) = some cs.length) (h1 : ∀ u ∈ cs, u.oneCell' = true)
  (h : ∀ W', Cells W' g t (old.take off ++ cs ++ old.drop (off + cs.length)) → Kept (· = g) w W' → K a W') : o.wp P a w K Q := by
 have hr := run_storeCells_at (P := P) g off t cs 0 old.toArray w hc (by simpa using hfit) h1
 cases hq : P.info? ty with
 | none => simp [hq] at hi
 | some i =>
  have hs : i.size = cs.length := by simpa [hq] using hi
  unfold Oper.wp execOp
  have hr' : (storeCells ⟨g, off, none⟩ cs 0).run P w = .ok () (w.setRow g (old.take off ++ cs ++ old.drop (off + cs.length)).toArray) := by simpa using hr
  have hr2 : (Instr.storeAt ty (a.eval x) (a.eval y)).run P w = .ok () (w.setRow g (old.take off ++ cs ++ old.drop (off + cs.length)).toArray) := by
   simp [Instr.storeAt, hx, Instr.sureAddr, Sem.run_bind, storeVar, sizeOf, typeInfo, hq, hs, hy]
   simpa using hr'
  simp only [ho, hr2, Sem.run_bind, Sem.run_pure, Result.andThen_ok]
  have e : a.put o.dst undef = a := by rw [hds] <;> rfl
  rw [Oper.upon_skip, e]
  refine h _ ?_ ?_
  ·exact setRow_heap w g _ _ t _ hc
  ·exact ⟨rfl, rfl, rfl, by simp, fun k _ hk => setRow_other w g k _ hk⟩
theorem wpList_store_part {ops : Array Oper} {rest : List Oper} {o : Oper} {a : Act} {w : World} {Q : Exit → Act → World → Prop} (hgd : o.guard = none) (hds : o.dst = none) (ty : TypeId) (x y : Operand) (ho : o.op = .store ty x y)
  (g off : Nat) (hx : a.eval x = .pointer (some ⟨g, off, none⟩)) (cs : List Value) (hy : (a.eval y).cells = cs.toArray)
  {t : TypeId} {old : List Value} (hc : Cells w g t old) (hfit : off + cs.length ≤ old.length) (hi : (P.info? ty).map (·.size) = some cs.length) (h1 : ∀ u ∈ cs, u.oneCell' = true)
  (h : ∀ W', Cells W' g t (old.take off ++ cs ++ old.drop (off + cs.length)) → Kept (· = g) w W' → wpList P ops Q rest a W') : wpList P ops Q (o :: rest) a w :=
 wpList_plain hgd fun _ hK => wp_store_part hds ty x y ho g off hx cs hy hc hfit hi h1 (fun W' h2 h3 => hK _ _ (h W' h2 h3))
def putL (W : World) (B : Nat) : Nat → List Value → World
 | _, [] => W
 | o, v :: vs => putL (W.setCell ⟨B, o, none⟩ v) B (o + 1) vs
theorem putL_is {B : Nat} {t : TypeId} : ∀ (cs : List Value) (W : World) (o : Nat) (old : List Value), Cells W B t old → o + cs.length ≤ old.length →
  Cells (putL W B o cs) B t (old.take o ++ cs ++ old.drop (o + cs.length)) ∧ Kept (· = B) W (putL W B o cs) := by
 intro cs
 induction cs with
 | nil => intro W o old h _; exact ⟨by simpa [putL] using h, Kept.refl _ _⟩
 | cons v vs ih =>
  intro W o old h hl
  simp only [List.length_cons] at hl
  obtain ⟨h1, h2⟩ := ih (W.setCell ⟨B, o, none⟩ v) (o + 1) (old.set o v) (h.put o v) (by simp; omega)
  refine ⟨?_, Kept.trans ((Kept.refl (· = B) W).setCell (fun _ => by rfl) v) h2⟩
  have e : (old.set o v).take (o + 1) ++ vs ++ (old.set o v).drop (o + 1 + vs.length) = old.take o ++ v :: vs ++ old.drop (o + (vs.length + 1)) := by
   have ho : o < old.length := by omega
   rw [List.drop_set_of_lt kom, List.take_succ_eq_append_getElem (by simpa using ho), List.take_set_of_le (Nat.le_refl _), List.getElem_set_self]
   have : o + 1 + vs.length = o + (vs.length + 1) := by omega
   rw [this]; simp
  rw [e] at h1
  exact h1
theorem putL_all {B : Nat} {t : TypeId} (cs : List Value) {W : World} {old : List Value} (h : Cells W B t old) (hl : cs.length = old.length) : Cells (putL W B 0 cs) B t cs ∧ Kept (· = B) W (putL W B 0 cs) := by
 have := putL_is cs W 0 old h kom
 have e : old.drop (0 + cs.length) = [] := List.drop_eq_nil_of_le kom
 rw [e, List.take_zero, List.nil_append, List.append_nil] at this
 exact this
theorem putL_size (B : Nat) : ∀ (cs : List Value) (W : World) (o : Nat), (putL W B o cs).heap.size = W.heap.size
 | [], _, _ => rfl
 | v :: vs, W, o => by rw [putL, putL_size B vs]; simp
theorem ret_box {fn : Func} {p : Tmp} {ty : TypeId} (h : fn.results = #[.cell p ty]) {a : Act} {W : World} {B : Nat} {t : TypeId} {cs : List Value} {R : Ending → World → Prop} {d : TypeDesc}
  (hp : a.tmps.getD p undef = .pointer (some ⟨B, 0, none⟩)) (hc : Cells W B t cs) (hu : P.underlying ty = some d) (hd : aggB d = true) (hi : (P.info? ty).map (·.size) = some cs.length)
  (hf : a.defers = []) (hR : R (.returned (.agg cs.toArray)) W) : bodyPost P fn R .ret a W :=
 bodyPost_ret (results_cell_row h _ _ B t cs.toArray (0, 0) d hp hc hu (by cases d <;> simp_all [aggB]) (by simpa using hi)) hf hR
def resRead (tmps : Array Value) : ResultVar → Sem Value
 | .tmp t => pure (tmps.getD t undef)
 | .cell a t => do loadVar t (← asAddr (tmps.getD a undef))
def resVal (P : Program) (W : World) (tmps : Array Value) (r : ResultVar) (v : Value) : Prop := (resRead tmps r).run P W = .ok v W
theorem resVal.tmp {W : World} {tmps : Array Value} {t : Tmp} {v : Value} (h : tmps.getD t undef = v) : resVal P W tmps (.tmp t) v := by
 unfold resVal resRead; simp only [Sem.run_pure, h]
theorem resVal.box {W : World} {tmps : Array Value} {p : Tmp} {ty : TypeId} {B : Nat} {t : TypeId} {cs : List Value} {d : TypeDesc} (hp : tmps.getD p undef = .pointer (some ⟨B, 0, none⟩)) (hc : Cells W B t cs) (hu : P.underlying ty = some d) (hd : aggB d = true)
  (hi : (P.info? ty).map (·.size) = some cs.length) : resVal P W tmps (.cell p ty) (.agg cs.toArray) := by
 unfold resVal resRead
 simp only [hp, asAddr, Sem.run_bind, Sem.run_pure, Result.andThen_ok]
 exact run_loadVar_row W B t ty cs.toArray (0, 0) d hc hu (by cases d <;> simp_all [aggB]) (by simpa using hi)
theorem resVal.cell {W : World} {tmps : Array Value} {p : Tmp} {ty : TypeId} {B : Nat} {v : Value} {d : TypeDesc} (hp : tmps.getD p undef = .pointer (some ⟨B, 0, none⟩)) (hc : W.cell? ⟨B, 0, none⟩ = some v) (hu : P.underlying ty = some d) (hd : aggB d = false) : resVal P W tmps (.cell p ty) v := by
 have hagg : (isAgg ty).run P W = .ok false W := by
  unfold isAgg
  rw [Sem.run_bind, run_underlying hu W]
  cases d <;> simp_all [aggB]
 unfold resVal resRead
 simp only [hp, asAddr, Sem.run_bind, Sem.run_pure, Result.andThen_ok, loadVar, hagg]
 simp [load, Sem.run, hc]
theorem results_multi {fn : Func} {tmps : Array Value} {W : World} (rs : List ResultVar) (vs : List Value) (h : fn.results = rs.toArray) (hl : vs.length ≠ 1) (hlen : vs.length = rs.length) (hv : ∀ i (hi : i < rs.length), resVal P W tmps rs[i] (vs[i]'(hlen ▸ hi))) :
  (results fn tmps).run P W = .ok (.tuple vs.toArray) W := by
 have key : ∀ (rs : List ResultVar) (vs : List Value) (hlen : vs.length = rs.length), (∀ i (hi : i < rs.length), resVal P W tmps rs[i] (vs[i]'(hlen ▸ hi))) →
   (rs.mapM (resRead tmps)).run P W = .ok vs W := by
  intro rs
  induction rs with
  | nil => intro vs hl _; have : vs = [] := List.length_eq_zero_iff.1 hl; subst this; rfl
  | cons r rs ih =>
   intro vs hl hv
   cases vs with
   | nil => simp at hl
   | cons v vs =>
    have h0 : (resRead tmps r).run P W = .ok v W := hv 0 (by simp)
    have h1 := ih vs (by simpa using hl) (fun i hi => hv (i + 1) (by simpa using hi))
    rw [List.mapM_cons]
    rw [Sem.run_bind, h0, Result.andThen_ok, Sem.run_bind, h1]
    rfl
 have e : results fn tmps = (fn.results.mapM (resRead tmps)) >>= fun vs => pure (if h : vs.size = 1 then vs[0] else .tuple vs) := by
  unfold results
  congr 1
 rw [e, h, List.mapM_toArray, Sem.run_bind]
 have hm : (List.toArray <$> List.mapM (resRead tmps) rs).run P W = .ok vs.toArray W := by
  have e2 : (List.toArray <$> List.mapM (resRead tmps) rs) = (List.mapM (resRead tmps) rs) >>= fun l => pure l.toArray := rfl
  rw [e2, Sem.run_bind, key rs vs hlen hv]
  rfl
 rw [hm, Result.andThen_ok, dif_neg (by simpa using hl)]
 rfl
theorem ret_multi {fn : Func} {a : Act} {W : World} {R : Ending → World → Prop} (rs : List ResultVar) (vs : List Value) (h : fn.results = rs.toArray) (hl : vs.length ≠ 1) (hlen : vs.length = rs.length) (hf : a.defers = [])
  (hv : ∀ i (hi : i < rs.length), resVal P W a.tmps rs[i] (vs[i]'(hlen ▸ hi))) (hR : R (.returned (.tuple vs.toArray)) W) : bodyPost P fn R .ret a W :=
 bodyPost_ret (results_multi rs vs h hl hlen hv) hf hR
theorem ret_3 {fn : Func} {a : Act} {W : World} {R : Ending → World → Prop} {r0 r1 r2 : ResultVar} (h : fn.results = #[r0, r1, r2]) {v0 v1 v2 : Value} (hf : a.defers = [])
  (h0 : resVal P W a.tmps r0 v0) (h1 : resVal P W a.tmps r1 v1) (h2 : resVal P W a.tmps r2 v2) (hR : R (.returned (.tuple #[v0, v1, v2])) W) : bodyPost P fn R .ret a W :=
 ret_multi [r0, r1, r2] [v0, v1, v2] h (by simp) rfl hf (fun i hi => by
   match i, hi with
   | 0, _ => exact h0
   | 1, _ => exact h1
   | 2, _ => exact h2) hR
theorem ret_2 {fn : Func} {a : Act} {W : World} {R : Ending → World → Prop} {r0 r1 : ResultVar} (h : fn.results = #[r0, r1]) {v0 v1 : Value} (hf : a.defers = [])
  (h0 : resVal P W a.tmps r0 v0) (h1 : resVal P W a.tmps r1 v1) (hR : R (.returned (.tuple #[v0, v1])) W) : bodyPost P fn R .ret a W :=
 ret_multi [r0, r1] [v0, v1] h (by simp) rfl hf (fun i hi => by
   match i, hi with
   | 0, _ => exact h0
   | 1, _ => exact h1) hR
end
theorem wpList_store_all {P : Program} {ops : Array Oper} {rest : List Oper} {o : Oper} {a : Act} {w : World} {Q : Exit → Act → World → Prop} (hgd : o.guard = none) (hds : o.dst = none) (ty : TypeId) (x y : Operand) (ho : o.op = .store ty x y)
 (g : Nat) (hx : a.eval x = .pointer (some ⟨g, 0, none⟩)) (cs : List Value) (hy : (a.eval y).cells = cs.toArray)
 {t : TypeId} {old : List Value} (hc : Cells w g t old) (hfit : cs.length = old.length) (hi : (P.info? ty).map (·.size) = some cs.length) (h1 : ∀ u ∈ cs, u.oneCell' = true)
 (h : ∀ W', Cells W' g t cs → Kept (· = g) w W' → wpList P ops Q rest a W') : wpList P ops Q (o :: rest) a w :=
 wpList_store_part hgd hds ty x y ho g 0 hx cs hy hc kom hi h1 (fun W' hB hk => h W' (by simpa [hfit] using hB) hk)
inductive ET : Type where
 | node (kind num : Int) (name : ByteArray) (slot : Int) (loc : Bool) (op : Int) (args : List ET) : ET
mutual
def ET.d : ET → D
 | .node k m s sl lo o args => .agg [.int .i64 k, .int .i64 m, .str s, .int .i64 sl, .bool lo, .int .i64 o, .row (ET.ds args)]
def ET.ds : List ET → List D
 | [] => []
 | e :: l => e.d :: ET.ds l
end
inductive ST : Type where
 | node (kind line col : Int) (name other : ByteArray) (expr index : ET) (body els : List ST) (id slot slot2 : Int) (loc : Bool) : ST
mutual
def ST.d : ST → D
 | .node k li co s t e x b l i sl ot lo => .agg [.int .i64 k, .int .i64 li, .int .i64 co, .str s, .str t, e.d, x.d, .row (ST.ds b), .row (ST.ds l), .int .i64 i, .int .i64 sl, .int .i64 ot, .bool lo]
def ST.ds : List ST → List D
 | [] => []
 | e :: l => e.d :: ST.ds l
end
structure DT where
 kind : Int
 line : Int
 col : Int
 name : ByteArray
 num : Int
 body : List ST
def DT.d (x : DT) : D := .agg [.int .i64 x.kind, .int .i64 x.line, .int .i64 x.col, .str x.name, .int .i64 x.num, .row (ST.ds x.body)]
theorem ET.ds_eq (l : List ET) : ET.ds l = l.map ET.d := by
 induction l with
 | nil => rfl
 | cons e l ih => rw [ET.ds, ih] <;> rfl
theorem ST.ds_eq (l : List ST) : ST.ds l = l.map ST.d := by
 induction l with
 | nil => rfl
 | cons e l ih => rw [ST.ds, ih] <;> rfl
@[simp] theorem ET.ds_length (l : List ET) : (ET.ds l).length = l.length := by rw [ET.ds_eq, List.length_map]
@[simp] theorem ST.ds_length (l : List ST) : (ST.ds l).length = l.length := by rw [ST.ds_eq, List.length_map]
theorem ET.ds_get (l : List ET) (i : Nat) (hi : i < (ET.ds l).length) : (ET.ds l)[i] = (l[i]'(by simpa using hi)).d := by simp only [ET.ds_eq, List.getElem_map]
theorem ST.ds_get (l : List ST) (i : Nat) (hi : i < (ST.ds l).length) : (ST.ds l)[i] = (l[i]'(by simpa using hi)).d := by simp only [ST.ds_eq, List.getElem_map]
def numE (m : Int) : ET := .node 1 m ⟨#[]⟩ 0 false 0 []
def nameE (s : ByteArray) : ET := .node 2 0 s 0 false 0 []
def cellE (s : ByteArray) (e : ET) : ET := .node 3 0 s 0 false 0 [e]
def negE (e : ET) : ET := .node 4 0 ⟨#[]⟩ 0 false 0 [e]
def notE (e : ET) : ET := .node 5 0 ⟨#[]⟩ 0 false 0 [e]
def binE (o : Int) (e f : ET) : ET := .node 6 0 ⟨#[]⟩ 0 false o [e, f]
abbrev EV (W : World) (Z : Nat → Prop) (cs : List Value) (e : ET) : Prop := Rep W Z cs e.d
abbrev SV (W : World) (Z : Nat → Prop) (cs : List Value) (s : ST) : Prop := Rep W Z cs s.d
abbrev DV (W : World) (Z : Nat → Prop) (cs : List Value) (x : DT) : Prop := Rep W Z cs x.d
section
variable {W : World} {Z : Nat → Prop} {cs : List Value}
theorem EV.iff {k m : Int} {s : ByteArray} {sl : Int} {lo : Bool} {o : Int} {args : List ET} :
  EV W Z cs (.node k m s sl lo o args) ↔ ∃ v, cs = [.int .i64 k, .int .i64 m, .string s, .int .i64 sl, .bool lo, .int .i64 o, v] ∧ RowV W Z v (ET.ds args) := by
 simp only [EV, ET.d, Rep.agg_cons, Rep.agg_nil, Rep.int_iff, Rep.bool_iff, Rep.str_iff, row_iff]
 constructor
 ·rintro ⟨_, _, rfl, rfl, _, _, rfl, rfl, _, _, rfl, rfl, _, _, rfl, rfl, _, _, rfl, rfl, _, _, rfl, rfl, _, _, rfl, ⟨v, rfl, hv⟩, rfl⟩
  exact ⟨v, rfl, hv⟩
 ·rintro ⟨v, rfl, hv⟩
  exact ⟨_, _, rfl, rfl, _, _, rfl, rfl, _, _, rfl, rfl, _, _, rfl, rfl, _, _, rfl, rfl, _, _, rfl, rfl, _, _, rfl, ⟨v, rfl, hv⟩, rfl⟩
theorem EV.len {e : ET} (h : EV W Z cs e) : cs.length = 7 := by
 cases e
 obtain ⟨v, rfl, _⟩ := EV.iff.1 h
 rfl
theorem EV.form {e : ET} (h : EV W Z cs e) : ∃ k m s sl lo o A N C, cs = [.int .i64 k, .int .i64 m, .string s, .int .i64 sl, .bool lo, .int .i64 o, .slice A N C] := by
 cases e
 obtain ⟨v, rfl, hv⟩ := EV.iff.1 h
 obtain ⟨A, n, c, rfl, _⟩ := hv.form
 exact ⟨_, _, _, _, _, _, _, _, _, rfl⟩
theorem SV.iff {k li co : Int} {s t : ByteArray} {e x : ET} {b l : List ST} {i sl ot : Int} {lo : Bool} :
  SV W Z cs (.node k li co s t e x b l i sl ot lo) ↔ ∃ ce cx vb vl, cs = [.int .i64 k, .int .i64 li, .int .i64 co, .string s, .string t] ++ ce ++ cx ++ [vb, vl, .int .i64 i, .int .i64 sl, .int .i64 ot, .bool lo] ∧
   EV W Z ce e ∧ EV W Z cx x ∧ RowV W Z vb (ST.ds b) ∧ RowV W Z vl (ST.ds l) := by
 simp only [SV, ST.d, Rep.agg_cons, Rep.agg_nil, Rep.int_iff, Rep.bool_iff, Rep.str_iff, row_iff]
 constructor
 ·rintro ⟨_, _, rfl, rfl, _, _, rfl, rfl, _, _, rfl, rfl, _, _, rfl, rfl, _, _, rfl, rfl, ce, _, rfl, he, cx, _, rfl, hx, _, _, rfl, ⟨vb, rfl, hb⟩, _, _, rfl, ⟨vl, rfl, hl⟩, _, _, rfl, rfl, _, _, rfl, rfl, _, _, rfl, rfl, _, _, rfl, rfl, rfl⟩
  exact ⟨ce, cx, vb, vl, by simp, he, hx, hb, hl⟩
 ·rintro ⟨ce, cx, vb, vl, rfl, he, hx, hb, hl⟩
  exact ⟨_, _, by simp, rfl, _, _, rfl, rfl, _, _, rfl, rfl, _, _, rfl, rfl, _, _, rfl, rfl, ce, _, rfl, he, cx, _, rfl, hx, _, _, rfl, ⟨vb, rfl, hb⟩, _, _, rfl, ⟨vl, rfl, hl⟩, _, _, rfl, rfl, _, _, rfl, rfl, _, _, rfl, rfl, _, _, rfl, rfl, rfl⟩
theorem SV.len {s : ST} (h : SV W Z cs s) : cs.length = 25 := by
 cases s
 obtain ⟨ce, cx, vb, vl, rfl, he, hx, _⟩ := SV.iff.1 h
 have h1 := he.len
 have h2 := hx.len
 simp [h1, h2]
theorem DV.iff {x : DT} : DV W Z cs x ↔ ∃ v, cs = [.int .i64 x.kind, .int .i64 x.line, .int .i64 x.col, .string x.name, .int .i64 x.num, v] ∧ RowV W Z v (ST.ds x.body) := by
 simp only [DV, DT.d, Rep.agg_cons, Rep.agg_nil, Rep.int_iff, Rep.str_iff, row_iff]
 constructor
 ·rintro ⟨_, _, rfl, rfl, _, _, rfl, rfl, _, _, rfl, rfl, _, _, rfl, rfl, _, _, rfl, rfl, _, _, rfl, ⟨v, rfl, hv⟩, rfl⟩
  exact ⟨v, rfl, hv⟩
 ·rintro ⟨v, rfl, hv⟩
  exact ⟨_, _, rfl, rfl, _, _, rfl, rfl, _, _, rfl, rfl, _, _, rfl, rfl, _, _, rfl, rfl, _, _, rfl, ⟨v, rfl, hv⟩, rfl⟩
theorem DV.len {x : DT} (h : DV W Z cs x) : cs.length = 6 := by
 obtain ⟨v, rfl, _⟩ := DV.iff.1 h
 rfl
theorem RowV.nil (W : World) (Z : Nat → Prop) : RowV W Z (.slice none 0 0) [] := .nilrow
theorem RowV.keep {W' : World} {v : Value} {ds : List D} (h : RowV W Z v ds) (hk : Kept noX W W') : RowV W' Z v ds := Rep.keep h hk
theorem RowV.kept {X : Nat → Prop} {W' : World} {v : Value} {ds : List D} (h : RowV W Z v ds) (hk : Kept X W W') (hx : ∀ g, g < W.heap.size → X g → Z g) : RowV W' Z v ds := Rep.kept h hk hx
theorem RowV.mono {Z' : Nat → Prop} {v : Value} {ds : List D} (h : RowV W Z v ds) (hz : ∀ g, g < W.heap.size → Z' g → Z g) : RowV W Z' v ds := Rep.mono h hz
theorem RowV.lit {t : TypeId} {size : Nat} (n : Nat) (ds : List D) (hn : n = ds.length) (cs : List Value) (hp : 0 < size) (hm : n ≤ maxLen) (hl : cs.length = n * size) (hZ : ¬ Z W.heap.size) (hd : ∀ i (hi : i < ds.length), Rep W Z ((cs.drop (i * size)).take size) ds[i]) :
  RowV (W.alloc (.cells cs.toArray t)) Z (.slice (some ⟨W.heap.size, 0, none⟩) n n) ds := by
 subst hn
 refine RowV.own (t := t) (size := size) (xs := cs) ?_ hp (fun g hg => ?_) (fun i hi => (hd i hi).keep ((Kept.refl _ _).alloc _))
 ·have := World.ownsRow_lit (base := 0) (e := t) (size := size) W cs.toArray ds.length (Nat.zero_le _) hm (by simpa using hl)
  simpa using this
 ·have : W.heap.size = g := by simpa [Value.ownBlock] using hg
  exact this ▸ hZ
theorem EV.leaf (W : World) (Z : Nat → Prop) (k m : Int) (s : ByteArray) (o : Int) : EV W Z [.int .i64 k, .int .i64 m, .string s, .int .i64 0, .bool false, .int .i64 o, .slice none 0 0] (.node k m s 0 false o []) :=
 EV.iff.2 ⟨_, rfl, .nilrow⟩
theorem EV.one {e : ET} (h : EV W Z cs e) (hZ : ¬ Z W.heap.size) (k m : Int) (s : ByteArray) (o : Int) (t : TypeId) :
  EV (W.alloc (.cells cs.toArray t)) Z [.int .i64 k, .int .i64 m, .string s, .int .i64 0, .bool false, .int .i64 o, .slice (some ⟨W.heap.size, 0, none⟩) 1 1] (.node k m s 0 false o [e]) := by
 refine EV.iff.2 ⟨_, rfl, RowV.lit (size := 7) 1 _ rfl cs (by decide) (by decide) (by simpa using h.len) hZ (fun i hi => ?_)⟩
 obtain rfl : i = 0 := by simpa using hi
 have : (cs.drop (0 * 7)).take 7 = cs := by rw [Nat.zero_mul, List.drop_zero, List.take_of_length_le (by rw [h.len]; exact Nat.le_refl _)]
 rw [this]; exact h
theorem EV.two {ds : List Value} {e f : ET} (h : EV W Z cs e) (h' : EV W Z ds f) (hZ : ¬ Z W.heap.size) (k m : Int) (s : ByteArray) (o : Int) (t : TypeId) :
  EV (W.alloc (.cells (cs ++ ds).toArray t)) Z [.int .i64 k, .int .i64 m, .string s, .int .i64 0, .bool false, .int .i64 o, .slice (some ⟨W.heap.size, 0, none⟩) 2 2] (.node k m s 0 false o [e, f]) := by
 have l1 := h.len
 have l2 := h'.len
 refine EV.iff.2 ⟨_, rfl, RowV.lit (size := 7) 2 _ rfl (cs ++ ds) (by decide) (by decide) (by simp [l1, l2]) hZ (fun i hi => ?_)⟩
 have hi' : i < 2 := by simpa using hi
 by_cases h0 : i = 0
 ·subst h0
  have : ((cs ++ ds).drop (0 * 7)).take 7 = cs := by rw [Nat.zero_mul, List.drop_zero, ← l1, List.take_left]
  rw [this]; exact h
 ·obtain rfl : i = 1 := by omega
  have : ((cs ++ ds).drop (1 * 7)).take 7 = ds := by
   rw [Nat.one_mul]
   conv => lhs; arg 2; arg 1; rw [← l1]
   rw [List.drop_left, List.take_of_length_le (by rw [l2]; exact Nat.le_refl _)]
  rw [this]; exact h'
end
end Go.Proofs.YtjkgepppoopheaaGreatDoor
