/- A law for a range over a function whose iterator keeps memory of its own: the caller's invariant says which blocks it does not lean on, and those are the iterator's (conditions: none; it is of no program). -/
import Derived.Test.YtehcfahfbdphpaaBase
import Derived.RangeFuncNested
namespace Go.Proofs.Ytehcfahfbdphpaa
open Go.RowKit Go.Shelf

variable {P : Program}

/-- An iterator (May: which element may come behind which): J O xs W: xs have come, and the caller's own memory in W is what it must be, and lies outside of O. Jx: a round has said 'no more'. go: of which elements a round may say 'more'. -/
def SeqO {α : Type} (P : Program) (g : Nat) (lb : Array Value) (encs : α → Array Value) (go : α → Prop) (May : List α → α → Prop) (S Sp : List α → Prop) (base : Nat) (w : World) : Prop :=
  ∀ (l : Nat) (J Jx : (Nat → Prop) → List α → World → Prop) (W : World), Kept noX w W →
    (∀ O pre W1 W2, (∀ k, O k → base ≤ k) → J O pre W1 → Kept O W1 W2 → J O pre W2) →
    (∀ O O' pre W1, J O pre W1 → (∀ k, k < W1.heap.size → O' k → O k) → J O' pre W1) →
    (∀ O pre W1 W2, (∀ k, O k → base ≤ k) → Jx O pre W1 → Kept O W1 W2 → Jx O pre W2) →
    (∀ O pre x W1, (∀ k, O k → base ≤ k) → (∀ k, O k → k < W1.heap.size) → May pre x → J O pre W1 → YieldAt Fence.wide 0 P l (encs x) W1 fun e W' =>
      (e = .returned (.bool true) ∧ go x ∧ J O (pre ++ [x]) W' ∧ Kept (fun k => ¬ O k) W1 W') ∨ (e = .returned (.bool false) ∧ Jx O (pre ++ [x]) W')) →
    J (fun k => base ≤ k ∧ k < w.heap.size) [] W →
    CallsIn Fence.wide 0 P g (#[.func (.yield l) #[] #[]] ++ lb) W fun e W' => (∃ v, e = .returned v) ∧ ((∃ xs, S xs ∧ ∃ O, (∀ k, O k → base ≤ k) ∧ J O xs W') ∨ (∃ pre, Sp pre ∧ ∃ O, (∀ k, O k → base ≤ k) ∧ Jx O pre W'))

theorem Kept.putObj {X : Nat → Prop} {a w : World} (h : Kept X a w) {r : Nat} (hr : r < a.heap.size → X r) (o : Obj) : Kept X a (w.putObj r o) :=
  ⟨h.os, h.tape, h.output, by rw [World.putObj_size]; exact h.size, fun k hk hx => (World.putObj_heap_other (by rintro rfl; exact hx (hr hk))).trans (h.block k hk hx)⟩

/-- How a round's body may be left. -/
def postO {α : Type} (O : Nat → Prop) (go : Prop) (I : (Nat → Prop) → List α → World → Prop) (Ix : Code → (Nat → Prop) → List α → World → Prop) (xs : List α) (W : World) : Exit → Act → World → Prop
  | .normal, _, W' => go ∧ Kept (fun k => ¬ O k) W W' ∧ I O xs W'
  | .ret, _, W' => Kept (fun k => ¬ O k) W W' ∧ Ix .ret O xs W'
  | .exit id, _, W' => Kept (fun k => ¬ O k) W W' ∧ Ix (.exit id) O xs W'
  | .goto t, _, W' => Kept (fun k => ¬ O k) W W' ∧ Ix (.goto t) O xs W'
  | .panic _, _, _ => False
  | .outgrown, _, _ => False

theorem wpIn_rangeO {α : Type} {g : Operand} {ps : Array Tmp} {assign body : Code} {Q : Exit → Act → World → Prop} {a : Act} {w : World}
    {gf : Nat} {lb : Array Value} (hg : a.eval g = .func (.func gf) #[] lb) (eg : ∀ args w, (callFunc gf args).run P w = .ok (.enter gf args) w)
    {encs : α → Array Value} {go : α → Prop} {May : List α → α → Prop} {S Sp : List α → Prop} {w0 : World} {base : Nat} (hseq : SeqO P gf lb encs go May S Sp base w0) (hbase : base ≤ w.heap.size) (hw0 : Kept noX w0 w) (hps : ∀ x, (encs x).size = ps.size)
    (I : (Nat → Prop) → List α → World → Prop) (Ix : Code → (Nat → Prop) → List α → World → Prop) (Ax : (Nat → Prop) → List α → α → Act → World → Prop)
    (hI : ∀ O pre W1 W2, (∀ k, O k → base ≤ k) → I O pre W1 → Kept O W1 W2 → I O pre W2)
    (hIe : ∀ O O' pre W1, I O pre W1 → (∀ k, k < W1.heap.size → O' k → O k) → I O' pre W1)
    (hIx : ∀ c O pre W1 W2, (∀ k, O k → base ≤ k) → Ix c O pre W1 → Kept O W1 W2 → Ix c O pre W2)
    (hAx : ∀ O pre x a1 W1 W2, (∀ k, O k → base ≤ k) → Ax O pre x a1 W1 → Kept O W1 W2 → Ax O pre x a1 W2)
    (h0 : I (fun k => base ≤ k ∧ k < w0.heap.size) [] w)
    (hassign : ∀ (l : Nat) O pre x W, (∀ k, O k → base ≤ k) → (∀ k, O k → k < W.heap.size) → May pre x → I O pre W →
      assign.wpIn (Fence.wide.inRound l) 0 P (Exit.then (fun a1 W1 => Kept noX W W1 ∧ Ax O pre x a1 W1) (fun _ _ _ => False)) { tmps := (ps.zip (encs x)).foldl (fun t (p, v) => t.setIfInBounds p v) a.tmps, defers := [] } W)
    (hbody : ∀ (l : Nat) O pre x a1 W, (∀ k, O k → base ≤ k) → May pre x → Ax O pre x a1 W → body.wpIn (Fence.wide.inRound l) 0 P (postO O (go x) I Ix (pre ++ [x]) W) a1 W)
    (hdone : ∀ (D : Nat) xs O W, w.heap.size ≤ D → (∀ k, O k → base ≤ k) → O D → S xs → I O xs W → W.heap[D]? = some (.deferred (some [])) → Q .normal { a with defers := { target := .collected D, args := #[] } :: a.defers } W)
    (hstop : ∀ (D : Nat) c pre O W, w.heap.size ≤ D → (∀ k, O k → base ≤ k) → O D → Sp pre → Ix c O pre W → W.heap[D]? = some (.deferred (some [])) → c.wpIn Fence.wide 0 P Q { a with defers := { target := .collected D, args := #[] } :: a.defers } W) :
    (Code.rangeFunc g ps assign body).wpIn Fence.wide 0 P Q a w := by
  refine wpIn_rangeFunc ?_
  intro fn hfn
  obtain ⟨rec, hrec⟩ : ∃ rec : LoopState → Option Code → Loop, rec = fun st pe => { state := st, pending := pe, fn, tmps := a.tmps, params := ps, assign, body, defers := w.heap.size } := ⟨_, rfl⟩
  obtain ⟨W1, hW1⟩ : ∃ W1, (w.alloc (.deferred (some []))).alloc (.loop (rec .ready none)) = W1 := ⟨_, rfl⟩
  have hL1 : W1.heap[w.heap.size + 1]? = some (.loop (rec .ready none)) := by
    rw [← hW1]; have := World.alloc_heap_new (w.alloc (.deferred (some []))) (.loop (rec .ready none)); rwa [World.size_alloc] at this
  have hK1 : W1.heap[w.heap.size]? = some (.deferred (some [])) := by
    rw [← hW1]; exact (Below.heap_alloc _ _ _ (by simp)).trans (World.alloc_heap_new w _)
  have hkw : Kept noX w W1 := by rw [← hW1]; exact ((Kept.refl _ _).alloc _).alloc _
  have hsz : W1.heap.size = w.heap.size + 2 := by rw [← hW1]; simp
  -- the set that the caller's invariant leaves out, with the loop's own two blocks
  let OO : (Nat → Prop) → Nat → Prop := fun O k => O k ∨ k = w.heap.size ∨ k = w.heap.size + 1
  have hOO : ∀ O : Nat → Prop, (∀ k, O k → base ≤ k) → ∀ k, OO O k → base ≤ k := fun O h k hk => by
    rcases hk with hk | hk | hk
    · have := h k hk; omega
    · omega
    · omega
  refine ⟨w.heap.size + 1, [{ target := .collected w.heap.size, args := #[] }], W1, { target := .fn (.func gf) lb, args := #[.func (.yield (w.heap.size + 1)) #[] #[]] }, W1, gf,
    #[.func (.yield (w.heap.size + 1)) #[] #[]] ++ lb, W1, ?_, ?_, ?_, ?_, fun h => by simp [Fence.wide] at h, ?_⟩
  · rw [← hW1, hrec]; exact run_enterLoop_outer _ _ _ _ _
  · simp only [resolve, hg]
    simp [go_sem]
  · intro _ _; trivial
  · simp [invoke, go_sem, eg]
  · refine (hseq (w.heap.size + 1)
      (fun O pre W => I (OO O) pre W ∧ (¬ O w.heap.size ∧ ¬ O (w.heap.size + 1)) ∧ W.heap[w.heap.size + 1]? = some (.loop (rec .ready none)) ∧ W.heap[w.heap.size]? = some (.deferred (some [])))
      (fun O pre W => ∃ c, Ix c (OO O) pre W ∧ (¬ O w.heap.size ∧ ¬ O (w.heap.size + 1)) ∧ W.heap[w.heap.size + 1]? = some (.loop (rec .done (some c))) ∧ W.heap[w.heap.size]? = some (.deferred (some [])))
      W1 (hw0.trans hkw)
      (fun O pre A B hO hs hk => ⟨hI _ _ A B (hOO O hO) hs.1 (hk.mono (fun _ _ h => .inl h)), hs.2.1, hk.heap hs.2.2.1 hs.2.1.2, hk.heap hs.2.2.2 hs.2.1.1⟩)
      (fun O O' pre A hs h => ⟨hIe _ _ _ _ hs.1 (fun k hk ho => by
        rcases ho with ho | ho
        · exact .inl (h k hk ho)
        · exact .inr ho), ⟨fun ho => hs.2.1.1 (h _ (Array.getElem?_eq_some_iff.1 hs.2.2.2).1 ho), fun ho => hs.2.1.2 (h _ (Array.getElem?_eq_some_iff.1 hs.2.2.1).1 ho)⟩, hs.2.2⟩)
      (fun O pre A B hO hs hk => by
        obtain ⟨c, hc, hn, hl, hd⟩ := hs
        exact ⟨c, hIx c _ _ A B (hOO O hO) hc (hk.mono (fun _ _ h => .inl h)), hn, hk.heap hl hn.2, hk.heap hd hn.1⟩)
      ?_ ⟨hI (OO fun k => base ≤ k ∧ k < w0.heap.size) [] w W1 (hOO _ (fun _ h => h.1)) (hIe _ _ _ _ h0 (fun k hk ho => by
        rcases ho with ho | ho | ho
        · exact ho
        · omega
        · omega)) hkw.any, ⟨fun h => by have := hw0.size; omega, fun h => by have := hw0.size; omega⟩, hL1, hK1⟩).mono ?_
    · -- one round
      rintro O pre x W hO hOs hmay ⟨hi, hn, hl, hk⟩
      have hlt : w.heap.size + 1 < W.heap.size := (Array.getElem?_eq_some_iff.1 hl).1
      have hy := run_yield (P := P) (args := encs x) hl (by rw [hrec]; exact hps x)
      rw [hrec] at hy
      refine ⟨fn, _, assign, body, hy, roundIn_of_wpIn hfn (wpIn_mono (hassign _ (OO O) pre x W (hOO O hO) (fun k ho => by
        rcases ho with ho | ho | ho
        · exact hOs k ho
        · omega
        · omega) hmay hi) ?_)⟩
      intro e0 a1 W2 hq
      cases e0 with
      | normal =>
        obtain ⟨hk2, hax⟩ := hq
        have hl2' : W2.heap[w.heap.size + 1]? = some (.loop (rec .ready none)) := hk2.heap hl (fun h => h)
        have hd2' : W2.heap[w.heap.size]? = some (.deferred (some [])) := hk2.heap hk (fun h => h)
        have hbr := run_beginRound (P := P) hl2' (by rw [hrec])
        refine ⟨_, hbr, ?_⟩
        have hlt2 : w.heap.size + 1 < W2.heap.size := (Array.getElem?_eq_some_iff.1 hl2').1
        have hl3 : (W2.putObj (w.heap.size + 1) (.loop { rec .ready none with state := .busy })).heap[w.heap.size + 1]? = some (.loop { rec .ready none with state := .busy }) := World.putObj_heap_same hlt2
        have hd3 : (W2.putObj (w.heap.size + 1) (.loop { rec .ready none with state := .busy })).heap[w.heap.size]? = some (.deferred (some [])) := (World.putObj_heap_other (by omega)).trans hd2'
        have hk3 : Kept (OO O) W2 (W2.putObj (w.heap.size + 1) (.loop { rec .ready none with state := .busy })) := (Kept.refl _ _).putObj (fun _ => .inr (.inr rfl)) _
        have hk3' : Kept (fun k => ¬ O k) W2 (W2.putObj (w.heap.size + 1) (.loop { rec .ready none with state := .busy })) := (Kept.refl _ _).putObj (fun _ h => hn.2 h) _
        refine wpIn_mono (hbody _ (OO O) pre x a1 _ (hOO O hO) hmay (hAx _ _ _ _ _ _ (hOO O hO) hax hk3)) ?_
        have fin : ∀ (jump : Option Code) (W4 : World), Kept (fun k => ¬ OO O k) (W2.putObj (w.heap.size + 1) (.loop { rec .ready none with state := .busy })) W4 →
            (Instr.endRound (w.heap.size + 1) jump).run P W4 = .ok (.bool jump.isNone) (W4.putObj (w.heap.size + 1) (.loop (rec (if jump.isNone then .ready else .done) jump))) ∧
            (W4.putObj (w.heap.size + 1) (.loop (rec (if jump.isNone then .ready else .done) jump))).heap[w.heap.size + 1]? = some (.loop (rec (if jump.isNone then .ready else .done) jump)) ∧
            (W4.putObj (w.heap.size + 1) (.loop (rec (if jump.isNone then .ready else .done) jump))).heap[w.heap.size]? = some (.deferred (some [])) ∧
            Kept (OO O) W4 (W4.putObj (w.heap.size + 1) (.loop (rec (if jump.isNone then .ready else .done) jump))) ∧
            Kept (fun k => ¬ O k) W (W4.putObj (w.heap.size + 1) (.loop (rec (if jump.isNone then .ready else .done) jump))) := fun jump W4 hkk => by
          have hl4 := hkk.heap hl3 (fun h => h (.inr (.inr rfl)))
          have hd4 := hkk.heap hd3 (fun h => h (.inr (.inl rfl)))
          have := run_endRound (P := P) jump hl4
          rw [hrec] at this ⊢
          refine ⟨this, World.putObj_heap_same (Array.getElem?_eq_some_iff.1 hl4).1, (World.putObj_heap_other (by omega)).trans hd4, (Kept.refl _ _).putObj (fun _ => .inr (.inr rfl)) _, ?_⟩
          exact (((hk2.any).trans hk3').trans (hkk.mono (fun k _ h hh => h (.inl hh)))).putObj (fun _ h => hn.2 h) _
        rintro e a3 W4 hp
        cases e with
        | normal =>
          obtain ⟨hgo, hk4, hi4⟩ := hp
          obtain ⟨hr, hl5, hd5, hk5, hk6⟩ := fin none W4 hk4
          exact ⟨_, _, hr, .inl ⟨rfl, hgo, ⟨hI _ _ _ _ (hOO O hO) hi4 hk5, hn, hl5, hd5⟩, hk6⟩⟩
        | ret =>
          obtain ⟨hk4, hi4⟩ := hp
          obtain ⟨hr, hl5, hd5, hk5, hk6⟩ := fin (some .ret) W4 hk4
          exact ⟨_, _, hr, .inr ⟨rfl, .ret, hIx _ _ _ _ _ (hOO O hO) hi4 hk5, hn, hl5, hd5⟩⟩
        | exit id =>
          obtain ⟨hk4, hi4⟩ := hp
          obtain ⟨hr, hl5, hd5, hk5, hk6⟩ := fin (some (.exit id)) W4 hk4
          exact ⟨_, _, hr, .inr ⟨rfl, .exit id, hIx _ _ _ _ _ (hOO O hO) hi4 hk5, hn, hl5, hd5⟩⟩
        | goto t =>
          obtain ⟨hk4, hi4⟩ := hp
          obtain ⟨hr, hl5, hd5, hk5, hk6⟩ := fin (some (.goto t)) W4 hk4
          exact ⟨_, _, hr, .inr ⟨rfl, .goto t, hIx _ _ _ _ _ (hOO O hO) hi4 hk5, hn, hl5, hd5⟩⟩
        | panic ch => exact hp.elim
        | outgrown => exact hp.elim
      | exit id => exact hq.elim
      | goto t => exact hq.elim
      | ret => exact hq.elim
      | panic ch => exact hq.elim
      | outgrown => exact hq.elim
    · -- behind the iterator
      rintro e W2 ⟨⟨v, rfl⟩, (⟨xs, hS, O, hO, hi, hn, hl, hk⟩ | ⟨pre, hSp, O, hO, c, hi, hn, hl, hk⟩)⟩
      · have hke : Kept (OO O) W2 (W2.putObj (w.heap.size + 1) (.loop { rec .ready none with state := .exhausted })) := (Kept.refl _ _).putObj (fun _ => .inr (.inr rfl)) _
        exact ⟨none, _, by have := run_endLoop (P := P) hl (by rw [hrec]; simp); rw [hrec] at this ⊢; exact this, hdone _ xs (OO O) _ (Nat.le_refl _) (hOO O hO) (.inr (.inl rfl)) hS (hI _ _ _ _ (hOO O hO) hi hke) ((World.putObj_heap_other (by omega)).trans hk)⟩
      · have hke : Kept (OO O) W2 (W2.putObj (w.heap.size + 1) (.loop { rec .done (some c) with state := .exhausted })) := (Kept.refl _ _).putObj (fun _ => .inr (.inr rfl)) _
        exact ⟨some c, _, by have := run_endLoop (P := P) hl (by rw [hrec]; simp); rw [hrec] at this ⊢; exact this, hstop _ c pre (OO O) _ (Nat.le_refl _) (hOO O hO) (.inr (.inl rfl)) hSp (hIx c _ _ _ _ (hOO O hO) hi hke) ((World.putObj_heap_other (by omega)).trans hk)⟩
end Go.Proofs.Ytehcfahfbdphpaa
