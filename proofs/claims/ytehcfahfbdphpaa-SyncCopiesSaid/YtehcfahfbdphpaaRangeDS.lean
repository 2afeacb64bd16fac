/- The law of RangeO for an iterator that leans on what the caller keeps as it is; marks of ranges, left behind (conditions: none; it is of no program). -/
import Derived.Test.YtehcfahfbdphpaaRangeO
import Derived.RangeFuncLeaves
import Derived.Sort.LoopGhostIn
import Derived.Test.YtehcfahfbdphpaaArmsS
namespace Go.Proofs.Ytehcfahfbdphpaa
open Go.RowKit Go.Shelf

variable {P : Program}

/-- An iterator that also leans on what it finds (K: what the caller keeps of it; May: which element may come behind which): J O xs W: xs have come, and the caller's own memory in W is what it must be, and lies outside of O. Jx: a round has said 'no more'. go: of which elements a round may say 'more'. -/
def SeqD {α : Type} (K : World → Prop) (P : Program) (g : Nat) (lb : Array Value) (encs : α → Array Value) (go : α → Prop) (May : List α → α → Prop) (S Sp : List α → Prop) (base : Nat) (w : World) : Prop :=
  ∀ (l : Nat) (J Jx : (Nat → Prop) → List α → World → Prop) (W : World), Kept noX w W →
    (∀ O pre W1, J O pre W1 → K W1) →
    (∀ O pre W1 W2, (∀ k, O k → base ≤ k) → J O pre W1 → Kept O W1 W2 → J O pre W2) →
    (∀ O O' pre W1, J O pre W1 → (∀ k, k < W1.heap.size → O' k → O k) → J O' pre W1) →
    (∀ O pre W1 W2, (∀ k, O k → base ≤ k) → Jx O pre W1 → Kept O W1 W2 → Jx O pre W2) →
    (∀ O pre x W1, (∀ k, O k → base ≤ k) → (∀ k, O k → k < W1.heap.size) → May pre x → J O pre W1 → YieldAt Fence.wide 0 P l (encs x) W1 fun e W' =>
      (e = .returned (.bool true) ∧ go x ∧ J O (pre ++ [x]) W' ∧ Kept (fun k => ¬ O k) W1 W') ∨ (e = .returned (.bool false) ∧ Jx O (pre ++ [x]) W' ∧ Kept (fun k => ¬ O k) W1 W')) →
    J (fun k => base ≤ k ∧ k < w.heap.size) [] W →
    CallsIn Fence.wide 0 P g (#[.func (.yield l) #[] #[]] ++ lb) W fun e W' => (∃ v, e = .returned v) ∧ ((∃ xs, S xs ∧ ∃ O, (∀ k, O k → base ≤ k) ∧ J O xs W') ∨ (∃ pre, Sp pre ∧ ∃ O, (∀ k, O k → base ≤ k) ∧ Jx O pre W'))

theorem wpIn_rangeD {α : Type} {K : World → Prop} {g : Operand} {ps : Array Tmp} {assign body : Code} {Q : Exit → Act → World → Prop} {a : Act} {w : World}
    {gf : Nat} {lb : Array Value} (hg : a.eval g = .func (.func gf) #[] lb) (eg : ∀ args w, (callFunc gf args).run P w = .ok (.enter gf args) w)
    {encs : α → Array Value} {go : α → Prop} {May : List α → α → Prop} {S Sp : List α → Prop} {w0 : World} {base : Nat} (hseq : SeqD K P gf lb encs go May S Sp base w0) (hbase : base ≤ w.heap.size) (hw0 : Kept noX w0 w) (hps : ∀ x, (encs x).size = ps.size)
    (I : (Nat → Prop) → List α → World → Prop) (Ix : Code → (Nat → Prop) → List α → World → Prop) (Ax : (Nat → Prop) → List α → α → Act → World → Prop)
    (hIK : ∀ O pre W1, I O pre W1 → K W1)
    (hI : ∀ O pre W1 W2, (∀ k, O k → base ≤ k) → I O pre W1 → Kept O W1 W2 → I O pre W2)
    (hIe : ∀ O O' pre W1, I O pre W1 → (∀ k, k < W1.heap.size → O' k → O k) → I O' pre W1)
    (hIx : ∀ c O pre W1 W2, (∀ k, O k → base ≤ k) → Ix c O pre W1 → Kept O W1 W2 → Ix c O pre W2)
    (hAx : ∀ O pre x a1 W1 W2, (∀ k, O k → base ≤ k) → Ax O pre x a1 W1 → Kept O W1 W2 → Ax O pre x a1 W2)
    (h0 : I (fun k => base ≤ k ∧ k < w0.heap.size) [] w)
    (hassign : ∀ (l : Nat) O pre x W, (∀ k, O k → base ≤ k) → (∀ k, O k → k < W.heap.size) → May pre x → I O pre W →
      assign.wpIn (Fence.wide.inRound l) 0 P (Exit.then (fun a1 W1 => Kept noX W W1 ∧ Ax O pre x a1 W1) (fun _ _ _ => False)) { tmps := (ps.zip (encs x)).foldl (fun t (p, v) => t.setIfInBounds p v) a.tmps, defers := [] } W)
    (hbody : ∀ (l : Nat) O pre x a1 W, (∀ k, O k → base ≤ k) → May pre x → Ax O pre x a1 W → body.wpIn (Fence.wide.inRound l) 0 P (postO O (go x) I Ix (pre ++ [x]) W) a1 W)
    (hdone : ∀ (D : Nat) xs O W, w.heap.size ≤ D → (∀ k, O k → base ≤ k) → O D → S xs → I O xs W → W.heap[D]? = some (.deferred (some [])) → Q .normal { a with defers := { target := .collected D, args := #[] } :: a.defers } W)
    (hstop : ∀ (D : Nat) c pre O W, w.heap.size ≤ D → (∀ k, O k → base ≤ k) → O D → Sp pre → Ix c O pre W → W.heap[D]? = some (.deferred (some [])) → c.wpIn Fence.wide 0 P Q { a with defers := { target := .collected D, args := #[] } :: a.defers } W) :
    (Code.rangeFunc g ps assign body).wpIn Fence.wide 0 P Q a w := by
  refine wpIn_rangeFunc ?_
  intro fn hfn
  obtain ⟨rec, hrec⟩ : ∃ rec : LoopState → Option Code → Loop, rec = fun st pe => { state := st, pending := pe, fn, tmps := a.tmps, params := ps, assign, body, defers := w.heap.size } := ⟨_, rfl⟩
  obtain ⟨W1, hW1⟩ : ∃ W1, (w.alloc (.deferred (some []))).alloc (.loop (rec .ready none)) = W1 := ⟨_, rfl⟩
  have hL1 : W1.heap[w.heap.size + 1]? = some (.loop (rec .ready none)) := by
    rw [← hW1]; have := World.alloc_heap_new (w.alloc (.deferred (some []))) (.loop (rec .ready none)); rwa [World.size_alloc] at this
  have hK1 : W1.heap[w.heap.size]? = some (.deferred (some [])) := by
    rw [← hW1]; exact (Below.heap_alloc _ _ _ (by simp)).trans (World.alloc_heap_new w _)
  have hkw : Kept noX w W1 := by rw [← hW1]; exact ((Kept.refl _ _).alloc _).alloc _
  have hsz : W1.heap.size = w.heap.size + 2 := by rw [← hW1]; simp
  -- the set that the caller's invariant leaves out, with the loop's own two blocks
  let OO : (Nat → Prop) → Nat → Prop := fun O k => O k ∨ k = w.heap.size ∨ k = w.heap.size + 1
  have hOO : ∀ O : Nat → Prop, (∀ k, O k → base ≤ k) → ∀ k, OO O k → base ≤ k := fun O h k hk => by
    rcases hk with hk | hk | hk
    · have := h k hk; omega
    · omega
    · omega
  refine ⟨w.heap.size + 1, [{ target := .collected w.heap.size, args := #[] }], W1, { target := .fn (.func gf) lb, args := #[.func (.yield (w.heap.size + 1)) #[] #[]] }, W1, gf,
    #[.func (.yield (w.heap.size + 1)) #[] #[]] ++ lb, W1, ?_, ?_, ?_, ?_, fun h => by simp [Fence.wide] at h, ?_⟩
  · rw [← hW1, hrec]; exact run_enterLoop_outer _ _ _ _ _
  · simp only [resolve, hg]
    simp [go_sem]
  · intro _ _; trivial
  · simp [invoke, go_sem, eg]
  · refine (hseq (w.heap.size + 1)
      (fun O pre W => I (OO O) pre W ∧ (¬ O w.heap.size ∧ ¬ O (w.heap.size + 1)) ∧ W.heap[w.heap.size + 1]? = some (.loop (rec .ready none)) ∧ W.heap[w.heap.size]? = some (.deferred (some [])))
      (fun O pre W => ∃ c, Ix c (OO O) pre W ∧ (¬ O w.heap.size ∧ ¬ O (w.heap.size + 1)) ∧ W.heap[w.heap.size + 1]? = some (.loop (rec .done (some c))) ∧ W.heap[w.heap.size]? = some (.deferred (some [])))
      W1 (hw0.trans hkw)
      (fun O pre A hs => hIK _ _ _ hs.1)
      (fun O pre A B hO hs hk => ⟨hI _ _ A B (hOO O hO) hs.1 (hk.mono (fun _ _ h => .inl h)), hs.2.1, hk.heap hs.2.2.1 hs.2.1.2, hk.heap hs.2.2.2 hs.2.1.1⟩)
      (fun O O' pre A hs h => ⟨hIe _ _ _ _ hs.1 (fun k hk ho => by
        rcases ho with ho | ho
        · exact .inl (h k hk ho)
        · exact .inr ho), ⟨fun ho => hs.2.1.1 (h _ (Array.getElem?_eq_some_iff.1 hs.2.2.2).1 ho), fun ho => hs.2.1.2 (h _ (Array.getElem?_eq_some_iff.1 hs.2.2.1).1 ho)⟩, hs.2.2⟩)
      (fun O pre A B hO hs hk => by
        obtain ⟨c, hc, hn, hl, hd⟩ := hs
        exact ⟨c, hIx c _ _ A B (hOO O hO) hc (hk.mono (fun _ _ h => .inl h)), hn, hk.heap hl hn.2, hk.heap hd hn.1⟩)
      ?_ ⟨hI (OO fun k => base ≤ k ∧ k < w0.heap.size) [] w W1 (hOO _ (fun _ h => h.1)) (hIe _ _ _ _ h0 (fun k hk ho => by
        rcases ho with ho | ho | ho
        · exact ho
        · omega
        · omega)) hkw.any, ⟨fun h => by have := hw0.size; omega, fun h => by have := hw0.size; omega⟩, hL1, hK1⟩).mono ?_
    · -- one round
      rintro O pre x W hO hOs hmay ⟨hi, hn, hl, hk⟩
      have hlt : w.heap.size + 1 < W.heap.size := (Array.getElem?_eq_some_iff.1 hl).1
      have hy := run_yield (P := P) (args := encs x) hl (by rw [hrec]; exact hps x)
      rw [hrec] at hy
      refine ⟨fn, _, assign, body, hy, roundIn_of_wpIn hfn (wpIn_mono (hassign _ (OO O) pre x W (hOO O hO) (fun k ho => by
        rcases ho with ho | ho | ho
        · exact hOs k ho
        · omega
        · omega) hmay hi) ?_)⟩
      intro e0 a1 W2 hq
      cases e0 with
      | normal =>
        obtain ⟨hk2, hax⟩ := hq
        have hl2' : W2.heap[w.heap.size + 1]? = some (.loop (rec .ready none)) := hk2.heap hl (fun h => h)
        have hd2' : W2.heap[w.heap.size]? = some (.deferred (some [])) := hk2.heap hk (fun h => h)
        have hbr := run_beginRound (P := P) hl2' (by rw [hrec])
        refine ⟨_, hbr, ?_⟩
        have hlt2 : w.heap.size + 1 < W2.heap.size := (Array.getElem?_eq_some_iff.1 hl2').1
        have hl3 : (W2.putObj (w.heap.size + 1) (.loop { rec .ready none with state := .busy })).heap[w.heap.size + 1]? = some (.loop { rec .ready none with state := .busy }) := World.putObj_heap_same hlt2
        have hd3 : (W2.putObj (w.heap.size + 1) (.loop { rec .ready none with state := .busy })).heap[w.heap.size]? = some (.deferred (some [])) := (World.putObj_heap_other (by omega)).trans hd2'
        have hk3 : Kept (OO O) W2 (W2.putObj (w.heap.size + 1) (.loop { rec .ready none with state := .busy })) := (Kept.refl _ _).putObj (fun _ => .inr (.inr rfl)) _
        have hk3' : Kept (fun k => ¬ O k) W2 (W2.putObj (w.heap.size + 1) (.loop { rec .ready none with state := .busy })) := (Kept.refl _ _).putObj (fun _ h => hn.2 h) _
        refine wpIn_mono (hbody _ (OO O) pre x a1 _ (hOO O hO) hmay (hAx _ _ _ _ _ _ (hOO O hO) hax hk3)) ?_
        have fin : ∀ (jump : Option Code) (W4 : World), Kept (fun k => ¬ OO O k) (W2.putObj (w.heap.size + 1) (.loop { rec .ready none with state := .busy })) W4 →
            (Instr.endRound (w.heap.size + 1) jump).run P W4 = .ok (.bool jump.isNone) (W4.putObj (w.heap.size + 1) (.loop (rec (if jump.isNone then .ready else .done) jump))) ∧
            (W4.putObj (w.heap.size + 1) (.loop (rec (if jump.isNone then .ready else .done) jump))).heap[w.heap.size + 1]? = some (.loop (rec (if jump.isNone then .ready else .done) jump)) ∧
            (W4.putObj (w.heap.size + 1) (.loop (rec (if jump.isNone then .ready else .done) jump))).heap[w.heap.size]? = some (.deferred (some [])) ∧
            Kept (OO O) W4 (W4.putObj (w.heap.size + 1) (.loop (rec (if jump.isNone then .ready else .done) jump))) ∧
            Kept (fun k => ¬ O k) W (W4.putObj (w.heap.size + 1) (.loop (rec (if jump.isNone then .ready else .done) jump))) := fun jump W4 hkk => by
          have hl4 := hkk.heap hl3 (fun h => h (.inr (.inr rfl)))
          have hd4 := hkk.heap hd3 (fun h => h (.inr (.inl rfl)))
          have := run_endRound (P := P) jump hl4
          rw [hrec] at this ⊢
          refine ⟨this, World.putObj_heap_same (Array.getElem?_eq_some_iff.1 hl4).1, (World.putObj_heap_other (by omega)).trans hd4, (Kept.refl _ _).putObj (fun _ => .inr (.inr rfl)) _, ?_⟩
          exact (((hk2.any).trans hk3').trans (hkk.mono (fun k _ h hh => h (.inl hh)))).putObj (fun _ h => hn.2 h) _
        rintro e a3 W4 hp
        cases e with
        | normal =>
          obtain ⟨hgo, hk4, hi4⟩ := hp
          obtain ⟨hr, hl5, hd5, hk5, hk6⟩ := fin none W4 hk4
          exact ⟨_, _, hr, .inl ⟨rfl, hgo, ⟨hI _ _ _ _ (hOO O hO) hi4 hk5, hn, hl5, hd5⟩, hk6⟩⟩
        | ret =>
          obtain ⟨hk4, hi4⟩ := hp
          obtain ⟨hr, hl5, hd5, hk5, hk6⟩ := fin (some .ret) W4 hk4
          exact ⟨_, _, hr, .inr ⟨rfl, ⟨.ret, hIx _ _ _ _ _ (hOO O hO) hi4 hk5, hn, hl5, hd5⟩, hk6⟩⟩
        | exit id =>
          obtain ⟨hk4, hi4⟩ := hp
          obtain ⟨hr, hl5, hd5, hk5, hk6⟩ := fin (some (.exit id)) W4 hk4
          exact ⟨_, _, hr, .inr ⟨rfl, ⟨.exit id, hIx _ _ _ _ _ (hOO O hO) hi4 hk5, hn, hl5, hd5⟩, hk6⟩⟩
        | goto t =>
          obtain ⟨hk4, hi4⟩ := hp
          obtain ⟨hr, hl5, hd5, hk5, hk6⟩ := fin (some (.goto t)) W4 hk4
          exact ⟨_, _, hr, .inr ⟨rfl, ⟨.goto t, hIx _ _ _ _ _ (hOO O hO) hi4 hk5, hn, hl5, hd5⟩, hk6⟩⟩
        | panic ch => exact hp.elim
        | outgrown => exact hp.elim
      | exit id => exact hq.elim
      | goto t => exact hq.elim
      | ret => exact hq.elim
      | panic ch => exact hq.elim
      | outgrown => exact hq.elim
    · -- behind the iterator
      rintro e W2 ⟨⟨v, rfl⟩, (⟨xs, hS, O, hO, hi, hn, hl, hk⟩ | ⟨pre, hSp, O, hO, c, hi, hn, hl, hk⟩)⟩
      · have hke : Kept (OO O) W2 (W2.putObj (w.heap.size + 1) (.loop { rec .ready none with state := .exhausted })) := (Kept.refl _ _).putObj (fun _ => .inr (.inr rfl)) _
        exact ⟨none, _, by have := run_endLoop (P := P) hl (by rw [hrec]; simp); rw [hrec] at this ⊢; exact this, hdone _ xs (OO O) _ (Nat.le_refl _) (hOO O hO) (.inr (.inl rfl)) hS (hI _ _ _ _ (hOO O hO) hi hke) ((World.putObj_heap_other (by omega)).trans hk)⟩
      · have hke : Kept (OO O) W2 (W2.putObj (w.heap.size + 1) (.loop { rec .done (some c) with state := .exhausted })) := (Kept.refl _ _).putObj (fun _ => .inr (.inr rfl)) _
        exact ⟨some c, _, by have := run_endLoop (P := P) hl (by rw [hrec]; simp); rw [hrec] at this ⊢; exact this, hstop _ c pre (OO O) _ (Nat.le_refl _) (hOO O hO) (.inr (.inl rfl)) hSp (hIx c _ _ _ _ (hOO O hO) hi hke) ((World.putObj_heap_other (by omega)).trans hk)⟩

theorem wpListIn_load_part {F : Fence} {n : Nat} {ops : Array Oper} {rest : List Oper} {o : Oper} {a : Act} {w : World} {Q : Exit → Act → World → Prop} (hgd : o.guard = none) (ty : TypeId) (x : Operand) (ho : o.op = .load ty x)
    (g off : Nat) (hx : a.eval x = .pointer (some ⟨g, off, none⟩)) (d : TypeDesc) (hu : P.underlying ty = some d) (hd : aggB d = true)
    (cs : List Value) (hi : (P.info? ty).map (·.size) = some cs.length) (hc : ∀ j v, cs[j]? = some v → w.cell? ⟨g, off + j, none⟩ = some v)
    (h : wpListIn F n P ops Q rest (a.put o.dst (.agg cs.toArray)) w) : wpListIn F n P ops Q (o :: rest) a w := by
  refine wpListIn_plain hgd fun K hK => ?_
  unfold Oper.wpIn
  refine ⟨by simp [Oper.about, ho], ?_⟩
  rw [Oper.semAt_plain F _ _ (by rw [ho]; intro c hc'; cases hc')]
  unfold execOp
  simp only [ho, hx, Instr.loadAt, Instr.sureAddr, Sem.run_bind, Sem.run_pure, Result.andThen_ok, run_loadVar_part w g off ty cs d hc hu hd hi]
  exact hK _ _ h
theorem wpListIn_load_cells {F : Fence} {n : Nat} {ops : Array Oper} {rest : List Oper} {o : Oper} {a : Act} {w : World} {Q : Exit → Act → World → Prop} (hgd : o.guard = none) (ty : TypeId) (x : Operand) (ho : o.op = .load ty x)
    (g : Nat) (hx : a.eval x = .pointer (some ⟨g, 0, none⟩)) (d : TypeDesc) (hu : P.underlying ty = some d) (hd : aggB d = true)
    {t : TypeId} {cs : List Value} (hc : Cells w g t cs) (hi : (P.info? ty).map (·.size) = some cs.length)
    (h : wpListIn F n P ops Q rest (a.put o.dst (.agg cs.toArray)) w) : wpListIn F n P ops Q (o :: rest) a w :=
  wpListIn_load_part hgd ty x ho g 0 hx d hu hd cs hi hc.all h
theorem wpListIn_store_part {F : Fence} {n : Nat} {ops : Array Oper} {rest : List Oper} {o : Oper} {a : Act} {w : World} {Q : Exit → Act → World → Prop} (hgd : o.guard = none) (hds : o.dst = none) (ty : TypeId) (x y : Operand) (ho : o.op = .store ty x y)
    (g off : Nat) (hx : a.eval x = .pointer (some ⟨g, off, none⟩)) (cs : List Value) (hy : (a.eval y).cells = cs.toArray)
    {t : TypeId} {old : List Value} (hc : Cells w g t old) (hfit : off + cs.length ≤ old.length) (hi : (P.info? ty).map (·.size) = some cs.length) (h1 : ∀ u ∈ cs, u.oneCell' = true)
    (h : ∀ W', Cells W' g t (old.take off ++ cs ++ old.drop (off + cs.length)) → Kept (· = g) w W' → wpListIn F n P ops Q rest a W') : wpListIn F n P ops Q (o :: rest) a w := by
  refine wpListIn_plain hgd fun K hK => ?_
  unfold Oper.wpIn
  refine ⟨by simp [Oper.about, ho], ?_⟩
  rw [Oper.semAt_plain F _ _ (by rw [ho]; intro c hc'; cases hc')]
  have hr := run_storeCells_at (P := P) g off t cs 0 old.toArray w hc (by simpa using hfit) h1
  cases hq : P.info? ty with
  | none => simp [hq] at hi
  | some i =>
    have hs : i.size = cs.length := by simpa [hq] using hi
    have hr' : (storeCells ⟨g, off, none⟩ cs 0).run P w = .ok () (w.setRow g (old.take off ++ cs ++ old.drop (off + cs.length)).toArray) := by simpa using hr
    have hr2 : (Instr.storeAt ty (a.eval x) (a.eval y)).run P w = .ok () (w.setRow g (old.take off ++ cs ++ old.drop (off + cs.length)).toArray) := by
      simp [Instr.storeAt, hx, Instr.sureAddr, Sem.run_bind, storeVar, sizeOf, typeInfo, hq, hs, hy]
      simpa using hr'
    unfold execOp
    simp only [ho, hr2, Sem.run_bind, Sem.run_pure, Result.andThen_ok]
    have e : a.put o.dst undef = a := by rw [hds]; rfl
    rw [Oper.uponIn_skip, e]
    exact hK _ _ (h _ (setRow_heap w g _ _ t _ hc) ⟨rfl, rfl, rfl, by simp, fun k _ hk => setRow_other w g k _ hk⟩)

/-- What ranges over functions leave behind in a frame. -/
def marks (Ds : List Nat) : List Deferred := Ds.map fun D => { target := .collected D, args := #[] }
def MarksAt (W : World) (Ds : List Nat) : Prop := Ds.Nodup ∧ ∀ D ∈ Ds, W.heap[D]? = some (.deferred (some []))
theorem MarksAt.nil (W : World) : MarksAt W [] := ⟨List.nodup_nil, fun _ h => by cases h⟩
theorem MarksAt.kept {X : Nat → Prop} {W W' : World} {Ds : List Nat} (h : MarksAt W Ds) (hk : Kept X W W') (hx : ∀ D ∈ Ds, ¬ X D) : MarksAt W' Ds := ⟨h.1, fun D hD => hk.heap (h.2 D hD) (hx D hD)⟩
theorem MarksAt.lt {W : World} {Ds : List Nat} (h : MarksAt W Ds) {D : Nat} (hD : D ∈ Ds) : D < W.heap.size := (Array.getElem?_eq_some_iff.1 (h.2 D hD)).1
theorem MarksAt.cons {W : World} {Ds : List Nat} {D : Nat} (h : MarksAt W Ds) (hD : W.heap[D]? = some (.deferred (some []))) (hn : D ∉ Ds) : MarksAt W (D :: Ds) :=
  ⟨List.nodup_cons.2 ⟨hn, h.1⟩, fun E hE => by
    rcases List.mem_cons.1 hE with rfl | hE
    · exact hD
    · exact h.2 E hE⟩
theorem leave_marks {F : Fence} {n : Nat} {fn : Func} {tmps : Array Value} {R : Ending → World → Prop} : ∀ (Ds : List Nat) (W : World), MarksAt W Ds →
    (∀ W', Kept (· ∈ Ds) W W' → ∃ v, (results fn tmps).run P W' = .ok v W' ∧ R (.returned v) W') → LeavesInM F n P fn tmps R (marks Ds) .returning W
  | [], W, _, h => h W (Kept.refl _ _)
  | D :: Ds, W, hm, h => by
    refine ⟨by simp, .inl ⟨D, W.putObj D (.deferred none), rfl, run_takeDeferred (hm.2 D (by simp)), ?_⟩⟩
    have hk : Kept (· = D) W (W.putObj D (.deferred none)) := (Kept.refl _ _).putObj (fun _ => by rfl) _
    have hnd := List.nodup_cons.1 hm.1
    refine leave_marks Ds _ (MarksAt.kept ⟨hnd.2, fun E hE => hm.2 E (List.mem_cons_of_mem _ hE)⟩ hk (fun E hE e => hnd.1 (by have e : E = D := e; rw [← e]; exact hE))) (fun W' hk' => h W' ((hk.mono (fun k _ e => by have e : k = D := e; rw [e]; exact List.mem_cons_self)).trans (hk'.mono (fun k _ hk => List.mem_cons_of_mem _ hk))))
end Go.Proofs.Ytehcfahfbdphpaa
