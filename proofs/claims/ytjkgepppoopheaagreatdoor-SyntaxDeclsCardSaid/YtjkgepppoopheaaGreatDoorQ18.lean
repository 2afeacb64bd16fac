/- The project's function that goes over all statements of a block: each comes, with its depth, in the document's order (conditions: the statements' depth is below 2^40). -/
import Derived.Test.YtjkgepppoopheaaGreatDoorAbb
import Derived.Test.YtjkgepppoopheaaGreatDoorQ1
import Derived.RangeFuncLeaves
import Derived.Sort.LoopGhostIn
import Derived.Test.YtjkgepppoopheaaGreatDoorQ6
set_option maxRecDepth 100000
set_option maxHeartbeats 1000000
namespace Go.Proofs.YtjkgepppoopheaaGreatDoor
open Go.RowKit Go.Shelf
variable {P : Program}
def SeqD {α : Type} (K : World → Prop) (P : Program) (g : Nat) (lb : Array Value) (encs : α → Array Value) (go : α → Prop) (May : List α → α → Prop) (S Sp : List α → Prop) (base : Nat) (w : World) : Prop :=
 ∀ (l : Nat) (J Jx : (Nat → Prop) → List α → World → Prop) (W : World), Kept noX w W →
  (∀ O pre W1, J O pre W1 → K W1) →
  (∀ O pre W1 W2, (∀ k, O k → base ≤ k) → J O pre W1 → Kept O W1 W2 → J O pre W2) →
  (∀ O O' pre W1, J O pre W1 → (∀ k, k < W1.heap.size → O' k → O k) → J O' pre W1) →
  (∀ O pre W1 W2, (∀ k, O k → base ≤ k) → Jx O pre W1 → Kept O W1 W2 → Jx O pre W2) →
  (∀ O pre x W1, (∀ k, O k → base ≤ k) → (∀ k, O k → k < W1.heap.size) → May pre x → J O pre W1 → YieldAt Fence.wide 0 P l (encs x) W1 fun e W' =>
    (e = .returned (.bool true) ∧ go x ∧ J O (pre ++ [x]) W' ∧ Kept (fun k => ¬ O k) W1 W') ∨ (e = .returned (.bool false) ∧ Jx O (pre ++ [x]) W' ∧ Kept (fun k => ¬ O k) W1 W')) →
  J (fun k => base ≤ k ∧ k < w.heap.size) [] W →
  CallsIn Fence.wide 0 P g (#[.func (.yield l) #[] #[]] ++ lb) W fun e W' => (∃ v, e = .returned v) ∧ ((∃ xs, S xs ∧ ∃ O, (∀ k, O k → base ≤ k) ∧ J O xs W') ∨ (∃ pre, Sp pre ∧ ∃ O, (∀ k, O k → base ≤ k) ∧ Jx O pre W'))
theorem wpIn_rangeD {α : Type} {K : World → Prop} {g : Operand} {ps : Array Tmp} {assign body : Code} {Q : Exit → Act → World → Prop} {a : Act} {w : World}
  {gf : Nat} {lb : Array Value} (hg : a.eval g = .func (.func gf) #[] lb) (eg : ∀ args w, (callFunc gf args).run P w = .ok (.enter gf args) w)
  {encs : α → Array Value} {go : α → Prop} {May : List α → α → Prop} {S Sp : List α → Prop} {w0 : World} {base : Nat} (hseq : SeqD K P gf lb encs go May S Sp base w0) (hbase : base ≤ w.heap.size) (hw0 : Kept noX w0 w) (hps : ∀ x, (encs x).size = ps.size)
  (I : (Nat → Prop) → List α → World → Prop) (Ix : Code → (Nat → Prop) → List α → World → Prop) (Ax : (Nat → Prop) → List α → α → Act → World → Prop)
  (hIK : ∀ O pre W1, I O pre W1 → K W1)
  (hI : ∀ O pre W1 W2, (∀ k, O k → base ≤ k) → I O pre W1 → Kept O W1 W2 → I O pre W2)
  (hIe : ∀ O O' pre W1, I O pre W1 → (∀ k, k < W1.heap.size → O' k → O k) → I O' pre W1)
  (hIx : ∀ c O pre W1 W2, (∀ k, O k → base ≤ k) → Ix c O pre W1 → Kept O W1 W2 → Ix c O pre W2)
  (hAx : ∀ O pre x a1 W1 W2, (∀ k, O k → base ≤ k) → Ax O pre x a1 W1 → Kept O W1 W2 → Ax O pre x a1 W2)
  (h0 : I (fun k => base ≤ k ∧ k < w0.heap.size) [] w)
  (hassign : ∀ (l : Nat) O pre x W, (∀ k, O k → base ≤ k) → (∀ k, O k → k < W.heap.size) → May pre x → I O pre W →
    assign.wpIn (Fence.wide.inRound l) 0 P (Exit.then (fun a1 W1 => Kept noX W W1 ∧ Ax O pre x a1 W1) (fun _ _ _ => False)) { tmps := (ps.zip (encs x)).foldl (fun t (p, v) => t.setIfInBounds p v) a.tmps, defers := [] } W)
  (hbody : ∀ (l : Nat) O pre x a1 W, (∀ k, O k → base ≤ k) → May pre x → Ax O pre x a1 W → body.wpIn (Fence.wide.inRound l) 0 P (postO O (go x) I Ix (pre ++ [x]) W) a1 W)
  (hdone : ∀ (D : Nat) xs O W, w.heap.size ≤ D → (∀ k, O k → base ≤ k) → O D → S xs → I O xs W → W.heap[D]? = some (.deferred (some [])) → Q .normal { a with defers := { target := .collected D, args := #[] } :: a.defers } W)
  (hstop : ∀ (D : Nat) c pre O W, w.heap.size ≤ D → (∀ k, O k → base ≤ k) → O D → Sp pre → Ix c O pre W → W.heap[D]? = some (.deferred (some [])) → c.wpIn Fence.wide 0 P Q { a with defers := { target := .collected D, args := #[] } :: a.defers } W) :
  (Code.rangeFunc g ps assign body).wpIn Fence.wide 0 P Q a w := by
 refine wpIn_rangeFunc ?_
 intro fn hfn
 obtain ⟨rec, hrec⟩ : ∃ rec : LoopState → Option Code → Loop, rec = fun st pe => { state := st, pending := pe, fn, tmps := a.tmps, params := ps, assign, body, defers := w.heap.size } := ⟨_, rfl⟩
 obtain ⟨W1, hW1⟩ : ∃ W1, (w.alloc (.deferred (some []))).alloc (.loop (rec .ready none)) = W1 := ⟨_, rfl⟩
 have hL1 : W1.heap[w.heap.size + 1]? = some (.loop (rec .ready none)) := by exact k_25
 have hK1 : W1.heap[w.heap.size]? = some (.deferred (some [])) := by
  rw [← hW1]; exact (Below.heap_alloc _ _ _ (by simp)).trans (World.alloc_heap_new w _)
 have hkw : Kept noX w W1 := by rw [← hW1]; exact ((Kept.refl _ _).alloc _).alloc _
 have hsz : W1.heap.size = w.heap.size + 2 := by rw [← hW1]; simp
 -- the set that the caller's invariant leaves out, with the loop's own two blocks
 let OO : (Nat → Prop) → Nat → Prop := fun O k => O k ∨ k = w.heap.size ∨ k = w.heap.size + 1
 have hOO : ∀ O : Nat → Prop, (∀ k, O k → base ≤ k) → ∀ k, OO O k → base ≤ k := fun O h k hk => by
  rcases hk with hk | hk | hk
  ·have := h k hk; omega
  ·omega
  ·omega
 refine ⟨w.heap.size + 1, [{ target := .collected w.heap.size, args := #[] }], W1, { target := .fn (.func gf) lb, args := #[.func (.yield (w.heap.size + 1)) #[] #[]] }, W1, gf,
   #[.func (.yield (w.heap.size + 1)) #[] #[]] ++ lb, W1, ?_, ?_, ?_, ?_, fun h => by simp [Fence.wide] at h, ?_⟩
 ·rw [← hW1, hrec]; exact run_enterLoop_outer _ _ _ _ _
 ·simp only [resolve, hg]
  simp [go_sem]
 ·intro _ _; trivial
 ·simp [invoke, go_sem, eg]
 ·refine (hseq (w.heap.size + 1)
    (fun O pre W => I (OO O) pre W ∧ (¬ O w.heap.size ∧ ¬ O (w.heap.size + 1)) ∧ W.heap[w.heap.size + 1]? = some (.loop (rec .ready none)) ∧ W.heap[w.heap.size]? = some (.deferred (some [])))
    (fun O pre W => ∃ c, Ix c (OO O) pre W ∧ (¬ O w.heap.size ∧ ¬ O (w.heap.size + 1)) ∧ W.heap[w.heap.size + 1]? = some (.loop (rec .done (some c))) ∧ W.heap[w.heap.size]? = some (.deferred (some [])))
    W1 (hw0.trans hkw)
    (fun O pre A hs => hIK _ _ _ hs.1)
    (fun O pre A B hO hs hk => ⟨hI _ _ A B (hOO O hO) hs.1 (hk.mono (fun _ _ h => .inl h)), hs.2.1, hk.heap hs.2.2.1 hs.2.1.2, hk.heap hs.2.2.2 hs.2.1.1⟩)
    (fun O O' pre A hs h => ⟨hIe _ _ _ _ hs.1 (fun k hk ho => by
      rcases ho with ho | ho
      · exact .inl (h k hk ho)
      · exact .inr ho), ⟨fun ho => hs.2.1.1 (h _ (Array.getElem?_eq_some_iff.1 hs.2.2.2).1 ho), fun ho => hs.2.1.2 (h _ (Array.getElem?_eq_some_iff.1 hs.2.2.1).1 ho)⟩, hs.2.2⟩)
    (fun O pre A B hO hs hk => by
      obtain ⟨c, hc, hn, hl, hd⟩ := hs
      exact ⟨c, hIx c _ _ A B (hOO O hO) hc (hk.mono (fun _ _ h => .inl h)), hn, hk.heap hl hn.2, hk.heap hd hn.1⟩)
    ?_ ⟨hI (OO fun k => base ≤ k ∧ k < w0.heap.size) [] w W1 (hOO _ (fun _ h => h.1)) (hIe _ _ _ _ h0 (fun k hk ho => by
      rcases ho with ho | ho | ho
      · exact ho
      · omega
      · omega)) hkw.any, ⟨fun h => by have := hw0.size; omega, fun h => by have := hw0.size; omega⟩, hL1, hK1⟩).mono ?_
  ·-- one round
   rintro O pre x W hO hOs hmay ⟨hi, hn, hl, hk⟩
   have hlt : w.heap.size + 1 < W.heap.size := (Array.getElem?_eq_some_iff.1 hl).1
   have hy := run_yield (P := P) (args := encs x) hl (by rw [hrec]; exact hps x)
   rw [hrec] at hy
   refine ⟨fn, _, assign, body, hy, roundIn_of_wpIn hfn (wpIn_mono (hassign _ (OO O) pre x W (hOO O hO) (fun k ho => by
     rcases ho with ho | ho | ho
     · exact hOs k ho
     · omega
     · omega) hmay hi) ?_)⟩
   intro e0 a1 W2 hq
   cases e0 with
   | normal =>
    obtain ⟨hk2, hax⟩ := hq
    have hl2' : W2.heap[w.heap.size + 1]? = some (.loop (rec .ready none)) := hk2.heap hl (fun h => h)
    have hd2' : W2.heap[w.heap.size]? = some (.deferred (some [])) := hk2.heap hk (fun h => h)
    have hbr := run_beginRound (P := P) hl2' (by rw [hrec])
    refine ⟨_, hbr, ?_⟩
    have hlt2 : w.heap.size + 1 < W2.heap.size := (Array.getElem?_eq_some_iff.1 hl2').1
    have hl3 : (W2.putObj (w.heap.size + 1) (.loop { rec .ready none with state := .busy })).heap[w.heap.size + 1]? = some (.loop { rec .ready none with state := .busy }) := World.putObj_heap_same hlt2
    have hd3 : (W2.putObj (w.heap.size + 1) (.loop { rec .ready none with state := .busy })).heap[w.heap.size]? = some (.deferred (some [])) := (World.putObj_heap_other kom).trans hd2'
    have hk3 : Kept (OO O) W2 (W2.putObj (w.heap.size + 1) (.loop { rec .ready none with state := .busy })) := (Kept.refl _ _).putObj (fun _ => .inr (.inr rfl)) _
    have hk3' : Kept (fun k => ¬ O k) W2 (W2.putObj (w.heap.size + 1) (.loop { rec .ready none with state := .busy })) := (Kept.refl _ _).putObj (fun _ h => hn.2 h) _
    refine wpIn_mono (hbody _ (OO O) pre x a1 _ (hOO O hO) hmay (hAx _ _ _ _ _ _ (hOO O hO) hax hk3)) ?_
    have fin : ∀ (jump : Option Code) (W4 : World), Kept (fun k => ¬ OO O k) (W2.putObj (w.heap.size + 1) (.loop { rec .ready none with state := .busy })) W4 →
      (Instr.endRound (w.heap.size + 1) jump).run P W4 = .ok (.bool jump.isNone) (W4.putObj (w.heap.size + 1) (.loop (rec (if jump.isNone then .ready else .done) jump))) ∧
      (W4.putObj (w.heap.size + 1) (.loop (rec (if jump.isNone then .ready else .done) jump))).heap[w.heap.size + 1]? = some (.loop (rec (if jump.isNone then .ready else .done) jump)) ∧
      (W4.putObj (w.heap.size + 1) (.loop (rec (if jump.isNone then .ready else .done) jump))).heap[w.heap.size]? = some (.deferred (some [])) ∧
      Kept (OO O) W4 (W4.putObj (w.heap.size + 1) (.loop (rec (if jump.isNone then .ready else .done) jump))) ∧
      Kept (fun k => ¬ O k) W (W4.putObj (w.heap.size + 1) (.loop (rec (if jump.isNone then .ready else .done) jump))) := fun jump W4 hkk => by
     have hl4 := hkk.heap hl3 (fun h => h (.inr (.inr rfl)))
     have hd4 := hkk.heap hd3 (fun h => h (.inr (.inl rfl)))
     have := run_endRound (P := P) jump hl4
     rw [hrec] at this ⊢
     refine ⟨this, World.putObj_heap_same (Array.getElem?_eq_some_iff.1 hl4).1, (World.putObj_heap_other kom).trans hd4, (Kept.refl _ _).putObj (fun _ => .inr (.inr rfl)) _, ?_⟩
     exact (((hk2.any).trans hk3').trans (hkk.mono (fun k _ h hh => h (.inl hh)))).putObj (fun _ h => hn.2 h) _
    rintro e a3 W4 hp
    cases e with
    | normal => exact k_15
    | ret =>
     obtain ⟨hk4, hi4⟩ := hp
     obtain ⟨hr, hl5, hd5, hk5, hk6⟩ := fin (some .ret) W4 hk4
     exact ⟨_, _, hr, .inr ⟨rfl, ⟨.ret, hIx _ _ _ _ _ (hOO O hO) hi4 hk5, hn, hl5, hd5⟩, hk6⟩⟩
    | exit id =>
     obtain ⟨hk4, hi4⟩ := hp
     obtain ⟨hr, hl5, hd5, hk5, hk6⟩ := fin (some (.exit id)) W4 hk4
     exact ⟨_, _, hr, .inr ⟨rfl, ⟨.exit id, hIx _ _ _ _ _ (hOO O hO) hi4 hk5, hn, hl5, hd5⟩, hk6⟩⟩
    | goto t =>
     obtain ⟨hk4, hi4⟩ := hp
     obtain ⟨hr, hl5, hd5, hk5, hk6⟩ := fin (some (.goto t)) W4 hk4
     exact ⟨_, _, hr, .inr ⟨rfl, ⟨.goto t, hIx _ _ _ _ _ (hOO O hO) hi4 hk5, hn, hl5, hd5⟩, hk6⟩⟩
    | panic ch => exact hp.elim
    | outgrown => exact hp.elim
   | exit id => exact hq.elim
   | goto t => exact hq.elim
   | ret => exact hq.elim
   | panic ch => exact hq.elim
   | outgrown => exact hq.elim
  ·exact k_8
theorem wpListIn_load_part {F : Fence} {n : Nat} {ops : Array Oper} {rest : List Oper} {o : Oper} {a : Act} {w : World} {Q : Exit → Act → World → Prop} (hgd : o.guard = none) (ty : TypeId) (x : Operand) (ho : o.op = .load ty x)
  (g off : Nat) (hx : a.eval x = .pointer (some ⟨g, off, none⟩)) (d : TypeDesc) (hu : P.underlying ty = some d) (hd : aggB d = true)
  (cs : List Value) (hi : (P.info? ty).map (·.size) = some cs.length) (hc : ∀ j v, cs[j]? = some v → w.cell? ⟨g, off + j, none⟩ = some v)
  (h : wpListIn F n P ops Q rest (a.put o.dst (.agg cs.toArray)) w) : wpListIn F n P ops Q (o :: rest) a w := by
 refine wpListIn_plain hgd fun K hK => ?_
 unfold Oper.wpIn
 refine ⟨by simp [Oper.about, ho], ?_⟩
 rw [Oper.semAt_plain F _ _ (by rw [ho]; intro c hc'; cases hc')]
 unfold execOp
 simp only [ho, hx, Instr.loadAt, Instr.sureAddr, Sem.run_bind, Sem.run_pure, Result.andThen_ok, run_loadVar_part w g off ty cs d hc hu hd hi]
 exact hK _ _ h
theorem wpListIn_load_cells {F : Fence} {n : Nat} {ops : Array Oper} {rest : List Oper} {o : Oper} {a : Act} {w : World} {Q : Exit → Act → World → Prop} (hgd : o.guard = none) (ty : TypeId) (x : Operand) (ho : o.op = .load ty x)
  (g : Nat) (hx : a.eval x = .pointer (some ⟨g, 0, none⟩)) (d : TypeDesc) (hu : P.underlying ty = some d) (hd : aggB d = true)
  {t : TypeId} {cs : List Value} (hc : Cells w g t cs) (hi : (P.info? ty).map (·.size) = some cs.length)
  (h : wpListIn F n P ops Q rest (a.put o.dst (.agg cs.toArray)) w) : wpListIn F n P ops Q (o :: rest) a w :=
 wpListIn_load_part hgd ty x ho g 0 hx d hu hd cs hi hc.all h
theorem wpListIn_store_part {F : Fence} {n : Nat} {ops : Array Oper} {rest : List Oper} {o : Oper} {a : Act} {w : World} {Q : Exit → Act → World → Prop} (hgd : o.guard = none) (hds : o.dst = none) (ty : TypeId) (x y : Operand) (ho : o.op = .store ty x y)
  (g off : Nat) (hx : a.eval x = .pointer (some ⟨g, off, none⟩)) (cs : List Value) (hy : (a.eval y).cells = cs.toArray)
  {t : TypeId} {old : List Value} (hc : Cells w g t old) (hfit : off + cs.length ≤ old.length) (hi : (P.info? ty).map (·.size) = some cs.length) (h1 : ∀ u ∈ cs, u.oneCell' = true)
  (h : ∀ W', Cells W' g t (old.take off ++ cs ++ old.drop (off + cs.length)) → Kept (· = g) w W' → wpListIn F n P ops Q rest a W') : wpListIn F n P ops Q (o :: rest) a w := by
 refine wpListIn_plain hgd fun K hK => ?_
 unfold Oper.wpIn
 refine ⟨by simp [Oper.about, ho], ?_⟩
 rw [Oper.semAt_plain F _ _ (by rw [ho]; intro c hc'; cases hc')]
 have hr := run_storeCells_at (P := P) g off t cs 0 old.toArray w hc (by simpa using hfit) h1
 cases hq : P.info? ty with
 | none => simp [hq] at hi
 | some i =>
  have hs : i.size = cs.length := by simpa [hq] using hi
  have hr' : (storeCells ⟨g, off, none⟩ cs 0).run P w = .ok () (w.setRow g (old.take off ++ cs ++ old.drop (off + cs.length)).toArray) := by simpa using hr
  have hr2 : (Instr.storeAt ty (a.eval x) (a.eval y)).run P w = .ok () (w.setRow g (old.take off ++ cs ++ old.drop (off + cs.length)).toArray) := by
   simp [Instr.storeAt, hx, Instr.sureAddr, Sem.run_bind, storeVar, sizeOf, typeInfo, hq, hs, hy]
   simpa using hr'
  unfold execOp
  simp only [ho, hr2, Sem.run_bind, Sem.run_pure, Result.andThen_ok]
  have e : a.put o.dst undef = a := by rw [hds] <;> rfl
  rw [Oper.uponIn_skip, e]
  exact hK _ _ (h _ (setRow_heap w g _ _ t _ hc) ⟨rfl, rfl, rfl, by simp, fun k _ hk => setRow_other w g k _ hk⟩)
def marks (Ds : List Nat) : List Deferred := Ds.map fun D => { target := .collected D, args := #[] }
def MarksAt (W : World) (Ds : List Nat) : Prop := Ds.Nodup ∧ ∀ D ∈ Ds, W.heap[D]? = some (.deferred (some []))
theorem MarksAt.nil (W : World) : MarksAt W [] := ⟨List.nodup_nil, fun _ h => by cases h⟩
theorem MarksAt.kept {X : Nat → Prop} {W W' : World} {Ds : List Nat} (h : MarksAt W Ds) (hk : Kept X W W') (hx : ∀ D ∈ Ds, ¬ X D) : MarksAt W' Ds := ⟨h.1, fun D hD => hk.heap (h.2 D hD) (hx D hD)⟩
theorem MarksAt.lt {W : World} {Ds : List Nat} (h : MarksAt W Ds) {D : Nat} (hD : D ∈ Ds) : D < W.heap.size := (Array.getElem?_eq_some_iff.1 (h.2 D hD)).1
theorem MarksAt.cons {W : World} {Ds : List Nat} {D : Nat} (h : MarksAt W Ds) (hD : W.heap[D]? = some (.deferred (some []))) (hn : D ∉ Ds) : MarksAt W (D :: Ds) :=
 ⟨List.nodup_cons.2 ⟨hn, h.1⟩, fun E hE => by
   rcases List.mem_cons.1 hE with rfl | hE
   · exact hD
   · exact h.2 E hE⟩
theorem leave_marks {F : Fence} {n : Nat} {fn : Func} {tmps : Array Value} {R : Ending → World → Prop} : ∀ (Ds : List Nat) (W : World), MarksAt W Ds →
  (∀ W', Kept (· ∈ Ds) W W' → ∃ v, (results fn tmps).run P W' = .ok v W' ∧ R (.returned v) W') → LeavesInM F n P fn tmps R (marks Ds) .returning W
 | [], W, _, h => h W (Kept.refl _ _)
 | D :: Ds, W, hm, h => by
  refine ⟨by simp, .inl ⟨D, W.putObj D (.deferred none), rfl, run_takeDeferred (hm.2 D (by simp)), ?_⟩⟩
  have hk : Kept (· = D) W (W.putObj D (.deferred none)) := (Kept.refl _ _).putObj (fun _ => by rfl) _
  have hnd := List.nodup_cons.1 hm.1
  refine leave_marks Ds _ (MarksAt.kept ⟨hnd.2, fun E hE => hm.2 E (List.mem_cons_of_mem _ hE)⟩ hk (fun E hE e => hnd.1 (by have e : E = D := e; rw [← e]; exact hE))) (fun W' hk' => h W' ((hk.mono (fun k _ e => by have e : k = D := e; rw [e]; exact List.mem_cons_self)).trans (hk'.mono (fun k _ hk => List.mem_cons_of_mem _ hk))))
def ST.body : ST → List ST
 | .node _ _ _ _ _ _ _ b _ _ _ _ _ => b
def ST.els : ST → List ST
 | .node _ _ _ _ _ _ _ _ l _ _ _ _ => l
mutual
def ST.seq (d : Nat) : ST → List (Nat × ST)
 | .node k li co s t e x b l i sl ot lo => (d, .node k li co s t e x b l i sl ot lo) :: (seqL (d + 1) b ++ seqL (d + 1) l)
def seqL (d : Nat) : List ST → List (Nat × ST)
 | [] => []
 | s :: l => ST.seq d s ++ seqL d l
end
mutual
def ST.sz : ST → Nat
 | .node _ _ _ _ _ _ _ b l _ _ _ _ => szL b + szL l + 1
def szL : List ST → Nat
 | [] => 0
 | s :: l => ST.sz s + szL l
end
theorem ST.seq_eq (d : Nat) (s : ST) : ST.seq d s = (d, s) :: (seqL (d + 1) s.body ++ seqL (d + 1) s.els) := by cases s; rw [ST.seq] <;> rfl
theorem ST.sz_eq (s : ST) : ST.sz s = szL s.body + szL s.els + 1 := by cases s; rw [ST.sz] <;> rfl
theorem seqL_append (d : Nat) (l m : List ST) : seqL d (l ++ m) = seqL d l ++ seqL d m := by
 induction l with
 | nil => simp [seqL]
 | cons s l ih => simp [seqL, ih, List.append_assoc]
theorem szL_mem {l : List ST} {s : ST} (h : s ∈ l) : ST.sz s ≤ szL l := by
 induction l with
 | nil => cases h
 | cons t l ih =>
  rw [szL]
  rcases List.mem_cons.1 h with rfl | h
  ·omega
  ·have := ih h; omega
theorem seqL_take {d : Nat} {l : List ST} {i : Nat} (hi : i < l.length) : seqL d (l.take (i + 1)) = seqL d (l.take i) ++ ((d, l[i]) :: (seqL (d + 1) l[i].body ++ seqL (d + 1) l[i].els)) := by
 rw [List.take_succ_eq_append_getElem hi, seqL_append, seqL, seqL, List.append_nil, ST.seq_eq]
theorem seqL_prefix (d : Nat) (l : List ST) (i : Nat) : seqL d (l.take i) <+: seqL d l := by
 have := seqL_append d (l.take i) (l.drop i)
 rw [List.take_append_drop] at this
 exact ⟨_, this.symm⟩
theorem RowV.at_z {W : World} {Z : Nat → Prop} {v : Value} {ds : List D} (h : RowV W Z v ds) {i : Nat} (hi : i < ds.length) :
  ∃ b o c size cs, v = .slice (some ⟨b, o, none⟩) ds.length c ∧ cs.length = size ∧ Rep W Z cs ds[i] ∧ (∀ j, j < size → W.cell? ⟨b, o + (i * size + j), none⟩ = cs[j]?) ∧ ¬ Z b := by
 unfold RowV at h
 generalize hv : [v] = vs at h
 cases h with
 | nilrow => simp at hi
 | row a n c size ds cs hn hs hc hm hz hp hsz hcell hd =>
  injection hv with hv
  subst hn
  subst hv
  have hs := hs kom
  refine ⟨a.block, a.off, c, size, cs i, ?_, hsz i hi, hd i hi, fun j hj => hcell i hi j hj, hz kom⟩
  cases a; simp_all
theorem SV.parts {W : World} {Z : Nat → Prop} {cs : List Value} {s : ST} (h : SV W Z cs s) : ∃ vb vl, cs[19]? = some vb ∧ cs[20]? = some vl ∧ RowV W Z vb (ST.ds s.body) ∧ RowV W Z vl (ST.ds s.els) := by
 cases s
 obtain ⟨ce, cx, vb, vl, rfl, h1, h2, h3, h4⟩ := SV.iff.1 h
 have l1 := h1.len
 have l2 := h2.len
 obtain ⟨a1, a2, a3, a4, a5, a6, a7, rfl⟩ : ∃ a1 a2 a3 a4 a5 a6 a7, ce = [a1, a2, a3, a4, a5, a6, a7] := by
  match ce, l1 with
  | [a1, a2, a3, a4, a5, a6, a7], _ => exact ⟨a1, a2, a3, a4, a5, a6, a7, rfl⟩
 obtain ⟨b1, b2, b3, b4, b5, b6, b7, rfl⟩ : ∃ a1 a2 a3 a4 a5 a6 a7, cx = [a1, a2, a3, a4, a5, a6, a7] := by
  match cx, l2 with
  | [a1, a2, a3, a4, a5, a6, a7], _ => exact ⟨a1, a2, a3, a4, a5, a6, a7, rfl⟩
 exact ⟨vb, vl, rfl, rfl, h3, h4⟩
abbrev WE : Type := (Nat × ST) × List Value
def encS (x : WE) : Array Value := #[.int .i64 (x.1.1 : Nat), .agg x.2.toArray]
def mayS (w0 : World) (base0 d : Nat) (l : List ST) (pre : List WE) (x : WE) : Prop := SV w0 (base0 ≤ ·) x.2 x.1.2 ∧ (pre ++ [x]).map (·.1) <+: seqL d l
def allS (d : Nat) (l : List ST) (xs : List WE) : Prop := xs.map (·.1) = seqL d l
def partS (d : Nat) (l : List ST) (pre : List WE) : Prop := pre.map (·.1) <+: seqL d l
theorem within_makes (A : Option Addr) (n c : Nat) (d : Int) (w : World) : Calls Tryz.prog 62 #[.slice A n c, .int .i64 d] w fun e w' =>
  e = .returned (.func (.func 118) #[] #[.pointer (some ⟨w.heap.size, 0, none⟩), .pointer (some ⟨w.heap.size + 1, 0, none⟩)]) ∧ Cells w' w.heap.size 52 [.slice A n c] ∧ Cells w' (w.heap.size + 1) 3 [.int .i64 d] ∧ Kept noX w w' := by
 have hmf : ∀ (fn : Fn) (first cap : Array Value) (w : World), (Instr.makeFunc fn first cap).run Tryz.prog w = .ok (.func fn first cap) w := fun _ _ _ _ => rfl
 go_enter Tryz.func62, Tryz.ntmps62
 go_wp2
 go_ret
 refine ⟨rfl, (Cells.fresh w 52 _).alloc _, ?_, ((Kept.refl _ _).alloc _).alloc _⟩
 have h := Cells.fresh (w.alloc (.cells #[.slice A n c] 52)) 3 [.int .i64 d]
 rw [World.size_alloc] at h
 exact h
end Go.Proofs.YtjkgepppoopheaaGreatDoor
namespace Go.Proofs.YtjkgepppoopheaaGreatDoor
open Go.RowKit Go.Shelf
attribute [local go_sem] Oper.semAt_some
def ownS (B T : Nat) (Ds : List Nat) (k : Nat) : Prop := k = B ∨ k = T ∨ k ∈ Ds
def WIn (J : (Nat → Prop) → List WE → World → Prop) (lk B T d : Nat) (Ds : List Nat) (O : Nat → Prop) (xs : List WE) (W : World) : Prop :=
 J (fun k => O k ∨ ownS B (T + 1) Ds k) xs W ∧ Cells W B 113 [.func (.yield lk) #[] #[]] ∧ Cells W (T + 1) 3 [.int .i64 (d : Nat)] ∧ MarksAt W Ds ∧ ∀ k, ownS B (T + 1) Ds k → ¬ O k
theorem zip2 (p q : Tmp) (u v : Value) (t : Array Value) : ((#[p, q] : Array Tmp).zip #[u, v]).foldl (fun t (x : Tmp × Value) => t.setIfInBounds x.1 x.2) t = (t.setIfInBounds p u).setIfInBounds q v := by simp
section
variable {J : (Nat → Prop) → List WE → World → Prop} {lk B T d base : Nat} {Ds : List Nat} {O O' : Nat → Prop} {xs : List WE} {W W' : World}
theorem WIn.own_lt (h : WIn J lk B T d Ds O xs W) {k : Nat} (hk : ownS B (T + 1) Ds k) : k < W.heap.size := by
 rcases hk with rfl | rfl | hk
 ·exact h.2.1.lt
 ·exact h.2.2.1.lt
 ·exact h.2.2.2.1.lt hk
theorem WIn.stab (hst : ∀ O pre W1 W2, (∀ k, O k → base ≤ k) → J O pre W1 → Kept O W1 W2 → J O pre W2) (hOwn : ∀ k, ownS B (T + 1) Ds k → base ≤ k) (h : WIn J lk B T d Ds O xs W) (hO : ∀ k, O k → base ≤ k) (hk : Kept O W W') : WIn J lk B T d Ds O xs W' := by
 obtain ⟨h1, h2, h3, h4, h5⟩ := h
 exact ⟨hst _ _ W W' (fun k hk => hk.elim (hO k) (hOwn k)) h1 (hk.mono (fun _ _ h => .inl h)), h2.kept hk (h5 _ (.inl rfl)), h3.kept hk (h5 _ (.inr (.inl rfl))), h4.kept hk (fun D hD => h5 _ (.inr (.inr hD))), h5⟩
theorem WIn.ext (hex : ∀ O O' pre W1, J O pre W1 → (∀ k, k < W1.heap.size → O' k → O k) → J O' pre W1) (h : WIn J lk B T d Ds O xs W) (hO : ∀ k, k < W.heap.size → O' k → O k) : WIn J lk B T d Ds O' xs W := by
 have hl := fun k => h.own_lt (k := k)
 obtain ⟨h1, h2, h3, h4, h5⟩ := h
 exact ⟨hex _ _ _ W h1 (fun k hk h => h.imp (hO k hk) id), h2, h3, h4, fun k hk ho => h5 k hk (hO k (hl k hk) ho)⟩
end
def upto (d : Nat) (s : ST) : Nat → List (Nat × ST)
 | 0 => []
 | 1 => seqL (d + 1) s.body
 | _ => seqL (d + 1) s.body ++ seqL (d + 1) s.els
theorem within_seq {w0 : World} {base0 : Nat} : ∀ (n : Nat) (l : List ST) (d : Nat) (A : Option Addr) (nn c : Nat), szL l < n → RowV w0 (base0 ≤ ·) (.slice A nn c) (ST.ds l) → d + szL l ≤ 1099511627776 → ∀ (base T : Nat) (w : World), base0 ≤ base → base ≤ T →
  Cells w T 52 [.slice A nn c] → Cells w (T + 1) 3 [.int .i64 (d : Nat)] →
  SeqD (Kept (base0 ≤ ·) w0) Tryz.prog 118 #[.pointer (some ⟨T, 0, none⟩), .pointer (some ⟨T + 1, 0, none⟩)] encS (fun _ => True) (mayS w0 base0 d l) (allS d l) (partS d l) base w := by
 intro n
 induction n with
 | zero => intro l d A nn c hn; omega
 | succ n ih =>
 intro l d A nn c hn hv hdep base T w hb0 hbT hT hT1 lk J Jx W hwW hJK hst hex hstx hY h0
 have hTW := hT.kept hwW (fun h => h)
 have hT1W := hT1.kept hwW (fun h => h)
 have hTw := hT.lt
 have hT1w := hT1.lt
 have hTlt := hTW.lt
 have hT1lt := hT1W.lt
 obtain ⟨A', nn', c', hform, hnn, hnc, hcm⟩ := hv.form
 injection hform with hA hn2 hc2
 subst hA hn2 hc2
 rw [ST.ds_length] at hnn
 have ct := hTW.cell 0
 simp only [aZ] at ct
 have HV := aP hv
 have HT1 := aP hT1W
 have HIH := aP ih
 clear hT hT1 hv hT1W ih
 refine callsIn_of_wp_marks Tryz.func118 rfl trivial ?_ rfl
 simp only [Tryz.ntmps118, List.size_toArray, List.length_cons, List.length_nil, Nat.reduceAdd, Nat.reduceSub, Array.replicate_succ, Array.replicate_zero, List.push_toArray, List.append_toArray, List.nil_append, List.cons_append]
 gi_wp2_with fail
 have hB := Cells.fresh W 113 [.func (.yield lk) #[] #[]]
 have hT1a := HT1.out.alloc (.cells #[.func (.yield lk) #[] #[]] 113)
 have hka : Kept noX W (W.alloc (.cells #[.func (.yield lk) #[] #[]] 113)) := (Kept.refl _ _).alloc _
 generalize W.alloc (.cells #[.func (.yield lk) #[] #[]] 113) = Wa at hB hT1a hka ⊢
 obtain ⟨B, hBe⟩ : ∃ B, B = W.heap.size := ⟨_, rfl⟩
 have hWs := hwW.size
 rw [← hBe] at hB ⊢
 have hbB : base ≤ B := by omega
 have hWB : w.heap.size ≤ B := by omega
 have hOb : ∀ Ds : List Nat, (∀ D ∈ Ds, base ≤ D) → ∀ k, ownS B (T + 1) Ds k → base ≤ k := fun Ds h k hk => by
  rcases hk with rfl | rfl | hk
  ·exact hbB
  ·omega
  ·exact h k hk
 have hJa : J (ownS B (T + 1) []) [] Wa := by
  refine hst _ _ W Wa (hOb [] (fun _ h => by cases h)) (hex _ _ _ _ h0 (fun k hk ho => ?_)) hka.any
  rcases ho with rfl | rfl | ho
  ·omega
  ·exact ⟨by omega, by omega⟩
  ·cases ho
 clear hBe
 refine wpIn_loop_ghost_k (fun m a wr => ∃ (i : Nat) (Ds : List Nat) (xs : List WE), ∃ u4 u5 u6 u7 u8 u9 u13 u14 u15 u16 u17 u18 u19 u20 u21 u22 u23 u24 u25 u26 u27 u28 u29 u30 u31 u32 u33 u34 u35 u36 u37 u38 u39 u40 u41 : Value, (i ≤ l.length ∧ m = l.length - i ∧ Cells wr B 113 [.func (.yield lk) #[] #[]] ∧ Cells wr (T + 1) 3 [.int .i64 (d : Nat)] ∧ MarksAt wr Ds ∧ (∀ D ∈ Ds, base ≤ D) ∧ xs.map (·.1) = seqL d (l.take i) ∧ J (ownS B (T + 1) Ds) xs wr) ∧ a = { tmps := #[.func (.yield lk) #[] #[], .pointer (some ⟨T, 0, none⟩), .pointer (some ⟨T + 1, 0, none⟩), .pointer (some ⟨B, 0, none⟩), u4, u5, u6, u7, u8, u9, .slice A l.length c, .int .i64 (l.length : Nat), .int .i64 (i : Nat), u13, u14, u15, u16, u17, u18, u19, u20, u21, u22, u23, u24, u25, u26, u27, u28, u29, u30, u31, u32, u33, u34, u35, u36, u37, u38, u39, u40, u41], defers := marks Ds }) (l.length) ⟨0, [], [], _, _, _, _, _, _, _, _, _, _, _, _, _, _, _, _, _, _, _, _, _, _, _, _, _, _, _, _, _, _, _, _, _, _, _, ?atStart9, rfl⟩ ?_
 rotate_left
 ·rintro m a wr ⟨i, Ds, xs, u4, u5, u6, u7, u8, u9, u13, u14, u15, u16, u17, u18, u19, u20, u21, u22, u23, u24, u25, u26, u27, u28, u29, u30, u31, u32, u33, u34, u35, u36, u37, u38, u39, u40, u41, hrel, rfl⟩ J9 K9 hJ9 hK9
  obtain ⟨hi, rfl, hBr, hTr, hM, hDb, hxs, hJr⟩ := hrel
  have hK := hJK _ _ _ hJr
  by_cases hlt : i < l.length
  ·have hdl : decide ((i : Int) < (l.length : Int)) = true := by simpa using hlt
   obtain ⟨g, o, c2, size, cs, hveq, hcl, hrep, hcell, hgz⟩ := HV.out.at_z (i := i) (by simpa using hlt)
   rw [ST.ds_get] at hrep
   have hsv : SV w0 (base0 ≤ ·) cs l[i] := hrep
   have hlen := hsv.len
   rw [hlen] at hcl
   subst hcl
   injection hveq with hA _ hc2
   subst hA hc2
   have hcr : ∀ j u, cs[j]? = some u → wr.cell? ⟨g, (o + i * 25) + j, none⟩ = some u := fun j u hu => by
    have hj : j < 25 := by rw [← hlen]; exact (List.getElem?_eq_some_iff.1 hu).1
    rw [Nat.add_assoc, World.cell?_of_block (hK.block g (block_lt_of (hcell 0 kom |>.trans (by rw [List.getElem?_eq_getElem kom]))) hgz), hcell j hj, hu]
   have HCR := aP hcr
   have HL := aP hlen
   have HSV := aP hsv
   have HO := aP (Rep.one hsv)
   clear hcell hcr hlen hrep hsv
   obtain ⟨B5, hB5e⟩ : ∃ B5, B5 = wr.heap.size := ⟨_, rfl⟩
   have hbB5 : base ≤ B5 := by have := hBr.lt; omega
   have hDb5 : ∀ D ∈ B5 :: Ds, base ≤ D := fun D hD => by
    rcases List.mem_cons.1 hD with rfl | hD
    ·exact hbB5
    ·exact hDb D hD
   have hmay : mayS w0 base0 d l xs ((d, l[i]), cs) := ⟨HSV.out, by
     rw [List.map_append, hxs]
     refine List.IsPrefix.trans ?_ (seqL_prefix d l (i + 1))
     rw [seqL_take hlt]
     exact ⟨seqL (d + 1) l[i].body ++ seqL (d + 1) l[i].els, by simp⟩⟩
   have hpre : ∀ W5, Kept noX wr W5 → B5 < W5.heap.size → YieldAt Fence.wide 0 Tryz.prog lk (encS ((d, l[i]), cs)) W5 fun e W' =>
     (e = .returned (.bool true) ∧ True ∧ J (ownS B (T + 1) (B5 :: Ds)) (xs ++ [((d, l[i]), cs)]) W' ∧ Kept (fun k => ¬ ownS B (T + 1) (B5 :: Ds) k) W5 W') ∨
     (e = .returned (.bool false) ∧ Jx (ownS B (T + 1) (B5 :: Ds)) (xs ++ [((d, l[i]), cs)]) W' ∧ Kept (fun k => ¬ ownS B (T + 1) (B5 :: Ds) k) W5 W') := fun W5 hk5 hl5 => by
    refine hY _ _ _ W5 (hOb _ hDb5) (fun k hk => ?_) hmay (hst _ _ wr W5 (hOb _ hDb5) (hex _ _ _ _ hJr (fun k hk ho => ?_)) hk5.any)
    ·have hs := hk5.size
     rcases hk with rfl | rfl | hk
     ·have := hBr.lt; omega
     ·have := hTr.lt; omega
     ·rcases List.mem_cons.1 hk with rfl | hk
      ·exact hl5
      ·have := hM.lt hk; omega
    ·rcases ho with ho | ho | ho
     ·exact .inl ho
     ·exact .inr (.inl ho)
     ·rcases List.mem_cons.1 ho with rfl | ho
      ·omega
      ·exact .inr (.inr ho)
   have HPM : Hid (partS d l (xs ++ [((d, l[i]), cs)])) := aP hmay.2
   have HB5E := aP hB5e
   have hB5l : wr.heap.size ≤ B5 := Nat.le_of_eq hB5e.symm
   clear hB5e
   have HPRE := aP hpre
   have HXS := aP hxs
   have HBr := aP hBr
   have HTr := aP hTr
   have HM := aP hM
   have HDB := aP hDb
   have HY := aP hY
   clear hpre hmay hxs hBr hTr hM hDb hY
   gi_wp2_with (first
     | ((with_reducible show wpListIn _ _ _ _ _ (Oper.mk _ (Op.load _ _) _ _ _ _ :: _) _ _); refine wpListIn_load_part rfl 63 (.tmp 14) rfl g (o + i * 25) rfl _ Tryz.underlying63 rfl cs (by rw [HL.out]; kernel_rfl) HCR.out ?_)
     | ((with_reducible show wpListIn _ _ _ _ _ (Oper.mk none (Op.store _ _ _) _ _ _ _ :: _) _ _); refine wpListIn_store_part rfl rfl 63 (.tmp 5) (.tmp 15) rfl (wr.heap.size) 0 rfl cs rfl (Cells.fresh wr 63 zeroSt) (by rw [HL.out]; exact Nat.le_of_ble_eq_true rfl) (by rw [HL.out]; kernel_rfl) HO.out ?_; intro W5 hB5 hk5a
        have hB5 : Cells W5 B5 63 cs := by
          rw [HL.out, show zeroSt.take 0 ++ cs ++ zeroSt.drop (0 + 25) = cs from by simp [zeroSt]] at hB5
          rw [HB5E.out]; exact hB5
        have hk5 : Kept noX wr W5 := ((Kept.refl noX wr).alloc _).own hk5a (Nat.le_refl _)
        rw [← HB5E.out]
        have cB := (HBr.out.kept hk5 (fun h => h)).cell 0
        have cT := (HTr.out.kept hk5 (fun h => h)).cell 0
        simp only [aZ] at cB cT
        have hl5 := hB5.lt
        have hy0 := HPRE.out W5 hk5 hl5
        obtain ⟨yfn, ytmps, yas, ybd, hy, hR⟩ := hy0
        have HR := aP hR
        have HB5 := aP hB5
        unfold encS at hy
        clear hR hB5 hk5a)
     | ((with_reducible show wpListIn _ _ _ _ _ (Oper.mk _ (Op.load _ _) _ _ _ _ :: _) _ _); refine wpListIn_load_cells rfl 63 (.tmp 5) rfl B5 rfl _ Tryz.underlying63 rfl HB5.out (by rw [HL.out]; kernel_rfl) ?_))
   refine ⟨rfl, ?_⟩
   refine HR.out.mono ?_
   clear HR hy cB cT
   rintro e W6 (⟨rfl, _, hJ6, hk6⟩ | ⟨rfl, hJx6, hk6⟩)
   rotate_left
   ·have hM6 := (HM.out.kept hk5 (fun D _ h => h)).kept hk6 (fun D hD h => h (.inr (.inr (List.mem_cons_of_mem _ hD))))
    have HM6 := aP hM6
    clear hM6
    gi_wp2
    refine leave_marks Ds W6 HM6.out (fun W' hk' => ⟨_, results_none rfl _ _ _, ⟨_, rfl⟩, .inr ⟨_, ?_, _, hOb _ hDb5, hstx _ _ W6 W' (hOb _ hDb5) hJx6 (hk'.mono (fun k _ hk => .inr (.inr (List.mem_cons_of_mem _ hk))))⟩⟩)
    exact HPM.out
   ·obtain ⟨vb, vl, hc19, hc20, hvb, hvl⟩ := HSV.out.parts
    obtain ⟨Ab, nb, cb, rfl, hnb, hnbc, hcbm⟩ := hvb.form
    obtain ⟨Al, nl, cl, rfl, hnl, hnlc, hclm⟩ := hvl.form
    rw [ST.ds_length] at hnb hnl
    subst hnb hnl
    have hB6 := HB5.out.kept hk6 (fun h => h (.inr (.inr (List.mem_cons_self))))
    have hBr6 := (HBr.out.kept hk5 (fun h => h)).kept hk6 (fun h => h (.inl rfl))
    have hTr6 := (HTr.out.kept hk5 (fun h => h)).kept hk6 (fun h => h (.inr (.inl rfl)))
    have hM6 := (HM.out.kept hk5 (fun D _ h => h)).kept hk6 (fun D hD h => h (.inr (.inr (List.mem_cons_of_mem _ hD))))
    have c19 := (hB6.cell 19).trans hc19
    have c20 := (hB6.cell 20).trans hc20
    have HB6 := aP hB6
    have HBr6 := aP hBr6
    have HTr6 := aP hTr6
    have HM6 := aP hM6
    have HVB := aP hvb
    have HVL := aP hvl
    have hl6 := hB6.lt
    clear hB6 hBr6 hTr6 hM6 hvb hvl hc19 hc20 HB5 HBr HTr HM HPRE
    gi_wp2_with fail
    have hJ6' : J (ownS B (T + 1) Ds) (xs ++ [((d, l[i]), cs)]) W6 := hex _ _ _ _ hJ6 (fun k _ hk => by
      rcases hk with hk | hk | hk
      · exact .inl hk
      · exact .inr (.inl hk)
      · exact .inr (.inr (List.mem_cons_of_mem _ hk)))
    refine wpIn_loop_ghost_k (fun m a wr => ∃ (j : Nat) (Ds : List Nat) (ys : List WE), ∃ u4 u6 u7 u8 u9 u13 u14 u15 u16 u17 u18 u19 u20 u21 u22 u23 u24 u27 u28 u29 u30 u31 u32 u33 u34 u35 u36 u37 u38 u39 u40 u41 : Value, (j ≤ 2 ∧ m = 2 - j ∧ Cells wr B 113 [.func (.yield lk) #[] #[]] ∧ Cells wr (T + 1) 3 [.int .i64 (d : Nat)] ∧ MarksAt wr Ds ∧ (∀ D ∈ Ds, base ≤ D) ∧ ys.map (·.1) = seqL d (l.take i) ++ (d, l[i]) :: upto d l[i] j ∧ J (ownS B (T + 1) Ds) ys wr) ∧ a = { tmps := #[.func (.yield lk) #[] #[], .pointer (some ⟨T, 0, none⟩), .pointer (some ⟨T + 1, 0, none⟩), .pointer (some ⟨B, 0, none⟩), u4, .pointer (some ⟨B5, 0, none⟩), u6, u7, u8, u9, .slice (some ⟨g, o, none⟩) l.length c, .int .i64 (l.length : Nat), .int .i64 (i : Nat), u13, u14, u15, u16, u17, u18, u19, u20, u21, u22, u23, u24, .agg #[.slice Ab l[i].body.length cb, .slice Al l[i].els.length cl], .int .i64 (j : Nat), u27, u28, u29, u30, u31, u32, u33, u34, u35, u36, u37, u38, u39, u40, u41], defers := marks Ds }) (2) ⟨0, Ds, xs ++ [((d, l[i]), cs)], _, _, _, _, _, _, _, _, _, _, _, _, _, _, _, _, _, _, _, _, _, _, _, _, _, _, _, _, _, _, _, _, ?atStart8, rfl⟩ ?_
    rotate_left
    ·rintro m a wr ⟨j, Ds, ys, u4, u6, u7, u8, u9, u13, u14, u15, u16, u17, u18, u19, u20, u21, u22, u23, u24, u27, u28, u29, u30, u31, u32, u33, u34, u35, u36, u37, u38, u39, u40, u41, hrel, rfl⟩ J8 K8 hJ8 hK8
     obtain ⟨hj2, rfl, hBr, hTr, hM, hDb, hys, hJr⟩ := hrel
     have hK := hJK _ _ _ hJr
     have hsz := ST.sz_eq l[i]
     have hszl := szL_mem (List.getElem_mem hlt)
     by_cases hjlt : j < 2
     ·have hdj : decide ((j : Int) < 2) = true := by simp; omega
      have hpart : ∃ Ap np cp part, (∀ W, (Instr.index 169 (.agg #[.slice Ab l[i].body.length cb, .slice Al l[i].els.length cl]) (.int .i64 (j : Nat))).run Tryz.prog W = .ok (.slice Ap np cp) W) ∧ RowV w0 (base0 ≤ ·) (.slice Ap np cp) (ST.ds part) ∧ szL part < n ∧ d + 1 + szL part ≤ 1099511627776 ∧ upto d l[i] (j + 1) = upto d l[i] j ++ seqL (d + 1) part ∧ (seqL (d + 1) part <+: seqL (d + 1) part ∧ upto d l[i] j ++ seqL (d + 1) part <+: upto d l[i] 2) := by
       have hj' : j = 0 ∨ j = 1 := by omega
       rcases hj' with rfl | rfl
       ·exact ⟨Ab, l[i].body.length, cb, l[i].body, fun _ => by kernel_rfl, HVB.out, by omega, by omega, rfl, List.prefix_refl _, ⟨_, rfl⟩⟩
       ·exact ⟨Al, l[i].els.length, cl, l[i].els, fun _ => by kernel_rfl, HVL.out, by omega, by omega, rfl, List.prefix_refl _, List.prefix_refl _⟩
      obtain ⟨Ap, np, cp, part, hix, hpv, hpn, hpd, hup, _, hpre2⟩ := hpart
      have cT := hTr.cell 0
      simp only [aZ] at cT
      have HPV := aP hpv
      have HUP := aP hup
      have HYS := aP hys
      have HBr := aP hBr
      have HTr := aP hTr
      have HM := aP hM
      have HDB2 := aP hDb
      have HP2 := aP hpre2
      have hTrl := hTr.lt
      clear hpv hup hys hBr hTr hM hDb hpre2
      gi_wp2_with fail
      refine ⟨trivial, rfl, ?_⟩
      refine (callsIn_wide.2 (within_makes Ap np cp ((d : Int) + 1) wr)).mono ?_
      rintro e W7 ⟨rfl, hT7, hD7, hk7⟩
      dsimp only
      have hd1 : ((d : Int) + 1) = ((d + 1 : Nat) : Int) := by omega
      rw [hd1] at hD7
      have hb7 : base ≤ wr.heap.size := by omega
      have hs7 := hD7.lt
      gi_wp2_with fail
      have hOb2 := hOb _ HDB2.out
      refine wpIn_rangeD (gf := 118) (lb := #[.pointer (some ⟨wr.heap.size, 0, none⟩), .pointer (some ⟨wr.heap.size + 1, 0, none⟩)]) rfl (enters_of Tryz.func118 krf rfl)
       (HIH.out part (d + 1) Ap np cp hpn HPV.out hpd wr.heap.size wr.heap.size W7 kom (Nat.le_refl _) hT7 hD7) kom (Kept.refl _ _) (fun _ => rfl)
       (fun O pre W => WIn J lk B T d Ds O (ys ++ pre) W)
       (fun c O pre W => c = .ret ∧ Jx (fun k => O k ∨ ownS B (T + 1) Ds k) (ys ++ pre) W ∧ MarksAt W Ds ∧ ∀ D ∈ Ds, ¬ O D)
       (fun O pre x a1 W => WIn J lk B T d Ds O (ys ++ pre) W ∧ (∀ k, O k → k < W.heap.size) ∧ ∃ B9, Cells W B9 63 x.2 ∧ ¬ O B9 ∧ ∃ u0 u1 u2 u4 u5 u6 u7 u10 u11 u12 u13 u14 u15 u16 u17 u18 u19 u20 u21 u22 u23 u24 u25 u26 u27 u28 u29 u30 u31 u32 u33 u34 u35 u36 u37 u38 u39 u40 u41 : Value, a1 = { tmps := #[u0, u1, u2, .pointer (some ⟨B, 0, none⟩), u4, u5, u6, u7, .int .i64 (x.1.1 : Nat), .pointer (some ⟨B9, 0, none⟩), u10, u11, u12, u13, u14, u15, u16, u17, u18, u19, u20, u21, u22, u23, u24, u25, u26, u27, u28, u29, u30, u31, u32, u33, u34, u35, u36, u37, u38, u39, u40, u41], defers := [] })
       ?hIK ?hI ?hIe ?hIx ?hAx ?h0 ?hassign ?hbody ?hdone ?hstop
      case hIK => intro O pre W1 h; exact hJK _ _ _ h.1
      case hI => intro O pre W1 W2 hO h hk; exact h.stab hst hOb2 (fun k hk => by have := hO k hk; omega) hk
      case hIe => intro O O' pre W1 h hO; exact h.ext hex hO
      case hIx =>
       rintro c O pre W1 W2 hO ⟨hc, h1, h2, h3⟩ hk
       exact ⟨hc, hstx _ _ W1 W2 (fun k hk => hk.elim (fun hk => by have := hO k hk; omega) (hOb2 k)) h1 (hk.mono (fun _ _ h => .inl h)), h2.kept hk h3, h3⟩
      case hAx =>
       rintro O pre x a1 W1 W2 hO ⟨h1, h2, B9, h3, h4, hrest⟩ hk
       exact ⟨h1.stab hst hOb2 (fun k hk => by have := hO k hk; omega) hk, fun k ho => Nat.lt_of_lt_of_le (h2 k ho) hk.size, B9, h3.kept hk h4, h4, hrest⟩
      case h0 =>
       have hw : WIn J lk B T d Ds (fun k => wr.heap.size ≤ k ∧ k < W7.heap.size) (ys ++ []) wr := by
        rw [List.append_nil]
        refine ⟨hex _ _ _ _ hJr (fun k hk ho => ho.elim (fun ho => by omega) id), HBr.out, HTr.out, HM.out, fun k hk ho => ?_⟩
        have : k < wr.heap.size := by
         rcases hk with rfl | rfl | hk
         ·exact HBr.out.lt
         ·exact HTr.out.lt
         ·exact HM.out.lt hk
        omega
       exact hw.stab hst hOb2 (fun k hk => by omega) hk7.any
      case hassign =>
       rintro lq O pre x Wq hO hOs hmq hwi
       have HLx := aP hmq.1.len
       have HOx := aP (Rep.one hmq.1)
       simp only [encS]
       rw [zip2]
       simp only [List.setIfInBounds_toArray, List.set_cons_zero, List.set_cons_succ]
       gi_wp2_with (first
         | ((with_reducible show wpListIn _ _ _ _ _ (Oper.mk none (Op.store _ _ _) _ _ _ _ :: _) _ _); refine wpListIn_store_part rfl rfl 63 (.tmp 9) (.tmp 34) rfl (Wq.heap.size) 0 rfl x.2 rfl (Cells.fresh Wq 63 zeroSt) (by rw [HLx.out]; exact Nat.le_of_ble_eq_true rfl) (by rw [HLx.out]; kernel_rfl) HOx.out ?_; intro W8 hB8 hk8
            have hB8 : Cells W8 Wq.heap.size 63 x.2 := by exact k_14
            have HB8 := aP hB8
            clear hB8))
       have hkq : Kept noX Wq W8 := ((Kept.refl noX Wq).alloc _).own hk8 (Nat.le_refl _)
       refine ⟨hkq, hwi.stab hst hOb2 (fun k hk => by have := hO k hk; omega) hkq.any, fun k ho => Nat.lt_of_lt_of_le (hOs k ho) hkq.size, Wq.heap.size, HB8.out, fun ho => Nat.lt_irrefl _ (hOs _ ho), _, _, _, _, _, _, _, _, _, _, _, _, _, _, _, _, _, _, _, _, _, _, _, _, _, _, _, _, _, _, _, _, _, _, _, _, _, _, _, rfl⟩
      case hbody =>
       rintro lq O pre x a1 Wq hO hmq ⟨hwi, hOs, B9, hB9, hnB9, u0, u1, u2, u4, u5, u6, u7, u10, u11, u12, u13, u14, u15, u16, u17, u18, u19, u20, u21, u22, u23, u24, u25, u26, u27, u28, u29, u30, u31, u32, u33, u34, u35, u36, u37, u38, u39, u40, u41, rfl⟩
       have hOall : ∀ k, (O k ∨ ownS B (T + 1) Ds k) → base ≤ k := fun k hk => hk.elim (fun hk => by have := hO k hk; omega) (hOb2 k)
       have hmq2 : mayS w0 base0 d l (ys ++ pre) x := ⟨hmq.1, by
         rw [List.append_assoc, List.map_append, HYS.out]
         refine List.IsPrefix.trans ?_ (seqL_prefix d l (i + 1))
         rw [seqL_take hlt, List.append_assoc]
         refine (List.prefix_append_right_inj _).2 ?_
         rw [List.cons_append]
         refine List.cons_prefix_cons.2 ⟨rfl, ?_⟩
         exact ((List.prefix_append_right_inj _).2 hmq.2).trans HP2.out⟩
       have hy0 := HY.out (fun k => O k ∨ ownS B (T + 1) Ds k) (ys ++ pre) x Wq hOall (fun k hk => hk.elim (hOs k) (fun h => hwi.own_lt h)) hmq2 hwi.1
       obtain ⟨yfn, ytmps, yas, ybd, hy, hR⟩ := hy0
       unfold encS at hy
       have HR := aP hR
       have cB := hwi.2.1.cell 0
       simp only [aZ] at cB
       have HLx := aP hmq.1.len
       have HWI := aP hwi
       have HB9 := aP hB9
       clear hR hwi hB9 hOs hmq hmq2
       gi_wp2_with (first | ((with_reducible show wpListIn _ _ _ _ _ (Oper.mk _ (Op.load _ _) _ _ _ _ :: _) _ _); refine wpListIn_load_cells rfl 63 (.tmp 9) rfl B9 rfl _ Tryz.underlying63 rfl HB9.out (by rw [HLx.out]; kernel_rfl) ?_))
       refine ⟨rfl, ?_⟩
       refine HR.out.mono ?_
       clear HR hy cB
       rintro e W6 (⟨rfl, _, hJ6, hk6⟩ | ⟨rfl, hJx6, hk6⟩)
       ·rw [List.append_assoc] at hJ6
        gi_wp2
        exact ⟨trivial, hk6.mono (fun k _ h ho => h (.inl ho)), hJ6, HWI.out.2.1.kept hk6 (fun h => h (.inr (.inl rfl))), HWI.out.2.2.1.kept hk6 (fun h => h (.inr (.inr (.inl rfl)))), HWI.out.2.2.2.1.kept hk6 (fun D hD h => h (.inr (.inr (.inr hD)))), HWI.out.2.2.2.2⟩
       ·rw [List.append_assoc] at hJx6
        gi_wp2
        exact ⟨hk6.mono (fun k _ h ho => h (.inl ho)), rfl, hJx6, HWI.out.2.2.2.1.kept hk6 (fun D hD h => h (.inr (.inr (.inr hD)))), fun D hD => HWI.out.2.2.2.2 D (.inr (.inr hD))⟩
      case hdone =>
       rintro D zs O W8 hD hO hOD hzs hI8 hDd
       have HI8 := aP hI8
       have HDd := aP hDd
       clear hI8 hDd
       gi_wp2
       refine Handed.intro (2 - (j + 1)) kom ?_
       refine hJ8 _ _ _ ⟨j + 1, D :: Ds, ys ++ zs, _, _, _, _, _, _, _, _, _, _, _, _, _, _, _, _, _, _, _, _, _, _, _, _, _, _, _, _, _, _, _, _, ⟨by omega, rfl, HI8.out.2.1, HI8.out.2.2.1, HI8.out.2.2.2.1.cons HDd.out (fun h => HI8.out.2.2.2.2 D (.inr (.inr h)) hOD), ?_, ?_, ?_⟩, rfl⟩
       ·intro E hE
        rcases List.mem_cons.1 hE with rfl | hE
        ·have := hO _ hOD; omega
        ·exact HDB2.out E hE
       ·rw [List.map_append, HYS.out, hzs, HUP.out]
        simp
       ·refine hex _ _ _ _ HI8.out.1 (fun k _ hk => ?_)
        rcases hk with hk | hk | hk
        ·exact .inr (.inl hk)
        ·exact .inr (.inr (.inl hk))
        ·rcases List.mem_cons.1 hk with rfl | hk
         ·exact .inl hOD
         ·exact .inr (.inr (.inr hk))
      case hstop =>
       rintro D c pre O W8 hD hO hOD hSp ⟨rfl, hJx8, hM8, hn8⟩ hDd
       have hOall : ∀ k, (O k ∨ ownS B (T + 1) Ds k) → base ≤ k := fun k hk => hk.elim (fun hk => by have := hO k hk; omega) (hOb2 k)
       have hpart2 : partS d l (ys ++ pre) := by
        show (ys ++ pre).map (·.1) <+: seqL d l
        rw [List.map_append, HYS.out]
        refine List.IsPrefix.trans ?_ (seqL_prefix d l (i + 1))
        rw [seqL_take hlt, List.append_assoc]
        refine (List.prefix_append_right_inj _).2 ?_
        rw [List.cons_append]
        refine List.cons_prefix_cons.2 ⟨rfl, ?_⟩
        exact ((List.prefix_append_right_inj _).2 hSp).trans HP2.out
       have HM9 := aP (hM8.cons hDd (fun h => hn8 D h hOD))
       have HJX := aP hJx8
       clear hM8 hDd hJx8
       gi_wp2
       refine leave_marks (D :: Ds) W8 HM9.out (fun W' hk' => ⟨_, results_none rfl _ _ _, ⟨_, rfl⟩, .inr ⟨_, hpart2, _, hOall, hstx _ _ W8 W' hOall HJX.out (hk'.mono (fun k _ hk => ?_))⟩⟩)
       rcases List.mem_cons.1 hk with rfl | hk
       ·exact .inl hOD
       ·exact .inr (.inr (.inr hk))
     ·have hj : j = 2 := by omega
      have hdj : decide ((j : Int) < 2) = false := by simp; omega
      subst hj
      have hlm := Nat.le_trans hnc hcm
      unfold maxLen at hlm
      have HYS := aP hys
      have HBr := aP hBr
      have HTr := aP hTr
      have HM := aP hM
      have HDB2 := aP hDb
      clear hys hBr hTr hM hDb
      gi_wp2
      refine Handed.intro (l.length - (i + 1)) kom ?_
      refine hJ9 _ _ _ ⟨i + 1, Ds, ys, _, _, _, _, _, _, _, _, _, _, _, _, _, _, _, _, _, _, _, _, _, _, _, _, _, _, _, _, _, _, _, _, _, _, _, ⟨by omega, rfl, HBr.out, HTr.out, HM.out, HDB2.out, ?_, hJr⟩, rfl⟩
      rw [HYS.out, seqL_take hlt]
      rfl
    case atStart8 => exact ⟨Nat.zero_le _, rfl, HBr6.out, HTr6.out, HM6.out, HDB.out, by rw [List.map_append, HXS.out] <;> rfl, hJ6'⟩
  ·have hil : i = l.length := by omega
   have hdl : decide ((i : Int) < (l.length : Int)) = false := by simp; omega
   have HXS := aP hxs
   have HM := aP hM
   have HDB := aP hDb
   clear hxs hBr hTr hM hDb
   gi_wp2
   refine leave_marks Ds wr HM.out (fun W' hk' => ⟨_, results_none rfl _ _ _, ⟨_, rfl⟩, .inl ⟨xs, ?_, _, hOb _ HDB.out, hst _ _ wr W' (hOb _ HDB.out) hJr (hk'.mono (fun k _ hk => .inr (.inr hk)))⟩⟩)
   show xs.map (·.1) = seqL d l
   rw [HXS.out, hil, List.take_length]
 case atStart9 => exact ⟨Nat.zero_le _, rfl, hB, hT1a, MarksAt.nil _, (fun _ h => by cases h), by rw [List.take_zero, seqL] <;> rfl, hJa⟩
end Go.Proofs.YtjkgepppoopheaaGreatDoor
