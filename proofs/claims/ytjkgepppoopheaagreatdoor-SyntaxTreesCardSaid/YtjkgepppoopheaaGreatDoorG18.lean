/- The project's reader of statements and of blocks, as functions of the words (conditions: at most 1000000 words; the variables and the map of forms stand). -/
import Derived.Test.YtjkgepppoopheaaGreatDoorG1
import Derived.Test.YtjkgepppoopheaaGreatDoorG17
namespace Go.Proofs.YtjkgepppoopheaaGreatDoor
open Go.RowKit Go.Shelf

/-- Block M is a map with these keys, in this order. -/
def FMap (W : World) (M : Nat) (l : List (ByteArray × Value)) : Prop :=
  ∃ es clock, W.heap[M]? = some (.map es clock) ∧ es.toList.map (fun e => (e.key, e.val)) = l.map fun p => (Value.string p.1, p.2)

theorem FMap.lt {W : World} {M : Nat} {l : List (ByteArray × Value)} (h : FMap W M l) : M < W.heap.size := by
  obtain ⟨es, c, h1, _⟩ := h
  exact (Array.getElem?_eq_some_iff.1 h1).1
theorem FMap.kept {X : Nat → Prop} {W W' : World} {M : Nat} {l : List (ByteArray × Value)} (h : FMap W M l) (hk : Kept X W W') (hx : ¬ X M) : FMap W' M l := by
  obtain ⟨es, c, h1, h2⟩ := h
  exact ⟨es, c, hk.heap h1 hx, h2⟩
theorem FMap.made (W : World) : FMap (W.alloc (.map #[] 0)) W.heap.size [] := ⟨#[], 0, World.alloc_heap_new W _, rfl⟩

section
variable {P : Program} {T K E : TypeId}

theorem ba_beq (a b : ByteArray) : (a == b) = decide (a = b) := by
  cases a with | mk a =>
  cases b with | mk b =>
  show (a == b) = _
  by_cases h : a = b
  · subst h; simp
  · rw [decide_eq_false (fun hh => h (ByteArray.mk.inj hh))]
    simpa using h

def lookV (l : List (ByteArray × Value)) (s : ByteArray) : Option Value := (l.find? fun p => decide (p.1 = s)).map (·.2)

theorem findNow_string (s : ByteArray) : ∀ (es : List MapEntry) (l : List (ByteArray × Value)) (i : Nat), es.map (fun e => (e.key, e.val)) = (l.map fun p => (Value.string p.1, p.2)) →
    ∃ r, Instr.findNow .string (.string s) es i = some r ∧ r.map (·.2) = lookV l s := by
  intro es
  induction es with
  | nil =>
    intro l i h
    cases l with
    | nil => exact ⟨none, rfl, rfl⟩
    | cons p l => simp at h
  | cons e es ih =>
    intro l i h
    cases l with
    | nil => simp at h
    | cons p l =>
      simp only [List.map_cons, List.cons.injEq, Prod.mk.injEq] at h
      obtain ⟨⟨hk, hv⟩, hr⟩ := h
      obtain ⟨r, h1, h2⟩ := ih l (i + 1) hr
      unfold Instr.findNow
      rw [hk]
      by_cases hs : p.1 = s
      · subst hs
        refine ⟨some (i, e.val), by simp [Instr.sameNow, ba_beq], ?_⟩
        simp [lookV, hv]
      · have hne : (s == p.1) = false := by rw [ba_beq]; exact decide_eq_false (fun h => hs h.symm)
        refine ⟨r, by simp only [Instr.sameNow, hne]; exact h1, ?_⟩
        rw [h2]
        simp [lookV, hs]

theorem run_check_string (W : World) (b : Bool) (s : ByteArray) (hk : P.underlying K = some .string) : (Instr.checkKey b 10000 K (.string s)).run P W = .ok () W := by
  unfold Instr.checkKey
  rw [Sem.run_bind, run_underlying hk]
  rfl

theorem run_flook {W : World} {M : Nat} {l : List (ByteArray × Value)} (h : FMap W M l) (s : ByteArray) (ht : P.underlying T = some (.map K E)) (hk : P.underlying K = some .string) {z : Value} (hz : (zeroValue E).run P W = .ok z W) :
    (Instr.lookup T (.map (some M)) (.string s) false).run P W = .ok ((lookV l s).getD z) W := by
  obtain ⟨es, c, h1, h2⟩ := h
  obtain ⟨r, h3, h4⟩ := findNow_string s es.toList l 0 h2
  have hg : (getObj M).run P W = .ok (.map es c) W := by simp [getObj, Sem.run, h1]
  have hf : (Instr.findKey K (.string s) es.toList).run P W = .ok r W := by
    unfold Instr.findKey
    rw [Sem.run_bind, run_underlying hk, Result.andThen_ok, h3]
    rfl
  unfold Instr.lookup
  rw [Sem.run_bind, run_underlying ht, Result.andThen_ok]
  simp only [Sem.run_bind, hg, Result.andThen_ok, Sem.run_pure, run_check_string W _ s hk, hf]
  cases r with
  | none => simp only [Sem.run_bind, hz, Result.andThen_ok, Sem.run_pure]; rw [← h4]; rfl
  | some q => rw [← h4]; rfl

theorem run_fput {W : World} {M : Nat} {l : List (ByteArray × Value)} (h : FMap W M l) (s : ByteArray) (v : Value) (hs : lookV l s = none) (ht : P.underlying T = some (.map K E)) (hk : P.underlying K = some .string) :
    ∃ W', (Instr.mapUpdate T (.map (some M)) (.string s) v).run P W = .ok () W' ∧ FMap W' M (l ++ [(s, v)]) ∧ Kept (· = M) W W' := by
  obtain ⟨es, c, h1, h2⟩ := h
  obtain ⟨r, h3, h4⟩ := findNow_string s es.toList l 0 h2
  rw [hs] at h4
  have hr : r = none := by cases r with | none => rfl | some q => simp at h4
  subst hr
  have hM : M < W.heap.size := (Array.getElem?_eq_some_iff.1 h1).1
  have hg : (getObj M).run P W = .ok (.map es c) W := by simp [getObj, Sem.run, h1]
  have hf : (Instr.findKey K (.string s) es.toList).run P W = .ok none W := by
    unfold Instr.findKey
    rw [Sem.run_bind, run_underlying hk, Result.andThen_ok, h3]
    rfl
  have hset : (setObj M (.map (es.push { key := .string s, val := v, born := c }) (c + 1))).run P W = .ok () (W.putObj M (.map (es.push { key := .string s, val := v, born := c }) (c + 1))) := by
    simp [setObj, Sem.run, h1, World.putObj]
  refine ⟨W.putObj M (.map (es.push { key := .string s, val := v, born := c }) (c + 1)), ?_, ⟨_, _, World.putObj_heap_same hM, ?_⟩, Kept.putObj (X := (· = M)) (Kept.refl _ W) (fun _ => by rfl) _⟩
  · unfold Instr.mapUpdate
    rw [Sem.run_bind, run_underlying ht, Result.andThen_ok]
    simp only [Sem.run_bind, hg, Result.andThen_ok, run_check_string W _ s hk, hf, hset]
  · rw [Array.toList_push, List.map_append, h2]
    simp

theorem wpList_fput {ops : Array Oper} {rest : List Oper} {o : Oper} {a : Act} {w : World} {Q : Exit → Act → World → Prop} (hgd : o.guard = none) (hds : o.dst = none) (m x y : Operand) (ho : o.op = .insert T m x y)
    {M : Nat} (hm : a.eval m = .map (some M)) {s : ByteArray} (hx : a.eval x = .string s) {l : List (ByteArray × Value)} (h : FMap w M l) (hs : lookV l s = none) (ht : P.underlying T = some (.map K E)) (hk : P.underlying K = some .string)
    (hn : ∀ W', FMap W' M (l ++ [(s, a.eval y)]) → Kept (· = M) w W' → wpList P ops Q rest a W') : wpList P ops Q (o :: rest) a w :=
  wpList_plain hgd fun _ hK => by
    obtain ⟨W', h1, h2, h3⟩ := run_fput (P := P) h s (a.eval y) hs ht hk
    unfold Oper.wp execOp
    simp only [ho, hm, hx, h1, Sem.run_bind, Sem.run_pure, Result.andThen_ok]
    have e : a.put o.dst undef = a := by rw [hds]; rfl
    rw [Oper.upon_skip, e]
    exact hK _ _ (hn W' h2 h3)
end
end Go.Proofs.YtjkgepppoopheaaGreatDoor

namespace Go.Proofs.YtjkgepppoopheaaGreatDoor
open Go.RowKit Go.Shelf

/-- Blocks that hold a number each. -/
def Boxes (W : World) (l : List (Nat × Int)) : Prop := ∀ p ∈ l, W.cell? ⟨p.1, 0, none⟩ = some (.int .i64 p.2)
theorem Boxes.kept {X : Nat → Prop} {W W' : World} {l : List (Nat × Int)} (h : Boxes W l) (hk : Kept X W W') (hx : ∀ p ∈ l, ¬ X p.1) : Boxes W' l := fun p hp => by
  rw [← h p hp]
  exact World.cell?_of_block (hk.block _ (block_lt_of (h p hp)) (hx p hp))

set_option maxRecDepth 100000 in
set_option maxHeartbeats 1000000 in
theorem naming_makes (q : Int) (w : World) : Calls Tryz.prog 72 #[.int .i64 q] w fun e w' => e = .returned (.func (.func 130) #[] #[.pointer (some ⟨w.heap.size, 0, none⟩)]) ∧ Cells w' w.heap.size 61 [.int .i64 q] ∧ Kept noX w w' := by
  have hmf : ∀ (fn : Fn) (first cap : Array Value) (w : World), (Instr.makeFunc fn first cap).run Tryz.prog w = .ok (.func fn first cap) w := fun _ _ _ _ => rfl
  go_enter Tryz.func72, Tryz.ntmps72
  go_wp2
  go_ret
  exact ⟨rfl, Cells.fresh w 61 _, (Kept.refl _ _).alloc _⟩
set_option maxRecDepth 100000 in
set_option maxHeartbeats 1000000 in
theorem namingTwo_makes (q : Int) (w : World) : Calls Tryz.prog 73 #[.int .i64 q] w fun e w' => e = .returned (.func (.func 131) #[] #[.pointer (some ⟨w.heap.size, 0, none⟩)]) ∧ Cells w' w.heap.size 61 [.int .i64 q] ∧ Kept noX w w' := by
  have hmf : ∀ (fn : Fn) (first cap : Array Value) (w : World), (Instr.makeFunc fn first cap).run Tryz.prog w = .ok (.func fn first cap) w := fun _ _ _ _ => rfl
  go_enter Tryz.func73, Tryz.ntmps73
  go_wp2
  go_ret
  exact ⟨rfl, Cells.fresh w 61 _, (Kept.refl _ _).alloc _⟩

def kLet : ByteArray := ⟨#[108, 101, 116]⟩
def kIf : ByteArray := ⟨#[105, 102]⟩
def kWhile : ByteArray := ⟨#[119, 104, 105, 108, 101]⟩
def kLock : ByteArray := ⟨#[108, 111, 99, 107]⟩
def kUnlock : ByteArray := ⟨#[117, 110, 108, 111, 99, 107]⟩
def kWait : ByteArray := ⟨#[119, 97, 105, 116]⟩
def kSignal : ByteArray := ⟨#[115, 105, 103, 110, 97, 108]⟩
def kAll : ByteArray := ⟨#[97, 108, 108]⟩
def kSend : ByteArray := ⟨#[115, 101, 110, 100]⟩
def kRecv : ByteArray := ⟨#[114, 101, 99, 118]⟩
def kSpawn : ByteArray := ⟨#[115, 112, 97, 119, 110]⟩
def kJoin : ByteArray := ⟨#[106, 111, 105, 110]⟩
def kPrint : ByteArray := ⟨#[112, 114, 105, 110, 116]⟩

def nameV (b : Nat) : Value := .func (.func 130) #[] #[.pointer (some ⟨b, 0, none⟩)]
def nameTwoV (b : Nat) : Value := .func (.func 131) #[] #[.pointer (some ⟨b, 0, none⟩)]
def fnV (f : Nat) : Value := .func (.func f) #[] #[]
/-- The map's keys and values, where these blocks hold the kinds. -/
def formsV (c : Nat → Nat) : List (ByteArray × Value) :=
  [(kLet, fnV 69), (kIf, fnV 70), (kWhile, fnV 71), (kLock, nameV (c 0)), (kUnlock, nameV (c 1)), (kWait, nameTwoV (c 2)), (kSignal, nameV (c 3)), (kAll, nameV (c 4)), (kSend, fnV 74), (kRecv, nameTwoV (c 5)), (kSpawn, nameV (c 6)), (kJoin, fnV 75), (kPrint, fnV 76)]
def boxesL (c : Nat → Nat) : List (Nat × Int) := [(c 0, 6), (c 1, 7), (c 2, 8), (c 3, 9), (c 4, 10), (c 5, 12), (c 6, 13)]

structure FormsAt (W : World) (M : Nat) (c : Nat → Nat) : Prop where
  map : FMap W M (formsV c)
  boxes : Boxes W (boxesL c)

set_option maxRecDepth 100000 in
set_option maxHeartbeats 1000000 in
theorem forms_calls (w : World) : Calls Tryz.prog 37 #[] w fun e w' => ∃ M c, e = .returned (.map (some M)) ∧ FormsAt w' M c ∧ w.heap.size ≤ M ∧ (∀ p ∈ boxesL c, w.heap.size ≤ p.1) ∧ Kept noX w w' := by
  have hmm := @run_makeMap Tryz.prog
  go_enter Tryz.func37, Tryz.ntmps37
  obtain ⟨W0, hW0⟩ : ∃ W0, w.alloc (.map #[] 0) = W0 := ⟨_, rfl⟩
  have hf0 : FMap W0 w.heap.size [] := by rw [← hW0]; exact FMap.made w
  have hk0 : Kept noX w W0 := by rw [← hW0]; exact (Kept.refl _ _).alloc _
  have hs0 := hf0.lt
  have HF0 := Lib.hid hf0
  clear hf0
  have hmm0 : (Instr.makeMap 77 none).run Tryz.prog w = .ok (.map (some w.heap.size)) W0 := by rw [← hW0]; exact hmm _ _
  clear hmm hW0
  go_wp2_with (first | ((with_reducible show wpList _ _ _ (Oper.mk none (Op.insert _ _ _ _) _ _ _ _ :: _) _ _); refine wpList_fput rfl rfl (.tmp 1) (.const (.string ⟨#[108, 101, 116]⟩)) (.func 69) rfl (M := w.heap.size) rfl rfl HF0.out (by simp [lookV]) Tryz.underlying77 Tryz.underlying9 ?_; intro W1 hf1 hk1; have hs1 := hk1.size; have HF1 := Lib.hid (show FMap W1 w.heap.size [(⟨#[108, 101, 116]⟩, fnV 69)] from hf1); clear hf1) | ((with_reducible show wpList _ _ _ (Oper.mk none (Op.insert _ _ _ _) _ _ _ _ :: _) _ _); refine wpList_fput rfl rfl (.tmp 1) (.const (.string ⟨#[105, 102]⟩)) (.func 70) rfl (M := w.heap.size) rfl rfl HF1.out (by simp [lookV]) Tryz.underlying77 Tryz.underlying9 ?_; intro W2 hf2 hk2; have hs2 := hk2.size; have HF2 := Lib.hid (show FMap W2 w.heap.size [(⟨#[108, 101, 116]⟩, fnV 69), (⟨#[105, 102]⟩, fnV 70)] from hf2); clear hf2) | ((with_reducible show wpList _ _ _ (Oper.mk none (Op.insert _ _ _ _) _ _ _ _ :: _) _ _); refine wpList_fput rfl rfl (.tmp 1) (.const (.string ⟨#[119, 104, 105, 108, 101]⟩)) (.func 71) rfl (M := w.heap.size) rfl rfl HF2.out (by simp [lookV]) Tryz.underlying77 Tryz.underlying9 ?_; intro W3 hf3 hk3; have hs3 := hk3.size; have HF3 := Lib.hid (show FMap W3 w.heap.size [(⟨#[108, 101, 116]⟩, fnV 69), (⟨#[105, 102]⟩, fnV 70), (⟨#[119, 104, 105, 108, 101]⟩, fnV 71)] from hf3); clear hf3) | (go_at_call_of 72 (Value.int IntKind.i64 6); refine (naming_makes 6 W3).mono ?_; rintro e W4 ⟨rfl, hcn, hk4⟩; have hs4 := hk4.size; have hf4 := HF3.out.kept hk4 (fun h => h); have HF4 := Lib.hid hf4; have HC4 := Lib.hid hcn; have hl4 := hcn.lt; clear hf4 hcn) | ((with_reducible show wpList _ _ _ (Oper.mk none (Op.insert _ _ _ _) _ _ _ _ :: _) _ _); refine wpList_fput rfl rfl (.tmp 1) (.const (.string ⟨#[108, 111, 99, 107]⟩)) (.tmp 2) rfl (M := w.heap.size) rfl rfl HF4.out (by simp [lookV]) Tryz.underlying77 Tryz.underlying9 ?_; intro W5 hf5 hk5; have hs5 := hk5.size; have HF5 := Lib.hid (show FMap W5 w.heap.size [(⟨#[108, 101, 116]⟩, fnV 69), (⟨#[105, 102]⟩, fnV 70), (⟨#[119, 104, 105, 108, 101]⟩, fnV 71), (⟨#[108, 111, 99, 107]⟩, nameV W3.heap.size)] from hf5); clear hf5) | (go_at_call_of 72 (Value.int IntKind.i64 7); refine (naming_makes 7 W5).mono ?_; rintro e W6 ⟨rfl, hcn, hk6⟩; have hs6 := hk6.size; have hf6 := HF5.out.kept hk6 (fun h => h); have HF6 := Lib.hid hf6; have HC6 := Lib.hid hcn; have hl6 := hcn.lt; clear hf6 hcn) | ((with_reducible show wpList _ _ _ (Oper.mk none (Op.insert _ _ _ _) _ _ _ _ :: _) _ _); refine wpList_fput rfl rfl (.tmp 1) (.const (.string ⟨#[117, 110, 108, 111, 99, 107]⟩)) (.tmp 3) rfl (M := w.heap.size) rfl rfl HF6.out (by simp [lookV]) Tryz.underlying77 Tryz.underlying9 ?_; intro W7 hf7 hk7; have hs7 := hk7.size; have HF7 := Lib.hid (show FMap W7 w.heap.size [(⟨#[108, 101, 116]⟩, fnV 69), (⟨#[105, 102]⟩, fnV 70), (⟨#[119, 104, 105, 108, 101]⟩, fnV 71), (⟨#[108, 111, 99, 107]⟩, nameV W3.heap.size), (⟨#[117, 110, 108, 111, 99, 107]⟩, nameV W5.heap.size)] from hf7); clear hf7) | (go_at_call_of 73 (Value.int IntKind.i64 8); refine (namingTwo_makes 8 W7).mono ?_; rintro e W8 ⟨rfl, hcn, hk8⟩; have hs8 := hk8.size; have hf8 := HF7.out.kept hk8 (fun h => h); have HF8 := Lib.hid hf8; have HC8 := Lib.hid hcn; have hl8 := hcn.lt; clear hf8 hcn) | ((with_reducible show wpList _ _ _ (Oper.mk none (Op.insert _ _ _ _) _ _ _ _ :: _) _ _); refine wpList_fput rfl rfl (.tmp 1) (.const (.string ⟨#[119, 97, 105, 116]⟩)) (.tmp 4) rfl (M := w.heap.size) rfl rfl HF8.out (by simp [lookV]) Tryz.underlying77 Tryz.underlying9 ?_; intro W9 hf9 hk9; have hs9 := hk9.size; have HF9 := Lib.hid (show FMap W9 w.heap.size [(⟨#[108, 101, 116]⟩, fnV 69), (⟨#[105, 102]⟩, fnV 70), (⟨#[119, 104, 105, 108, 101]⟩, fnV 71), (⟨#[108, 111, 99, 107]⟩, nameV W3.heap.size), (⟨#[117, 110, 108, 111, 99, 107]⟩, nameV W5.heap.size), (⟨#[119, 97, 105, 116]⟩, nameTwoV W7.heap.size)] from hf9); clear hf9) | (go_at_call_of 72 (Value.int IntKind.i64 9); refine (naming_makes 9 W9).mono ?_; rintro e W10 ⟨rfl, hcn, hk10⟩; have hs10 := hk10.size; have hf10 := HF9.out.kept hk10 (fun h => h); have HF10 := Lib.hid hf10; have HC10 := Lib.hid hcn; have hl10 := hcn.lt; clear hf10 hcn) | ((with_reducible show wpList _ _ _ (Oper.mk none (Op.insert _ _ _ _) _ _ _ _ :: _) _ _); refine wpList_fput rfl rfl (.tmp 1) (.const (.string ⟨#[115, 105, 103, 110, 97, 108]⟩)) (.tmp 5) rfl (M := w.heap.size) rfl rfl HF10.out (by simp [lookV]) Tryz.underlying77 Tryz.underlying9 ?_; intro W11 hf11 hk11; have hs11 := hk11.size; have HF11 := Lib.hid (show FMap W11 w.heap.size [(⟨#[108, 101, 116]⟩, fnV 69), (⟨#[105, 102]⟩, fnV 70), (⟨#[119, 104, 105, 108, 101]⟩, fnV 71), (⟨#[108, 111, 99, 107]⟩, nameV W3.heap.size), (⟨#[117, 110, 108, 111, 99, 107]⟩, nameV W5.heap.size), (⟨#[119, 97, 105, 116]⟩, nameTwoV W7.heap.size), (⟨#[115, 105, 103, 110, 97, 108]⟩, nameV W9.heap.size)] from hf11); clear hf11) | (go_at_call_of 72 (Value.int IntKind.i64 10); refine (naming_makes 10 W11).mono ?_; rintro e W12 ⟨rfl, hcn, hk12⟩; have hs12 := hk12.size; have hf12 := HF11.out.kept hk12 (fun h => h); have HF12 := Lib.hid hf12; have HC12 := Lib.hid hcn; have hl12 := hcn.lt; clear hf12 hcn) | ((with_reducible show wpList _ _ _ (Oper.mk none (Op.insert _ _ _ _) _ _ _ _ :: _) _ _); refine wpList_fput rfl rfl (.tmp 1) (.const (.string ⟨#[97, 108, 108]⟩)) (.tmp 6) rfl (M := w.heap.size) rfl rfl HF12.out (by simp [lookV]) Tryz.underlying77 Tryz.underlying9 ?_; intro W13 hf13 hk13; have hs13 := hk13.size; have HF13 := Lib.hid (show FMap W13 w.heap.size [(⟨#[108, 101, 116]⟩, fnV 69), (⟨#[105, 102]⟩, fnV 70), (⟨#[119, 104, 105, 108, 101]⟩, fnV 71), (⟨#[108, 111, 99, 107]⟩, nameV W3.heap.size), (⟨#[117, 110, 108, 111, 99, 107]⟩, nameV W5.heap.size), (⟨#[119, 97, 105, 116]⟩, nameTwoV W7.heap.size), (⟨#[115, 105, 103, 110, 97, 108]⟩, nameV W9.heap.size), (⟨#[97, 108, 108]⟩, nameV W11.heap.size)] from hf13); clear hf13) | ((with_reducible show wpList _ _ _ (Oper.mk none (Op.insert _ _ _ _) _ _ _ _ :: _) _ _); refine wpList_fput rfl rfl (.tmp 1) (.const (.string ⟨#[115, 101, 110, 100]⟩)) (.func 74) rfl (M := w.heap.size) rfl rfl HF13.out (by simp [lookV]) Tryz.underlying77 Tryz.underlying9 ?_; intro W14 hf14 hk14; have hs14 := hk14.size; have HF14 := Lib.hid (show FMap W14 w.heap.size [(⟨#[108, 101, 116]⟩, fnV 69), (⟨#[105, 102]⟩, fnV 70), (⟨#[119, 104, 105, 108, 101]⟩, fnV 71), (⟨#[108, 111, 99, 107]⟩, nameV W3.heap.size), (⟨#[117, 110, 108, 111, 99, 107]⟩, nameV W5.heap.size), (⟨#[119, 97, 105, 116]⟩, nameTwoV W7.heap.size), (⟨#[115, 105, 103, 110, 97, 108]⟩, nameV W9.heap.size), (⟨#[97, 108, 108]⟩, nameV W11.heap.size), (⟨#[115, 101, 110, 100]⟩, fnV 74)] from hf14); clear hf14) | (go_at_call_of 73 (Value.int IntKind.i64 12); refine (namingTwo_makes 12 W14).mono ?_; rintro e W15 ⟨rfl, hcn, hk15⟩; have hs15 := hk15.size; have hf15 := HF14.out.kept hk15 (fun h => h); have HF15 := Lib.hid hf15; have HC15 := Lib.hid hcn; have hl15 := hcn.lt; clear hf15 hcn) | ((with_reducible show wpList _ _ _ (Oper.mk none (Op.insert _ _ _ _) _ _ _ _ :: _) _ _); refine wpList_fput rfl rfl (.tmp 1) (.const (.string ⟨#[114, 101, 99, 118]⟩)) (.tmp 7) rfl (M := w.heap.size) rfl rfl HF15.out (by simp [lookV]) Tryz.underlying77 Tryz.underlying9 ?_; intro W16 hf16 hk16; have hs16 := hk16.size; have HF16 := Lib.hid (show FMap W16 w.heap.size [(⟨#[108, 101, 116]⟩, fnV 69), (⟨#[105, 102]⟩, fnV 70), (⟨#[119, 104, 105, 108, 101]⟩, fnV 71), (⟨#[108, 111, 99, 107]⟩, nameV W3.heap.size), (⟨#[117, 110, 108, 111, 99, 107]⟩, nameV W5.heap.size), (⟨#[119, 97, 105, 116]⟩, nameTwoV W7.heap.size), (⟨#[115, 105, 103, 110, 97, 108]⟩, nameV W9.heap.size), (⟨#[97, 108, 108]⟩, nameV W11.heap.size), (⟨#[115, 101, 110, 100]⟩, fnV 74), (⟨#[114, 101, 99, 118]⟩, nameTwoV W14.heap.size)] from hf16); clear hf16) | (go_at_call_of 72 (Value.int IntKind.i64 13); refine (naming_makes 13 W16).mono ?_; rintro e W17 ⟨rfl, hcn, hk17⟩; have hs17 := hk17.size; have hf17 := HF16.out.kept hk17 (fun h => h); have HF17 := Lib.hid hf17; have HC17 := Lib.hid hcn; have hl17 := hcn.lt; clear hf17 hcn) | ((with_reducible show wpList _ _ _ (Oper.mk none (Op.insert _ _ _ _) _ _ _ _ :: _) _ _); refine wpList_fput rfl rfl (.tmp 1) (.const (.string ⟨#[115, 112, 97, 119, 110]⟩)) (.tmp 8) rfl (M := w.heap.size) rfl rfl HF17.out (by simp [lookV]) Tryz.underlying77 Tryz.underlying9 ?_; intro W18 hf18 hk18; have hs18 := hk18.size; have HF18 := Lib.hid (show FMap W18 w.heap.size [(⟨#[108, 101, 116]⟩, fnV 69), (⟨#[105, 102]⟩, fnV 70), (⟨#[119, 104, 105, 108, 101]⟩, fnV 71), (⟨#[108, 111, 99, 107]⟩, nameV W3.heap.size), (⟨#[117, 110, 108, 111, 99, 107]⟩, nameV W5.heap.size), (⟨#[119, 97, 105, 116]⟩, nameTwoV W7.heap.size), (⟨#[115, 105, 103, 110, 97, 108]⟩, nameV W9.heap.size), (⟨#[97, 108, 108]⟩, nameV W11.heap.size), (⟨#[115, 101, 110, 100]⟩, fnV 74), (⟨#[114, 101, 99, 118]⟩, nameTwoV W14.heap.size), (⟨#[115, 112, 97, 119, 110]⟩, nameV W16.heap.size)] from hf18); clear hf18) | ((with_reducible show wpList _ _ _ (Oper.mk none (Op.insert _ _ _ _) _ _ _ _ :: _) _ _); refine wpList_fput rfl rfl (.tmp 1) (.const (.string ⟨#[106, 111, 105, 110]⟩)) (.func 75) rfl (M := w.heap.size) rfl rfl HF18.out (by simp [lookV]) Tryz.underlying77 Tryz.underlying9 ?_; intro W19 hf19 hk19; have hs19 := hk19.size; have HF19 := Lib.hid (show FMap W19 w.heap.size [(⟨#[108, 101, 116]⟩, fnV 69), (⟨#[105, 102]⟩, fnV 70), (⟨#[119, 104, 105, 108, 101]⟩, fnV 71), (⟨#[108, 111, 99, 107]⟩, nameV W3.heap.size), (⟨#[117, 110, 108, 111, 99, 107]⟩, nameV W5.heap.size), (⟨#[119, 97, 105, 116]⟩, nameTwoV W7.heap.size), (⟨#[115, 105, 103, 110, 97, 108]⟩, nameV W9.heap.size), (⟨#[97, 108, 108]⟩, nameV W11.heap.size), (⟨#[115, 101, 110, 100]⟩, fnV 74), (⟨#[114, 101, 99, 118]⟩, nameTwoV W14.heap.size), (⟨#[115, 112, 97, 119, 110]⟩, nameV W16.heap.size), (⟨#[106, 111, 105, 110]⟩, fnV 75)] from hf19); clear hf19) | ((with_reducible show wpList _ _ _ (Oper.mk none (Op.insert _ _ _ _) _ _ _ _ :: _) _ _); refine wpList_fput rfl rfl (.tmp 1) (.const (.string ⟨#[112, 114, 105, 110, 116]⟩)) (.func 76) rfl (M := w.heap.size) rfl rfl HF19.out (by simp [lookV]) Tryz.underlying77 Tryz.underlying9 ?_; intro W20 hf20 hk20; have hs20 := hk20.size; have HF20 := Lib.hid (show FMap W20 w.heap.size [(⟨#[108, 101, 116]⟩, fnV 69), (⟨#[105, 102]⟩, fnV 70), (⟨#[119, 104, 105, 108, 101]⟩, fnV 71), (⟨#[108, 111, 99, 107]⟩, nameV W3.heap.size), (⟨#[117, 110, 108, 111, 99, 107]⟩, nameV W5.heap.size), (⟨#[119, 97, 105, 116]⟩, nameTwoV W7.heap.size), (⟨#[115, 105, 103, 110, 97, 108]⟩, nameV W9.heap.size), (⟨#[97, 108, 108]⟩, nameV W11.heap.size), (⟨#[115, 101, 110, 100]⟩, fnV 74), (⟨#[114, 101, 99, 118]⟩, nameTwoV W14.heap.size), (⟨#[115, 112, 97, 119, 110]⟩, nameV W16.heap.size), (⟨#[106, 111, 105, 110]⟩, fnV 75), (⟨#[112, 114, 105, 110, 116]⟩, fnV 76)] from hf20); clear hf20))

  go_ret
  refine ⟨w.heap.size, fun i => if i = 0 then W3.heap.size else if i = 1 then W5.heap.size else if i = 2 then W7.heap.size else if i = 3 then W9.heap.size else if i = 4 then W11.heap.size else if i = 5 then W14.heap.size else if i = 6 then W16.heap.size else 0, rfl, ⟨HF20.out, ?_⟩, Nat.le_refl _, ?_, ?_⟩
  · intro p hp
    simp only [boxesL, List.mem_cons, List.not_mem_nil, or_false] at hp
    rcases hp with rfl | rfl | rfl | rfl | rfl | rfl | rfl
    · exact (show Cells W20 W3.heap.size 61 [.int .i64 6] from (by repeat (first | (with_reducible exact HC4.out) | (with_reducible refine Cells.alloc ?_ _) | (with_reducible refine Cells.drew ?_) | (with_reducible refine Cells.drewN ?_ _) | (with_reducible refine Cells.keep ?_ (by assumption)) | (with_reducible refine Cells.kept ?_ (by assumption) (by omega)) | (with_reducible refine Cells.far ?_ (by dsimp only; omega) _)))).cell 0
    · exact (show Cells W20 W5.heap.size 61 [.int .i64 7] from (by repeat (first | (with_reducible exact HC6.out) | (with_reducible refine Cells.alloc ?_ _) | (with_reducible refine Cells.drew ?_) | (with_reducible refine Cells.drewN ?_ _) | (with_reducible refine Cells.keep ?_ (by assumption)) | (with_reducible refine Cells.kept ?_ (by assumption) (by omega)) | (with_reducible refine Cells.far ?_ (by dsimp only; omega) _)))).cell 0
    · exact (show Cells W20 W7.heap.size 61 [.int .i64 8] from (by repeat (first | (with_reducible exact HC8.out) | (with_reducible refine Cells.alloc ?_ _) | (with_reducible refine Cells.drew ?_) | (with_reducible refine Cells.drewN ?_ _) | (with_reducible refine Cells.keep ?_ (by assumption)) | (with_reducible refine Cells.kept ?_ (by assumption) (by omega)) | (with_reducible refine Cells.far ?_ (by dsimp only; omega) _)))).cell 0
    · exact (show Cells W20 W9.heap.size 61 [.int .i64 9] from (by repeat (first | (with_reducible exact HC10.out) | (with_reducible refine Cells.alloc ?_ _) | (with_reducible refine Cells.drew ?_) | (with_reducible refine Cells.drewN ?_ _) | (with_reducible refine Cells.keep ?_ (by assumption)) | (with_reducible refine Cells.kept ?_ (by assumption) (by omega)) | (with_reducible refine Cells.far ?_ (by dsimp only; omega) _)))).cell 0
    · exact (show Cells W20 W11.heap.size 61 [.int .i64 10] from (by repeat (first | (with_reducible exact HC12.out) | (with_reducible refine Cells.alloc ?_ _) | (with_reducible refine Cells.drew ?_) | (with_reducible refine Cells.drewN ?_ _) | (with_reducible refine Cells.keep ?_ (by assumption)) | (with_reducible refine Cells.kept ?_ (by assumption) (by omega)) | (with_reducible refine Cells.far ?_ (by dsimp only; omega) _)))).cell 0
    · exact (show Cells W20 W14.heap.size 61 [.int .i64 12] from (by repeat (first | (with_reducible exact HC15.out) | (with_reducible refine Cells.alloc ?_ _) | (with_reducible refine Cells.drew ?_) | (with_reducible refine Cells.drewN ?_ _) | (with_reducible refine Cells.keep ?_ (by assumption)) | (with_reducible refine Cells.kept ?_ (by assumption) (by omega)) | (with_reducible refine Cells.far ?_ (by dsimp only; omega) _)))).cell 0
    · exact (show Cells W20 W16.heap.size 61 [.int .i64 13] from (by repeat (first | (with_reducible exact HC17.out) | (with_reducible refine Cells.alloc ?_ _) | (with_reducible refine Cells.drew ?_) | (with_reducible refine Cells.drewN ?_ _) | (with_reducible refine Cells.keep ?_ (by assumption)) | (with_reducible refine Cells.kept ?_ (by assumption) (by omega)) | (with_reducible refine Cells.far ?_ (by dsimp only; omega) _)))).cell 0
  · intro p hp
    simp only [boxesL, List.mem_cons, List.not_mem_nil, or_false] at hp
    rcases hp with rfl | rfl | rfl | rfl | rfl | rfl | rfl
    all_goals (simp; omega)
  · exact (show Kept (fun g => g = w.heap.size) w W20 from (by repeat (first | assumption | (with_reducible exact Kept.refl _ _) | (with_reducible refine Kept.alloc ?_ _) | (with_reducible refine Kept.drew ?_) | (with_reducible refine Kept.drewN ?_ _) | (with_reducible refine Kept.setCell ?_ ?_ _) | (with_reducible refine Kept.trans ?_ (by assumption)) | (with_reducible refine Kept.trans ?_ (Kept.any (by assumption))) | (with_reducible refine Kept.own ?_ (by assumption) (by omega)) | (intro hxx; first | rfl | ((try dsimp only at hxx ⊢); omega))))).mono_new
end Go.Proofs.YtjkgepppoopheaaGreatDoor

namespace Go.Proofs.YtjkgepppoopheaaGreatDoor
open Go.RowKit Go.Shelf

def atS (li co : Int) : ST → ST
  | .node k _ _ s t e x b l i sl ot lo => .node k li co s t e x b l i sl ot lo

section
variable (S : Src)
def formsL (B : Nat → Except Nat (List ST × Nat)) : List (ByteArray × (Nat → Except Nat (ST × Nat))) :=
  [(kLet, letS S), (kIf, choiceS S B), (kWhile, loopS S B), (kLock, namingS S 6), (kUnlock, namingS S 7), (kWait, namingTwoS S 8), (kSignal, namingS S 9), (kAll, namingS S 10), (kSend, sendS S), (kRecv, namingTwoS S 12), (kSpawn, namingS S 13), (kJoin, joinS S), (kPrint, printS S)]
def formS (B : Nat → Except Nat (List ST × Nat)) (t : ByteArray) : Option (Nat → Except Nat (ST × Nat)) := ((formsL S B).find? fun p => decide (p.1 = t)).map (·.2)
mutual
/-- The first number bounds the calls still to come. -/
def stmtS : Nat → Nat → Except Nat (ST × Nat)
  | 0, k => .error k
  | f + 1, k =>
    if kindB S k 3 then
      match formS S (blockS f) (S.tok k).text with
      | some r => thn (r (k + 1)) fun s k' => .ok (atS (S.tok k).line (S.tok k).col s, k')
      | none => .error k
    else thn (assignS S k) fun s k' => .ok (atS (S.tok k).line (S.tok k).col s, k')
def blockS : Nat → Nat → Except Nat (List ST × Nat)
  | 0, k => .error k
  | f + 1, k => thn (wantS S k ⟨#[123]⟩) fun _ k => restS f k
def restS : Nat → Nat → Except Nat (List ST × Nat)
  | 0, k => .error k
  | f + 1, k =>
    if takeB S k ⟨#[125]⟩ then .ok ([], k + 1)
    else thn (stmtS f k) fun s k => thn (restS f k) fun l k => .ok (s :: l, k)
end
end

/-- The keywords of declarations, by kind, stand in their variable. -/
def declL : List ByteArray := [⟨#[]⟩, ⟨#[118, 97, 114]⟩, ⟨#[97, 114, 114, 97, 121]⟩, ⟨#[109, 117, 116, 101, 120]⟩, ⟨#[99, 111, 110, 100]⟩, ⟨#[99, 104, 97, 110]⟩, ⟨#[116, 104, 114, 101, 97, 100]⟩]
def DeclsAt (W : World) : Prop := ∀ j s, declL[j]? = some s → W.cell? ⟨0, j, none⟩ = some (.string s)

/-- What a reader of statements leans on beside the words. -/
structure SrcOk (S : Src) : Prop where
  decls : ∀ W, S.inv W → DeclsAt W
  ops : ∀ W, S.inv W → OpsAt W
  forms : ∀ W, S.inv W → FormsAt W S.forms S.fb
  low : ∀ p ∈ boxesL S.fb, p.1 < S.lo

def FRel (Q : Value → (Nat → Except Nat (ST × Nat)) → Prop) : List (ByteArray × Value) → List (ByteArray × (Nat → Except Nat (ST × Nat))) → Prop
  | [], [] => True
  | p :: l, q :: m => p.1 = q.1 ∧ Q p.2 q.2 ∧ FRel Q l m
  | _, _ => False
theorem FRel.find {Q : Value → (Nat → Except Nat (ST × Nat)) → Prop} (t : ByteArray) : ∀ {l : List (ByteArray × Value)} {m : List (ByteArray × (Nat → Except Nat (ST × Nat)))}, FRel Q l m →
    (lookV l t = none ∧ (m.find? fun p => decide (p.1 = t)).map (·.2) = none) ∨ ∃ v r, lookV l t = some v ∧ (m.find? fun p => decide (p.1 = t)).map (·.2) = some r ∧ Q v r
  | [], [], _ => .inl ⟨rfl, rfl⟩
  | p :: l, q :: m, h => by
    obtain ⟨h1, h2, h3⟩ := h
    by_cases ht : p.1 = t
    · refine .inr ⟨p.2, q.2, ?_, ?_, h2⟩
      · simp [lookV, ht]
      · simp [← h1, ht]
    · have hq : ¬ q.1 = t := h1 ▸ ht
      rcases FRel.find t h3 with ⟨h4, h5⟩ | ⟨v, r, h4, h5, h6⟩
      · exact .inl ⟨by simpa [lookV, ht] using h4, by simpa [hq] using h5⟩
      · exact .inr ⟨v, r, by simpa [lookV, ht] using h4, by simpa [hq] using h5, h6⟩

/-- A function value that reads a statement from word j on, or a later one. -/
def Reader (S : Src) (R j : Nat) (v : Value) (r : Nat → Except Nat (ST × Nat)) : Prop :=
  ∃ f caps, v = .func (.func f) #[] caps ∧ (∀ args w, (callFunc f args).run Tryz.prog w = .ok (.enter f args) w) ∧
    ∀ W k, j ≤ k → DR W R S k → Calls Tryz.prog f (#[.pointer (some ⟨R, 0, none⟩)] ++ caps) W (Parsed W R S retSt (r k))

section
variable {S : Src} {f R k : Nat} {w : World}

theorem forms_rel (hS : SrcOk S) {B : Nat → Except Nat (List ST × Nat)} {j : Nat} (hBm : ∀ k p, B k = .ok p → k < p.2) (hR : S.lo ≤ R)
    (hB : ∀ k' W, j < k' → DR W R S k' → Calls Tryz.prog 128 #[.pointer (some ⟨R, 0, none⟩)] W (Parsed W R S retB (B k'))) : FRel (Reader S R j) (formsV S.fb) (formsL S B) := by
  have hbox : ∀ (i : Nat) (q : Int), (S.fb i, q) ∈ boxesL S.fb → Reader S R j (nameV (S.fb i)) (namingS S q) := fun i q hm =>
    ⟨130, #[.pointer (some ⟨S.fb i, 0, none⟩)], rfl, enters_of Tryz.func130 (by kernel_rfl) rfl, fun W k _ h => naming_calls ((hS.forms W h.inv).boxes _ hm) (by have := hS.low _ hm; dsimp only at this; omega) h⟩
  have hbox2 : ∀ (i : Nat) (q : Int), (S.fb i, q) ∈ boxesL S.fb → Reader S R j (nameTwoV (S.fb i)) (namingTwoS S q) := fun i q hm =>
    ⟨131, #[.pointer (some ⟨S.fb i, 0, none⟩)], rfl, enters_of Tryz.func131 (by kernel_rfl) rfl, fun W k _ h => namingTwo_calls ((hS.forms W h.inv).boxes _ hm) (by have := hS.low _ hm; dsimp only at this; omega) h⟩
  refine ⟨rfl, ⟨69, #[], rfl, enters_of Tryz.func69 (by kernel_rfl) rfl, fun W k _ h => let_calls hS.ops h⟩,
    rfl, ⟨70, #[], rfl, enters_of Tryz.func70 (by kernel_rfl) rfl, fun W k hj h => choice_calls hS.ops hBm (fun k' W hk h => hB k' W (by omega) h) h⟩,
    rfl, ⟨71, #[], rfl, enters_of Tryz.func71 (by kernel_rfl) rfl, fun W k hj h => loop_calls hS.ops (fun k' W hk h => hB k' W (by omega) h) h⟩,
    rfl, hbox 0 6 (by simp [boxesL]), rfl, hbox 1 7 (by simp [boxesL]), rfl, hbox2 2 8 (by simp [boxesL]), rfl, hbox 3 9 (by simp [boxesL]), rfl, hbox 4 10 (by simp [boxesL]),
    rfl, ⟨74, #[], rfl, enters_of Tryz.func74 (by kernel_rfl) rfl, fun W k _ h => send_calls hS.ops h⟩,
    rfl, hbox2 5 12 (by simp [boxesL]), rfl, hbox 6 13 (by simp [boxesL]),
    rfl, ⟨75, #[], rfl, enters_of Tryz.func75 (by kernel_rfl) rfl, fun W k _ h => join_calls h⟩,
    rfl, ⟨76, #[], rfl, enters_of Tryz.func76 (by kernel_rfl) rfl, fun W k _ h => print_calls hS.ops h⟩, trivial⟩

def StmtC (S : Src) (f : Nat) : Prop := ∀ R k w, DR w R S k → (S.n - k) * 3 + 2 ≤ f → Calls Tryz.prog 170 #[.pointer (some ⟨R, 0, none⟩)] w (Parsed w R S retSt (stmtS S f k))
def BlockC (S : Src) (f : Nat) : Prop := ∀ R k w, DR w R S k → (S.n - k) * 3 + 1 ≤ f → Calls Tryz.prog 128 #[.pointer (some ⟨R, 0, none⟩)] w (Parsed w R S retB (blockS S f k))

theorem SV.at {W : World} {Z : Nat → Prop} {cs : List Value} {s : ST} (h : SV W Z cs s) (li co : Int) : SV W Z (cs.take 1 ++ [.int .i64 li, .int .i64 co] ++ cs.drop 3) (atS li co s) := by
  cases s
  obtain ⟨ce, cx, vb, vl, rfl, h1, h2, h3, h4⟩ := SV.iff.1 h
  exact SV.iff.2 ⟨ce, cx, vb, vl, rfl, h1, h2, h3, h4⟩
end
end Go.Proofs.YtjkgepppoopheaaGreatDoor
