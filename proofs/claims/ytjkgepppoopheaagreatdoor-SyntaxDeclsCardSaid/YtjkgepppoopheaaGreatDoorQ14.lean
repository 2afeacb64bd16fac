/- The project's reader of blocks (conditions: at most 1000000 words; the variables and the map of forms stand). -/
import Derived.Test.YtjkgepppoopheaaGreatDoorAbb
import Derived.Test.YtjkgepppoopheaaGreatDoorQ1
import Derived.Test.YtjkgepppoopheaaGreatDoorQ13
import Derived.Great.BuildSlice
set_option maxRecDepth 100000
set_option maxHeartbeats 1000000
namespace Go.Proofs.YtjkgepppoopheaaGreatDoor
open Go.RowKit Go.Shelf
def FMap (W : World) (M : Nat) (l : List (ByteArray × Value)) : Prop :=
 ∃ es clock, W.heap[M]? = some (.map es clock) ∧ es.toList.map (fun e => (e.key, e.val)) = l.map fun p => (Value.string p.1, p.2)
theorem FMap.lt {W : World} {M : Nat} {l : List (ByteArray × Value)} (h : FMap W M l) : M < W.heap.size := by
 obtain ⟨es, c, h1, _⟩ := h
 exact (Array.getElem?_eq_some_iff.1 h1).1
theorem FMap.kept {X : Nat → Prop} {W W' : World} {M : Nat} {l : List (ByteArray × Value)} (h : FMap W M l) (hk : Kept X W W') (hx : ¬ X M) : FMap W' M l := by
 obtain ⟨es, c, h1, h2⟩ := h
 exact ⟨es, c, hk.heap h1 hx, h2⟩
theorem FMap.made (W : World) : FMap (W.alloc (.map #[] 0)) W.heap.size [] := ⟨#[], 0, World.alloc_heap_new W _, rfl⟩
section
variable {P : Program} {T K E : TypeId}
theorem ba_beq (a b : ByteArray) : (a == b) = decide (a = b) := by
 cases a with | mk a =>
 cases b with | mk b =>
 show (a == b) = _
 by_cases h : a = b
 ·subst h; simp
 ·rw [decide_eq_false (fun hh => h (ByteArray.mk.inj hh))]
  simpa using h
def lookV (l : List (ByteArray × Value)) (s : ByteArray) : Option Value := (l.find? fun p => decide (p.1 = s)).map (·.2)
theorem findNow_string (s : ByteArray) : ∀ (es : List MapEntry) (l : List (ByteArray × Value)) (i : Nat), es.map (fun e => (e.key, e.val)) = (l.map fun p => (Value.string p.1, p.2)) →
  ∃ r, Instr.findNow .string (.string s) es i = some r ∧ r.map (·.2) = lookV l s := by
 intro es
 induction es with
 | nil =>
  intro l i h
  cases l with
  | nil => exact ⟨none, rfl, rfl⟩
  | cons p l => simp at h
 | cons e es ih =>
  intro l i h
  cases l with
  | nil => simp at h
  | cons p l =>
   simp only [List.map_cons, List.cons.injEq, Prod.mk.injEq] at h
   obtain ⟨⟨hk, hv⟩, hr⟩ := h
   obtain ⟨r, h1, h2⟩ := ih l (i + 1) hr
   unfold Instr.findNow
   rw [hk]
   by_cases hs : p.1 = s
   ·subst hs
    refine ⟨some (i, e.val), by simp [Instr.sameNow, ba_beq], ?_⟩
    simp [lookV, hv]
   ·have hne : (s == p.1) = false := by rw [ba_beq]; exact decide_eq_false (fun h => hs h.symm)
    refine ⟨r, by simp only [Instr.sameNow, hne]; exact h1, ?_⟩
    rw [h2]
    simp [lookV, hs]
theorem run_check_string (W : World) (b : Bool) (s : ByteArray) (hk : P.underlying K = some .string) : (Instr.checkKey b 10000 K (.string s)).run P W = .ok () W := by
 unfold Instr.checkKey
 rw [Sem.run_bind, run_underlying hk]
 rfl
theorem run_flook {W : World} {M : Nat} {l : List (ByteArray × Value)} (h : FMap W M l) (s : ByteArray) (ht : P.underlying T = some (.map K E)) (hk : P.underlying K = some .string) {z : Value} (hz : (zeroValue E).run P W = .ok z W) :
  (Instr.lookup T (.map (some M)) (.string s) false).run P W = .ok ((lookV l s).getD z) W := by
 obtain ⟨es, c, h1, h2⟩ := h
 obtain ⟨r, h3, h4⟩ := findNow_string s es.toList l 0 h2
 have hg : (getObj M).run P W = .ok (.map es c) W := by simp [getObj, Sem.run, h1]
 have hf : (Instr.findKey K (.string s) es.toList).run P W = .ok r W := by
  unfold Instr.findKey
  rw [Sem.run_bind, run_underlying hk, Result.andThen_ok, h3]
  rfl
 unfold Instr.lookup
 rw [Sem.run_bind, run_underlying ht, Result.andThen_ok]
 simp only [Sem.run_bind, hg, Result.andThen_ok, Sem.run_pure, run_check_string W _ s hk, hf]
 cases r with
 | none => simp only [Sem.run_bind, hz, Result.andThen_ok, Sem.run_pure]; rw [← h4] <;> rfl
 | some q => rw [← h4] <;> rfl
theorem run_fput {W : World} {M : Nat} {l : List (ByteArray × Value)} (h : FMap W M l) (s : ByteArray) (v : Value) (hs : lookV l s = none) (ht : P.underlying T = some (.map K E)) (hk : P.underlying K = some .string) :
  ∃ W', (Instr.mapUpdate T (.map (some M)) (.string s) v).run P W = .ok () W' ∧ FMap W' M (l ++ [(s, v)]) ∧ Kept (· = M) W W' := by
 obtain ⟨es, c, h1, h2⟩ := h
 obtain ⟨r, h3, h4⟩ := findNow_string s es.toList l 0 h2
 rw [hs] at h4
 have hr : r = none := by cases r with | none => rfl | some q => simp at h4
 subst hr
 have hM : M < W.heap.size := (Array.getElem?_eq_some_iff.1 h1).1
 have hg : (getObj M).run P W = .ok (.map es c) W := by simp [getObj, Sem.run, h1]
 have hf : (Instr.findKey K (.string s) es.toList).run P W = .ok none W := by
  unfold Instr.findKey
  rw [Sem.run_bind, run_underlying hk, Result.andThen_ok, h3]
  rfl
 have hset : (setObj M (.map (es.push { key := .string s, val := v, born := c }) (c + 1))).run P W = .ok () (W.putObj M (.map (es.push { key := .string s, val := v, born := c }) (c + 1))) := by
  simp [setObj, Sem.run, h1, World.putObj]
 refine ⟨W.putObj M (.map (es.push { key := .string s, val := v, born := c }) (c + 1)), ?_, ⟨_, _, World.putObj_heap_same hM, ?_⟩, Kept.putObj (X := (· = M)) (Kept.refl _ W) (fun _ => by rfl) _⟩
 ·unfold Instr.mapUpdate
  rw [Sem.run_bind, run_underlying ht, Result.andThen_ok]
  simp only [Sem.run_bind, hg, Result.andThen_ok, run_check_string W _ s hk, hf, hset]
 ·rw [Array.toList_push, List.map_append, h2]
  simp
theorem wpList_fput {ops : Array Oper} {rest : List Oper} {o : Oper} {a : Act} {w : World} {Q : Exit → Act → World → Prop} (hgd : o.guard = none) (hds : o.dst = none) (m x y : Operand) (ho : o.op = .insert T m x y)
  {M : Nat} (hm : a.eval m = .map (some M)) {s : ByteArray} (hx : a.eval x = .string s) {l : List (ByteArray × Value)} (h : FMap w M l) (hs : lookV l s = none) (ht : P.underlying T = some (.map K E)) (hk : P.underlying K = some .string)
  (hn : ∀ W', FMap W' M (l ++ [(s, a.eval y)]) → Kept (· = M) w W' → wpList P ops Q rest a W') : wpList P ops Q (o :: rest) a w :=
 wpList_plain hgd fun _ hK => by
  obtain ⟨W', h1, h2, h3⟩ := run_fput (P := P) h s (a.eval y) hs ht hk
  unfold Oper.wp execOp
  simp only [ho, hm, hx, h1, Sem.run_bind, Sem.run_pure, Result.andThen_ok]
  have e : a.put o.dst undef = a := by rw [hds] <;> rfl
  rw [Oper.upon_skip, e]
  exact hK _ _ (hn W' h2 h3)
end
def Boxes (W : World) (l : List (Nat × Int)) : Prop := ∀ p ∈ l, W.cell? ⟨p.1, 0, none⟩ = some (.int .i64 p.2)
theorem Boxes.kept {X : Nat → Prop} {W W' : World} {l : List (Nat × Int)} (h : Boxes W l) (hk : Kept X W W') (hx : ∀ p ∈ l, ¬ X p.1) : Boxes W' l := fun p hp => by
 rw [← h p hp]
 exact World.cell?_of_block (hk.block _ (block_lt_of (h p hp)) (hx p hp))
theorem naming_makes (q : Int) (w : World) : Calls Tryz.prog 72 #[.int .i64 q] w fun e w' => e = .returned (.func (.func 130) #[] #[.pointer (some ⟨w.heap.size, 0, none⟩)]) ∧ Cells w' w.heap.size 61 [.int .i64 q] ∧ Kept noX w w' := by
 have hmf : ∀ (fn : Fn) (first cap : Array Value) (w : World), (Instr.makeFunc fn first cap).run Tryz.prog w = .ok (.func fn first cap) w := fun _ _ _ _ => rfl
 go_enter Tryz.func72, Tryz.ntmps72
 go_wp2
 go_ret
 exact ⟨rfl, Cells.fresh w 61 _, (Kept.refl _ _).alloc _⟩
theorem namingTwo_makes (q : Int) (w : World) : Calls Tryz.prog 73 #[.int .i64 q] w fun e w' => e = .returned (.func (.func 131) #[] #[.pointer (some ⟨w.heap.size, 0, none⟩)]) ∧ Cells w' w.heap.size 61 [.int .i64 q] ∧ Kept noX w w' := by
 have hmf : ∀ (fn : Fn) (first cap : Array Value) (w : World), (Instr.makeFunc fn first cap).run Tryz.prog w = .ok (.func fn first cap) w := fun _ _ _ _ => rfl
 go_enter Tryz.func73, Tryz.ntmps73
 go_wp2
 go_ret
 exact ⟨rfl, Cells.fresh w 61 _, (Kept.refl _ _).alloc _⟩
def kLet : ByteArray := ⟨#[108, 101, 116]⟩
def kIf : ByteArray := ⟨#[105, 102]⟩
def kWhile : ByteArray := ⟨#[119, 104, 105, 108, 101]⟩
def kLock : ByteArray := ⟨#[108, 111, 99, 107]⟩
def kUnlock : ByteArray := ⟨#[117, 110, 108, 111, 99, 107]⟩
def kWait : ByteArray := ⟨#[119, 97, 105, 116]⟩
def kSignal : ByteArray := ⟨#[115, 105, 103, 110, 97, 108]⟩
def kAll : ByteArray := ⟨#[97, 108, 108]⟩
def kSend : ByteArray := ⟨#[115, 101, 110, 100]⟩
def kRecv : ByteArray := ⟨#[114, 101, 99, 118]⟩
def kSpawn : ByteArray := ⟨#[115, 112, 97, 119, 110]⟩
def kJoin : ByteArray := ⟨#[106, 111, 105, 110]⟩
def kPrint : ByteArray := ⟨#[112, 114, 105, 110, 116]⟩
def nameV (b : Nat) : Value := .func (.func 130) #[] #[.pointer (some ⟨b, 0, none⟩)]
def nameTwoV (b : Nat) : Value := .func (.func 131) #[] #[.pointer (some ⟨b, 0, none⟩)]
def fnV (f : Nat) : Value := .func (.func f) #[] #[]
def formsV (c : Nat → Nat) : List (ByteArray × Value) :=
 [(kLet, fnV 69), (kIf, fnV 70), (kWhile, fnV 71), (kLock, nameV (c 0)), (kUnlock, nameV (c 1)), (kWait, nameTwoV (c 2)), (kSignal, nameV (c 3)), (kAll, nameV (c 4)), (kSend, fnV 74), (kRecv, nameTwoV (c 5)), (kSpawn, nameV (c 6)), (kJoin, fnV 75), (kPrint, fnV 76)]
def boxesL (c : Nat → Nat) : List (Nat × Int) := [(c 0, 6), (c 1, 7), (c 2, 8), (c 3, 9), (c 4, 10), (c 5, 12), (c 6, 13)]
structure FormsAt (W : World) (M : Nat) (c : Nat → Nat) : Prop where
 map : FMap W M (formsV c)
 boxes : Boxes W (boxesL c)
theorem forms_calls (w : World) : Calls Tryz.prog 37 #[] w fun e w' => ∃ M c, e = .returned (.map (some M)) ∧ FormsAt w' M c ∧ w.heap.size ≤ M ∧ (∀ p ∈ boxesL c, w.heap.size ≤ p.1) ∧ Kept noX w w' := by
 have hmm := @run_makeMap Tryz.prog
 go_enter Tryz.func37, Tryz.ntmps37
 obtain ⟨W0, hW0⟩ : ∃ W0, w.alloc (.map #[] 0) = W0 := ⟨_, rfl⟩
 have hf0 : FMap W0 w.heap.size [] := by rw [← hW0]; exact FMap.made w
 have hk0 : Kept noX w W0 := by rw [← hW0]; exact (Kept.refl _ _).alloc _
 have hs0 := hf0.lt
 have HF0 := aP hf0
 clear hf0
 have hmm0 : (Instr.makeMap 77 none).run Tryz.prog w = .ok (.map (some w.heap.size)) W0 := by rw [← hW0]; exact hmm _ _
 clear hmm hW0
 go_wp2_with (first | ((with_reducible show wpList _ _ _ (Oper.mk none (Op.insert _ _ _ _) _ _ _ _ :: _) _ _); refine wpList_fput rfl rfl (.tmp 1) (.const (.string ⟨#[108, 101, 116]⟩)) (.func 69) rfl (M := w.heap.size) rfl rfl HF0.out (by simp [lookV]) Tryz.underlying77 Tryz.underlying9 ?_; intro W1 hf1 hk1; have hs1 := hk1.size; have HF1 := aP (show FMap W1 w.heap.size [(⟨#[108, 101, 116]⟩, fnV 69)] from hf1); clear hf1) | ((with_reducible show wpList _ _ _ (Oper.mk none (Op.insert _ _ _ _) _ _ _ _ :: _) _ _); refine wpList_fput rfl rfl (.tmp 1) (.const (.string ⟨#[105, 102]⟩)) (.func 70) rfl (M := w.heap.size) rfl rfl HF1.out (by simp [lookV]) Tryz.underlying77 Tryz.underlying9 ?_; intro W2 hf2 hk2; have hs2 := hk2.size; have HF2 := aP (show FMap W2 w.heap.size [(⟨#[108, 101, 116]⟩, fnV 69), (⟨#[105, 102]⟩, fnV 70)] from hf2); clear hf2) | ((with_reducible show wpList _ _ _ (Oper.mk none (Op.insert _ _ _ _) _ _ _ _ :: _) _ _); refine wpList_fput rfl rfl (.tmp 1) (.const (.string ⟨#[119, 104, 105, 108, 101]⟩)) (.func 71) rfl (M := w.heap.size) rfl rfl HF2.out (by simp [lookV]) Tryz.underlying77 Tryz.underlying9 ?_; intro W3 hf3 hk3; have hs3 := hk3.size; have HF3 := aP (show FMap W3 w.heap.size [(⟨#[108, 101, 116]⟩, fnV 69), (⟨#[105, 102]⟩, fnV 70), (⟨#[119, 104, 105, 108, 101]⟩, fnV 71)] from hf3); clear hf3) | (go_at_call_of 72 (Value.int IntKind.i64 6); refine (naming_makes 6 W3).mono ?_; rintro e W4 ⟨rfl, hcn, hk4⟩; have hs4 := hk4.size; have hf4 := HF3.out.kept hk4 (fun h => h); have HF4 := aP hf4; have HC4 := aP hcn; have hl4 := hcn.lt; clear hf4 hcn) | ((with_reducible show wpList _ _ _ (Oper.mk none (Op.insert _ _ _ _) _ _ _ _ :: _) _ _); refine wpList_fput rfl rfl (.tmp 1) (.const (.string ⟨#[108, 111, 99, 107]⟩)) (.tmp 2) rfl (M := w.heap.size) rfl rfl HF4.out (by simp [lookV]) Tryz.underlying77 Tryz.underlying9 ?_; intro W5 hf5 hk5; have hs5 := hk5.size; have HF5 := aP (show FMap W5 w.heap.size [(⟨#[108, 101, 116]⟩, fnV 69), (⟨#[105, 102]⟩, fnV 70), (⟨#[119, 104, 105, 108, 101]⟩, fnV 71), (⟨#[108, 111, 99, 107]⟩, nameV W3.heap.size)] from hf5); clear hf5) | (go_at_call_of 72 (Value.int IntKind.i64 7); refine (naming_makes 7 W5).mono ?_; rintro e W6 ⟨rfl, hcn, hk6⟩; have hs6 := hk6.size; have hf6 := HF5.out.kept hk6 (fun h => h); have HF6 := aP hf6; have HC6 := aP hcn; have hl6 := hcn.lt; clear hf6 hcn) | ((with_reducible show wpList _ _ _ (Oper.mk none (Op.insert _ _ _ _) _ _ _ _ :: _) _ _); refine wpList_fput rfl rfl (.tmp 1) (.const (.string ⟨#[117, 110, 108, 111, 99, 107]⟩)) (.tmp 3) rfl (M := w.heap.size) rfl rfl HF6.out (by simp [lookV]) Tryz.underlying77 Tryz.underlying9 ?_; intro W7 hf7 hk7; have hs7 := hk7.size; have HF7 := aP (show FMap W7 w.heap.size [(⟨#[108, 101, 116]⟩, fnV 69), (⟨#[105, 102]⟩, fnV 70), (⟨#[119, 104, 105, 108, 101]⟩, fnV 71), (⟨#[108, 111, 99, 107]⟩, nameV W3.heap.size), (⟨#[117, 110, 108, 111, 99, 107]⟩, nameV W5.heap.size)] from hf7); clear hf7) | (go_at_call_of 73 (Value.int IntKind.i64 8); refine (namingTwo_makes 8 W7).mono ?_; rintro e W8 ⟨rfl, hcn, hk8⟩; have hs8 := hk8.size; have hf8 := HF7.out.kept hk8 (fun h => h); have HF8 := aP hf8; have HC8 := aP hcn; have hl8 := hcn.lt; clear hf8 hcn) | ((with_reducible show wpList _ _ _ (Oper.mk none (Op.insert _ _ _ _) _ _ _ _ :: _) _ _); refine wpList_fput rfl rfl (.tmp 1) (.const (.string ⟨#[119, 97, 105, 116]⟩)) (.tmp 4) rfl (M := w.heap.size) rfl rfl HF8.out (by simp [lookV]) Tryz.underlying77 Tryz.underlying9 ?_; intro W9 hf9 hk9; have hs9 := hk9.size; have HF9 := aP (show FMap W9 w.heap.size [(⟨#[108, 101, 116]⟩, fnV 69), (⟨#[105, 102]⟩, fnV 70), (⟨#[119, 104, 105, 108, 101]⟩, fnV 71), (⟨#[108, 111, 99, 107]⟩, nameV W3.heap.size), (⟨#[117, 110, 108, 111, 99, 107]⟩, nameV W5.heap.size), (⟨#[119, 97, 105, 116]⟩, nameTwoV W7.heap.size)] from hf9); clear hf9) | (go_at_call_of 72 (Value.int IntKind.i64 9); refine (naming_makes 9 W9).mono ?_; rintro e W10 ⟨rfl, hcn, hk10⟩; have hs10 := hk10.size; have hf10 := HF9.out.kept hk10 (fun h => h); have HF10 := aP hf10; have HC10 := aP hcn; have hl10 := hcn.lt; clear hf10 hcn) | ((with_reducible show wpList _ _ _ (Oper.mk none (Op.insert _ _ _ _) _ _ _ _ :: _) _ _); refine wpList_fput rfl rfl (.tmp 1) (.const (.string ⟨#[115, 105, 103, 110, 97, 108]⟩)) (.tmp 5) rfl (M := w.heap.size) rfl rfl HF10.out (by simp [lookV]) Tryz.underlying77 Tryz.underlying9 ?_; intro W11 hf11 hk11; have hs11 := hk11.size; have HF11 := aP (show FMap W11 w.heap.size [(⟨#[108, 101, 116]⟩, fnV 69), (⟨#[105, 102]⟩, fnV 70), (⟨#[119, 104, 105, 108, 101]⟩, fnV 71), (⟨#[108, 111, 99, 107]⟩, nameV W3.heap.size), (⟨#[117, 110, 108, 111, 99, 107]⟩, nameV W5.heap.size), (⟨#[119, 97, 105, 116]⟩, nameTwoV W7.heap.size), (⟨#[115, 105, 103, 110, 97, 108]⟩, nameV W9.heap.size)] from hf11); clear hf11) | (go_at_call_of 72 (Value.int IntKind.i64 10); refine (naming_makes 10 W11).mono ?_; rintro e W12 ⟨rfl, hcn, hk12⟩; have hs12 := hk12.size; have hf12 := HF11.out.kept hk12 (fun h => h); have HF12 := aP hf12; have HC12 := aP hcn; have hl12 := hcn.lt; clear hf12 hcn) | ((with_reducible show wpList _ _ _ (Oper.mk none (Op.insert _ _ _ _) _ _ _ _ :: _) _ _); refine wpList_fput rfl rfl (.tmp 1) (.const (.string ⟨#[97, 108, 108]⟩)) (.tmp 6) rfl (M := w.heap.size) rfl rfl HF12.out (by simp [lookV]) Tryz.underlying77 Tryz.underlying9 ?_; intro W13 hf13 hk13; have hs13 := hk13.size; have HF13 := aP (show FMap W13 w.heap.size [(⟨#[108, 101, 116]⟩, fnV 69), (⟨#[105, 102]⟩, fnV 70), (⟨#[119, 104, 105, 108, 101]⟩, fnV 71), (⟨#[108, 111, 99, 107]⟩, nameV W3.heap.size), (⟨#[117, 110, 108, 111, 99, 107]⟩, nameV W5.heap.size), (⟨#[119, 97, 105, 116]⟩, nameTwoV W7.heap.size), (⟨#[115, 105, 103, 110, 97, 108]⟩, nameV W9.heap.size), (⟨#[97, 108, 108]⟩, nameV W11.heap.size)] from hf13); clear hf13) | ((with_reducible show wpList _ _ _ (Oper.mk none (Op.insert _ _ _ _) _ _ _ _ :: _) _ _); refine wpList_fput rfl rfl (.tmp 1) (.const (.string ⟨#[115, 101, 110, 100]⟩)) (.func 74) rfl (M := w.heap.size) rfl rfl HF13.out (by simp [lookV]) Tryz.underlying77 Tryz.underlying9 ?_; intro W14 hf14 hk14; have hs14 := hk14.size; have HF14 := aP (show FMap W14 w.heap.size [(⟨#[108, 101, 116]⟩, fnV 69), (⟨#[105, 102]⟩, fnV 70), (⟨#[119, 104, 105, 108, 101]⟩, fnV 71), (⟨#[108, 111, 99, 107]⟩, nameV W3.heap.size), (⟨#[117, 110, 108, 111, 99, 107]⟩, nameV W5.heap.size), (⟨#[119, 97, 105, 116]⟩, nameTwoV W7.heap.size), (⟨#[115, 105, 103, 110, 97, 108]⟩, nameV W9.heap.size), (⟨#[97, 108, 108]⟩, nameV W11.heap.size), (⟨#[115, 101, 110, 100]⟩, fnV 74)] from hf14); clear hf14) | (go_at_call_of 73 (Value.int IntKind.i64 12); refine (namingTwo_makes 12 W14).mono ?_; rintro e W15 ⟨rfl, hcn, hk15⟩; have hs15 := hk15.size; have hf15 := HF14.out.kept hk15 (fun h => h); have HF15 := aP hf15; have HC15 := aP hcn; have hl15 := hcn.lt; clear hf15 hcn) | ((with_reducible show wpList _ _ _ (Oper.mk none (Op.insert _ _ _ _) _ _ _ _ :: _) _ _); refine wpList_fput rfl rfl (.tmp 1) (.const (.string ⟨#[114, 101, 99, 118]⟩)) (.tmp 7) rfl (M := w.heap.size) rfl rfl HF15.out (by simp [lookV]) Tryz.underlying77 Tryz.underlying9 ?_; intro W16 hf16 hk16; have hs16 := hk16.size; have HF16 := aP (show FMap W16 w.heap.size [(⟨#[108, 101, 116]⟩, fnV 69), (⟨#[105, 102]⟩, fnV 70), (⟨#[119, 104, 105, 108, 101]⟩, fnV 71), (⟨#[108, 111, 99, 107]⟩, nameV W3.heap.size), (⟨#[117, 110, 108, 111, 99, 107]⟩, nameV W5.heap.size), (⟨#[119, 97, 105, 116]⟩, nameTwoV W7.heap.size), (⟨#[115, 105, 103, 110, 97, 108]⟩, nameV W9.heap.size), (⟨#[97, 108, 108]⟩, nameV W11.heap.size), (⟨#[115, 101, 110, 100]⟩, fnV 74), (⟨#[114, 101, 99, 118]⟩, nameTwoV W14.heap.size)] from hf16); clear hf16) | (go_at_call_of 72 (Value.int IntKind.i64 13); refine (naming_makes 13 W16).mono ?_; rintro e W17 ⟨rfl, hcn, hk17⟩; have hs17 := hk17.size; have hf17 := HF16.out.kept hk17 (fun h => h); have HF17 := aP hf17; have HC17 := aP hcn; have hl17 := hcn.lt; clear hf17 hcn) | ((with_reducible show wpList _ _ _ (Oper.mk none (Op.insert _ _ _ _) _ _ _ _ :: _) _ _); refine wpList_fput rfl rfl (.tmp 1) (.const (.string ⟨#[115, 112, 97, 119, 110]⟩)) (.tmp 8) rfl (M := w.heap.size) rfl rfl HF17.out (by simp [lookV]) Tryz.underlying77 Tryz.underlying9 ?_; intro W18 hf18 hk18; have hs18 := hk18.size; have HF18 := aP (show FMap W18 w.heap.size [(⟨#[108, 101, 116]⟩, fnV 69), (⟨#[105, 102]⟩, fnV 70), (⟨#[119, 104, 105, 108, 101]⟩, fnV 71), (⟨#[108, 111, 99, 107]⟩, nameV W3.heap.size), (⟨#[117, 110, 108, 111, 99, 107]⟩, nameV W5.heap.size), (⟨#[119, 97, 105, 116]⟩, nameTwoV W7.heap.size), (⟨#[115, 105, 103, 110, 97, 108]⟩, nameV W9.heap.size), (⟨#[97, 108, 108]⟩, nameV W11.heap.size), (⟨#[115, 101, 110, 100]⟩, fnV 74), (⟨#[114, 101, 99, 118]⟩, nameTwoV W14.heap.size), (⟨#[115, 112, 97, 119, 110]⟩, nameV W16.heap.size)] from hf18); clear hf18) | ((with_reducible show wpList _ _ _ (Oper.mk none (Op.insert _ _ _ _) _ _ _ _ :: _) _ _); refine wpList_fput rfl rfl (.tmp 1) (.const (.string ⟨#[106, 111, 105, 110]⟩)) (.func 75) rfl (M := w.heap.size) rfl rfl HF18.out (by simp [lookV]) Tryz.underlying77 Tryz.underlying9 ?_; intro W19 hf19 hk19; have hs19 := hk19.size; have HF19 := aP (show FMap W19 w.heap.size [(⟨#[108, 101, 116]⟩, fnV 69), (⟨#[105, 102]⟩, fnV 70), (⟨#[119, 104, 105, 108, 101]⟩, fnV 71), (⟨#[108, 111, 99, 107]⟩, nameV W3.heap.size), (⟨#[117, 110, 108, 111, 99, 107]⟩, nameV W5.heap.size), (⟨#[119, 97, 105, 116]⟩, nameTwoV W7.heap.size), (⟨#[115, 105, 103, 110, 97, 108]⟩, nameV W9.heap.size), (⟨#[97, 108, 108]⟩, nameV W11.heap.size), (⟨#[115, 101, 110, 100]⟩, fnV 74), (⟨#[114, 101, 99, 118]⟩, nameTwoV W14.heap.size), (⟨#[115, 112, 97, 119, 110]⟩, nameV W16.heap.size), (⟨#[106, 111, 105, 110]⟩, fnV 75)] from hf19); clear hf19) | ((with_reducible show wpList _ _ _ (Oper.mk none (Op.insert _ _ _ _) _ _ _ _ :: _) _ _); refine wpList_fput rfl rfl (.tmp 1) (.const (.string ⟨#[112, 114, 105, 110, 116]⟩)) (.func 76) rfl (M := w.heap.size) rfl rfl HF19.out (by simp [lookV]) Tryz.underlying77 Tryz.underlying9 ?_; intro W20 hf20 hk20; have hs20 := hk20.size; have HF20 := aP (show FMap W20 w.heap.size [(⟨#[108, 101, 116]⟩, fnV 69), (⟨#[105, 102]⟩, fnV 70), (⟨#[119, 104, 105, 108, 101]⟩, fnV 71), (⟨#[108, 111, 99, 107]⟩, nameV W3.heap.size), (⟨#[117, 110, 108, 111, 99, 107]⟩, nameV W5.heap.size), (⟨#[119, 97, 105, 116]⟩, nameTwoV W7.heap.size), (⟨#[115, 105, 103, 110, 97, 108]⟩, nameV W9.heap.size), (⟨#[97, 108, 108]⟩, nameV W11.heap.size), (⟨#[115, 101, 110, 100]⟩, fnV 74), (⟨#[114, 101, 99, 118]⟩, nameTwoV W14.heap.size), (⟨#[115, 112, 97, 119, 110]⟩, nameV W16.heap.size), (⟨#[106, 111, 105, 110]⟩, fnV 75), (⟨#[112, 114, 105, 110, 116]⟩, fnV 76)] from hf20); clear hf20))
 go_ret
 refine ⟨w.heap.size, fun i => if i = 0 then W3.heap.size else if i = 1 then W5.heap.size else if i = 2 then W7.heap.size else if i = 3 then W9.heap.size else if i = 4 then W11.heap.size else if i = 5 then W14.heap.size else if i = 6 then W16.heap.size else 0, rfl, ⟨HF20.out, ?_⟩, Nat.le_refl _, ?_, ?_⟩
 ·intro p hp
  simp only [boxesL, List.mem_cons, List.not_mem_nil, or_false] at hp
  rcases hp with rfl | rfl | rfl | rfl | rfl | rfl | rfl
  ·exact (show Cells W20 W3.heap.size 61 [.int .i64 6] from (have q := HC4.out; kcl)).cell 0
  ·exact (show Cells W20 W5.heap.size 61 [.int .i64 7] from (have q := HC6.out; kcl)).cell 0
  ·exact (show Cells W20 W7.heap.size 61 [.int .i64 8] from (have q := HC8.out; kcl)).cell 0
  ·exact (show Cells W20 W9.heap.size 61 [.int .i64 9] from (have q := HC10.out; kcl)).cell 0
  ·exact (show Cells W20 W11.heap.size 61 [.int .i64 10] from (have q := HC12.out; kcl)).cell 0
  ·exact (show Cells W20 W14.heap.size 61 [.int .i64 12] from (have q := HC15.out; kcl)).cell 0
  ·exact (show Cells W20 W16.heap.size 61 [.int .i64 13] from (have q := HC17.out; kcl)).cell 0
 ·intro p hp
  simp only [boxesL, List.mem_cons, List.not_mem_nil, or_false] at hp
  rcases hp with rfl | rfl | rfl | rfl | rfl | rfl | rfl
  all_goals (simp; omega)
 ·exact (show Kept (fun g => g = w.heap.size) w W20 from kp).mono_new
def atS (li co : Int) : ST → ST
 | .node k _ _ s t e x b l i sl ot lo => .node k li co s t e x b l i sl ot lo
section
variable (S : Src)
def formsL (B : Nat → Except Nat (List ST × Nat)) : List (ByteArray × (Nat → Except Nat (ST × Nat))) :=
 [(kLet, letS S), (kIf, choiceS S B), (kWhile, loopS S B), (kLock, namingS S 6), (kUnlock, namingS S 7), (kWait, namingTwoS S 8), (kSignal, namingS S 9), (kAll, namingS S 10), (kSend, sendS S), (kRecv, namingTwoS S 12), (kSpawn, namingS S 13), (kJoin, joinS S), (kPrint, printS S)]
def formS (B : Nat → Except Nat (List ST × Nat)) (t : ByteArray) : Option (Nat → Except Nat (ST × Nat)) := ((formsL S B).find? fun p => decide (p.1 = t)).map (·.2)
mutual
def stmtS : Nat → Nat → Except Nat (ST × Nat)
 | 0, k => .error k
 | f + 1, k =>
  if kindB S k 3 then
   match formS S (blockS f) (S.tok k).text with
   | some r => thn (r (k + 1)) fun s k' => .ok (atS (S.tok k).line (S.tok k).col s, k')
   | none => .error k
  else thn (assignS S k) fun s k' => .ok (atS (S.tok k).line (S.tok k).col s, k')
def blockS : Nat → Nat → Except Nat (List ST × Nat)
 | 0, k => .error k
 | f + 1, k => thn (wantS S k ⟨#[123]⟩) fun _ k => restS f k
def restS : Nat → Nat → Except Nat (List ST × Nat)
 | 0, k => .error k
 | f + 1, k =>
  if takeB S k ⟨#[125]⟩ then .ok ([], k + 1)
  else thn (stmtS f k) fun s k => thn (restS f k) fun l k => .ok (s :: l, k)
end
end
def declL : List ByteArray := [⟨#[]⟩, ⟨#[118, 97, 114]⟩, ⟨#[97, 114, 114, 97, 121]⟩, ⟨#[109, 117, 116, 101, 120]⟩, ⟨#[99, 111, 110, 100]⟩, ⟨#[99, 104, 97, 110]⟩, ⟨#[116, 104, 114, 101, 97, 100]⟩]
def DeclsAt (W : World) : Prop := ∀ j s, declL[j]? = some s → W.cell? ⟨0, j, none⟩ = some (.string s)
structure SrcOk (S : Src) : Prop where
 decls : ∀ W, S.inv W → DeclsAt W
 ops : ∀ W, S.inv W → OpsAt W
 forms : ∀ W, S.inv W → FormsAt W S.forms S.fb
 low : ∀ p ∈ boxesL S.fb, p.1 < S.lo
def FRel (Q : Value → (Nat → Except Nat (ST × Nat)) → Prop) : List (ByteArray × Value) → List (ByteArray × (Nat → Except Nat (ST × Nat))) → Prop
 | [], [] => True
 | p :: l, q :: m => p.1 = q.1 ∧ Q p.2 q.2 ∧ FRel Q l m
 | _, _ => False
theorem FRel.find {Q : Value → (Nat → Except Nat (ST × Nat)) → Prop} (t : ByteArray) : ∀ {l : List (ByteArray × Value)} {m : List (ByteArray × (Nat → Except Nat (ST × Nat)))}, FRel Q l m →
  (lookV l t = none ∧ (m.find? fun p => decide (p.1 = t)).map (·.2) = none) ∨ ∃ v r, lookV l t = some v ∧ (m.find? fun p => decide (p.1 = t)).map (·.2) = some r ∧ Q v r
 | [], [], _ => .inl ⟨rfl, rfl⟩
 | p :: l, q :: m, h => by
  obtain ⟨h1, h2, h3⟩ := h
  by_cases ht : p.1 = t
  ·refine .inr ⟨p.2, q.2, ?_, ?_, h2⟩
   ·simp [lookV, ht]
   ·simp [← h1, ht]
  ·have hq : ¬ q.1 = t := h1 ▸ ht
   rcases FRel.find t h3 with ⟨h4, h5⟩ | ⟨v, r, h4, h5, h6⟩
   ·exact .inl ⟨by simpa [lookV, ht] using h4, by simpa [hq] using h5⟩
   ·exact .inr ⟨v, r, by simpa [lookV, ht] using h4, by simpa [hq] using h5, h6⟩
def Reader (S : Src) (R j : Nat) (v : Value) (r : Nat → Except Nat (ST × Nat)) : Prop :=
 ∃ f caps, v = .func (.func f) #[] caps ∧ (∀ args w, (callFunc f args).run Tryz.prog w = .ok (.enter f args) w) ∧
  ∀ W k, j ≤ k → DR W R S k → Calls Tryz.prog f (#[.pointer (some ⟨R, 0, none⟩)] ++ caps) W (Parsed W R S retSt (r k))
section
variable {S : Src} {f R k : Nat} {w : World}
theorem forms_rel (hS : SrcOk S) {B : Nat → Except Nat (List ST × Nat)} {j : Nat} (hBm : ∀ k p, B k = .ok p → k < p.2) (hR : S.lo ≤ R)
  (hB : ∀ k' W, j < k' → DR W R S k' → Calls Tryz.prog 128 #[.pointer (some ⟨R, 0, none⟩)] W (Parsed W R S retB (B k'))) : FRel (Reader S R j) (formsV S.fb) (formsL S B) := by
 have hbox : ∀ (i : Nat) (q : Int), (S.fb i, q) ∈ boxesL S.fb → Reader S R j (nameV (S.fb i)) (namingS S q) := fun i q hm =>
  ⟨130, #[.pointer (some ⟨S.fb i, 0, none⟩)], rfl, enters_of Tryz.func130 krf rfl, fun W k _ h => naming_calls ((hS.forms W h.inv).boxes _ hm) (by have := hS.low _ hm; dsimp only at this; omega) h⟩
 have hbox2 : ∀ (i : Nat) (q : Int), (S.fb i, q) ∈ boxesL S.fb → Reader S R j (nameTwoV (S.fb i)) (namingTwoS S q) := fun i q hm =>
  ⟨131, #[.pointer (some ⟨S.fb i, 0, none⟩)], rfl, enters_of Tryz.func131 krf rfl, fun W k _ h => namingTwo_calls ((hS.forms W h.inv).boxes _ hm) (by have := hS.low _ hm; dsimp only at this; omega) h⟩
 refine ⟨rfl, ⟨69, #[], rfl, enters_of Tryz.func69 krf rfl, fun W k _ h => let_calls hS.ops h⟩,
   rfl, ⟨70, #[], rfl, enters_of Tryz.func70 krf rfl, fun W k hj h => choice_calls hS.ops hBm (fun k' W hk h => hB k' W kom h) h⟩,
   rfl, ⟨71, #[], rfl, enters_of Tryz.func71 krf rfl, fun W k hj h => loop_calls hS.ops (fun k' W hk h => hB k' W kom h) h⟩,
   rfl, hbox 0 6 (by simp [boxesL]), rfl, hbox 1 7 (by simp [boxesL]), rfl, hbox2 2 8 (by simp [boxesL]), rfl, hbox 3 9 (by simp [boxesL]), rfl, hbox 4 10 (by simp [boxesL]),
   rfl, ⟨74, #[], rfl, enters_of Tryz.func74 krf rfl, fun W k _ h => send_calls hS.ops h⟩,
   rfl, hbox2 5 12 (by simp [boxesL]), rfl, hbox 6 13 (by simp [boxesL]),
   rfl, ⟨75, #[], rfl, enters_of Tryz.func75 krf rfl, fun W k _ h => join_calls h⟩,
   rfl, ⟨76, #[], rfl, enters_of Tryz.func76 krf rfl, fun W k _ h => print_calls hS.ops h⟩, trivial⟩
def StmtC (S : Src) (f : Nat) : Prop := ∀ R k w, DR w R S k → (S.n - k) * 3 + 2 ≤ f → Calls Tryz.prog 170 #[.pointer (some ⟨R, 0, none⟩)] w (Parsed w R S retSt (stmtS S f k))
def BlockC (S : Src) (f : Nat) : Prop := ∀ R k w, DR w R S k → (S.n - k) * 3 + 1 ≤ f → Calls Tryz.prog 128 #[.pointer (some ⟨R, 0, none⟩)] w (Parsed w R S retB (blockS S f k))
theorem SV.at {W : World} {Z : Nat → Prop} {cs : List Value} {s : ST} (h : SV W Z cs s) (li co : Int) : SV W Z (cs.take 1 ++ [.int .i64 li, .int .i64 co] ++ cs.drop 3) (atS li co s) := by
 cases s
 obtain ⟨ce, cx, vb, vl, rfl, h1, h2, h3, h4⟩ := SV.iff.1 h
 exact SV.iff.2 ⟨ce, cx, vb, vl, rfl, h1, h2, h3, h4⟩
end
section
variable {S : Src} {f R k : Nat} {w : World}
theorem SV.one1 {W : World} {Z : Nat → Prop} {cs : List Value} {s : ST} (h : SV W Z cs s) : ∀ u ∈ cs, u.oneCell' = true := Rep.one h
theorem cells_sub {W W' : World} {b t : Nat} {X : Nat → Prop} {x0 x1 x2 x3 x4 : Value} (h : Cells W b t [x0, x1, x2, x3, x4]) (hk : Kept X (W.alloc (.cells zeroSt.toArray 63)) W') (hx : ¬ X b) :
  ∀ j v, [x3, x4][j]? = some v → W'.cell? ⟨b, 3 + j, none⟩ = some v := by
 intro j v hj
 have hc := (h.alloc (.cells zeroSt.toArray 63)).kept hk hx
 rcases j with _ | _ | j
 ·exact (hc.cell 3).trans hj
 ·exact (hc.cell 4).trans hj
 ·simp at hj
@[go_sem] theorem run_eql_fn (fn : Fn) (a b : Array Value) (w : World) : (binOp .eql 126 (.func fn a b) .nilFunc).run Tryz.prog w = .ok (.bool false) w := by kernel_rfl
@[go_sem] theorem run_eql_nofn (w : World) : (binOp .eql 126 .nilFunc .nilFunc).run Tryz.prog w = .ok (.bool true) w := by kernel_rfl
theorem stmt_step (hS : SrcOk S) (hBm : ∀ k p, blockS S f k = .ok p → k < p.2) (hB : BlockC S f) : StmtC S (f + 1) := by
 intro R k w h hf
 have HS : Hid (stmtS S (f + 1) k = if kindB S k 3 then
     match formS S (blockS S f) (S.tok k).text with
     | some r => thn (r (k + 1)) fun s k' => .ok (atS (S.tok k).line (S.tok k).col s, k')
     | none => .error k
   else thn (assignS S k) fun s k' => .ok (atS (S.tok k).line (S.tok k).col s, k')) := aP (by rw [stmtS] <;> rfl)
 have HF : Hid (FRel (Reader S R k) (formsV S.fb) (formsL S (blockS S f))) := aP (forms_rel hS hBm h.loR (fun k' W hk hd => hB R k' W hd kom))
 have HA := aP (fun W k (h : DR W R S k) => assign_calls hS.ops h)
 have HFO := aP hS.forms
 clear hS hBm hB
 have hRl := h.lt
 have hB := Cells.fresh w 63 zeroSt
 have HB := aP hB
 have hsz : (w.alloc (.cells zeroSt.toArray 63)).heap.size = w.heap.size + 1 := by simp
 clear hB
 have HT : Hid (kindB S k 3 = decide ((S.tok k).kind = 3)) := aP rfl
 go_enter Tryz.func170, Tryz.ntmps170
 go_wp2_with fail
 refine (next_any (S := S) (k := k) kdr).mono ?_
 rintro e W1 ⟨rfl, hk1⟩
 have hd1 : DR W1 R S k := (h.alloc _).keep hk1
 have lb1 := hk1.size
 rw [World.size_alloc] at lb1
 generalize htok : S.tok k = tk at HS HT ⊢
 obtain ⟨q, txt, nu, li, co⟩ := tk
 simp only [TokD.cells]
 dsimp only at HS HT
 have HTOK := aP htok
 clear htok
 cases hq3 : kindB S k 3 with
 | false =>
  have hne : (q == 3) = false := by rw [← hq3, HT.out] <;> rfl
  rw [hq3, if_neg Bool.false_ne_true] at HS
  have hd2 := hd1.alloc (.cells #[.int .i64 q, .string txt, .int .i64 nu, .int .i64 li, .int .i64 co] 92)
  have HTK := aP (Cells.fresh W1 92 [.int .i64 q, .string txt, .int .i64 nu, .int .i64 li, .int .i64 co])
  go_wp2_with fail
  obtain ⟨W2, hW2⟩ : ∃ W2, W2 = W1.alloc (.cells #[.int .i64 q, .string txt, .int .i64 nu, .int .i64 li, .int .i64 co] 92) := ⟨_, rfl⟩
  have hk2 : Kept noX W1 W2 := hW2 ▸ (Kept.refl _ _).alloc _
  rw [← hW2] at hd2 HTK ⊢
  clear hW2
  have lb2 := hk2.size
  refine (HA.out _ k hd2).mono ?_
  intro e W4 hq
  rcases hq.cases with ⟨kx, hr, hm, hk4⟩ | ⟨a4, k4, hr, hret, hd4, hk4⟩
  ·exact k_3
  replace HS := aP (HS.out.trans (by rw [hr, thn_ok]))
  clear hr hq
  have lb4 := hk4.size
  obtain ⟨cs, rfl, hsv⟩ := hret
  have HL := aP hsv.len
  have HO := aP hsv.one1
  obtain ⟨c2, hc2⟩ : ∃ c2, c2 = cs.take 1 ++ [.int .i64 li, .int .i64 co] ++ cs.drop 3 := ⟨_, rfl⟩
  have HSV := aP (show SV W4 (· < W2.heap.size) c2 (atS li co a4) from hc2 ▸ hsv.at li co)
  have HL2 := aP HSV.out.len
  have HO2 := aP HSV.out.one1
  have HC2 := aP hc2
  have HKW : Hid (Kept (· = R) w W4) := aP kp
  have HTK4 := aP (show Cells W4 W1.heap.size 92 [.int .i64 q, .string txt, .int .i64 nu, .int .i64 li, .int .i64 co] from (have q := HTK.out; kcl))
  have HBW := aP (show Cells W4 w.heap.size 63 zeroSt from (have q := HB.out; kcl))
  have hbl := HTK4.out.lt
  clear hsv hc2
  go_wp2_with (first
    | ((with_reducible refine ats ?_); refine wpList_store_part rfl rfl 63 (.tmp 5) (.tmp 34) rfl (W4.heap.size) 0 rfl cs rfl (Cells.fresh W4 63 zeroSt) (by rw [HL.out]; exact Nat.le_of_ble_eq_true rfl) (by rw [HL.out]; kernel_rfl) HO.out ?_; intro W5 hB5 hk5; have HB5 := aP (show Cells W5 W4.heap.size 63 cs from by (rw [HL.out, show zeroSt.take 0 ++ cs ++ zeroSt.drop (0 + 25) = cs from by simp [zeroSt]] at hB5; exact hB5)); clear hB5)
    | ((with_reducible refine atl ?_); refine wpList_load_part rfl 25 (.tmp 35) rfl (W1.heap.size) 3 rfl _ Tryz.underlying25 rfl [.int .i64 li, .int .i64 co] krf (cells_sub HTK4.out hk5 kom) ?_)
    | ((with_reducible refine ats ?_); refine wpList_store_part rfl rfl 25 (.tmp 37) (.tmp 36) rfl (W4.heap.size) 1 rfl [.int .i64 li, .int .i64 co] rfl HB5.out (by rw [HL.out]; exact Nat.le_of_ble_eq_true rfl) krf k1c ?_; intro W6 hB6 hk6; have HB6 := aP (show Cells W6 W4.heap.size 63 c2 from by (rw [HC2.out]; exact hB6)); clear hB6)
    | ((with_reducible refine atl ?_); refine wpList_load_cells rfl 63 (.tmp 5) rfl (W4.heap.size) rfl _ Tryz.underlying63 rfl HB6.out (by rw [HL2.out]; kernel_rfl) ?_)
    | ((with_reducible refine ats ?_); refine wpList_store_part rfl rfl 63 (.tmp 2) (.tmp 38) rfl (w.heap.size) 0 rfl c2 rfl (((HBW.out.alloc _).kept hk5 kom).kept hk6 kom) (by rw [HL2.out]; exact Nat.le_of_ble_eq_true rfl) (by rw [HL2.out]; kernel_rfl) HO2.out ?_; intro W7 hB7 hk7; have HB7 := aP (show Cells W7 w.heap.size 63 c2 from by (rw [HL2.out, show zeroSt.take 0 ++ c2 ++ zeroSt.drop (0 + 25) = c2 from by simp [zeroSt]] at hB7; exact hB7)); clear hB7))
  have lb5 := hk5.size
  rw [World.size_alloc] at lb5
  have lb6 := hk6.size
  refine ret_box Tryz.results170 rfl HB7.out Tryz.underlying63 rfl (by rw [HL2.out]; kernel_rfl) rfl (Parsed.ok HS.out ⟨_, rfl, ?_⟩ kdr ((((HKW.out.alloc _).own hk5 kom).own hk6 kom).own hk7 kom))
  exact (((((HSV.out.mono (Z' := fun g => g < W2.heap.size ∨ W4.heap.size ≤ g) (fun g hg h => by have h : g < W2.heap.size ∨ W4.heap.size ≤ g := h; show g < _; omega)).keep ((Kept.refl _ _).alloc _)).kept hk5 (fun g _ h => by have h : g = W4.heap.size := h; show _ ∨ _; omega)).kept hk6 (fun g _ h => by have h : g = W4.heap.size := h; show _ ∨ _; omega)).kept hk7 (fun g _ h => by have h : g = w.heap.size := h; show _ ∨ _; omega)).mono (fun g _ h => by have h : g < w.heap.size := h; show _ ∨ _; omega)
 | true =>
  have hne : (q == 3) = true := by rw [← hq3, HT.out] <;> rfl
  rw [hq3, if_pos rfl] at HS
  have hd2 := hd1.alloc (.cells #[.int .i64 q, .string txt, .int .i64 nu, .int .i64 li, .int .i64 co] 92)
  have HTK := aP (Cells.fresh W1 92 [.int .i64 q, .string txt, .int .i64 nu, .int .i64 li, .int .i64 co])
  go_wp2_with fail
  obtain ⟨W2, hW2⟩ : ∃ W2, W2 = W1.alloc (.cells #[.int .i64 q, .string txt, .int .i64 nu, .int .i64 li, .int .i64 co] 92) := ⟨_, rfl⟩
  have hk2 : Kept noX W1 W2 := hW2 ▸ (Kept.refl _ _).alloc _
  rw [← hW2] at hd2 HTK ⊢
  clear hW2
  have lb2 := hk2.size
  have hft := HFO.out W2 hd2.inv
  have c3 : W2.cell? ⟨R, 3, none⟩ = some (.map (some S.forms)) := by
   obtain ⟨A, C, hc, _⟩ := hd2.is
   exact hc.cell 3
  have c1 : W2.cell? ⟨W1.heap.size, 1, none⟩ = some (.string txt) := HTK.out.cell 1
  have hlk : ∀ n, (Instr.lookup 77 (.map (some S.forms)) (.string txt) false).run Tryz.prog (W2.drewN n) = .ok ((lookV (formsV S.fb) txt).getD .nilFunc) (W2.drewN n) := fun n => run_flook (hft.map.kept ((Kept.refl noX W2).drewN n) (fun h => h)) txt Tryz.underlying77 Tryz.underlying9 krf
  have HFT := aP hft
  clear hft
  rcases HF.out.find txt with ⟨h1, h2⟩ | ⟨v, r, h1, h2, h3⟩
  ·rw [h1] at hlk
   have hX : stmtS S (f + 1) k = .error k := by rw [HS.out]; unfold formS; rw [h2]
   clear HS
   have HS := aP hX
   clear hX h1 h2
   go_quiet (fail)
   have hdq := hd2.drewN nq
   have hkq : Kept noX W2 (W2.drewN nq) := (Kept.refl _ _).drewN nq
   go_wp2_with fail
   refine (refuse_any (S := S) (k := k) kdr).mono ?_
   rintro e W3 ⟨hm, hk3⟩
   unfold Misfit at hm
   subst hm
   go_wp2
   exact ⟨rfl, Parsed.err HS.out rfl kp⟩
  ·rw [h1] at hlk
   have hX : stmtS S (f + 1) k = thn (r (k + 1)) fun s k' => .ok (atS li co s, k') := by rw [HS.out]; unfold formS; rw [h2]
   have htx : txt ≠ ⟨#[]⟩ := by
    rintro rfl
    have hh : lookV (formsV S.fb) ⟨#[]⟩ = none := by simp [lookV, formsV, kLet, kIf, kWhile, kLock, kUnlock, kWait, kSignal, kAll, kSend, kRecv, kSpawn, kJoin, kPrint]
    rw [hh] at h1
    cases h1
   have htk : takeB S k txt = true := by unfold takeB; rw [HTOK.out]; simp
   have HTX := aP htx
   have HTKB := aP htk
   clear HS
   have HS := aP hX
   obtain ⟨g, caps, rfl, eg, hg⟩ := h3
   have HG := aP hg
   clear hX h1 h2 hg htx htk
   go_quiet (fail)
   obtain ⟨W3, hW3⟩ : ∃ W3, W3 = W2.drewN nq := ⟨_, rfl⟩
   have hk3 : Kept noX W2 W3 := hW3 ▸ (Kept.refl _ _).drewN nq
   have c1' : W3.cell? ⟨W1.heap.size, 1, none⟩ = some (.string txt) := (HTK.out.keep hk3).cell 1
   rw [← hW3]
   clear hW3 c1 hlk c3
   have lb3 := hk3.size
   go_wp2_with fail
   go_still_tail 5, krf
   go_wp2_with fail
   have hd3 := hd2.keep hk3
   refine (take_any (S := S) (k := k) HTX.out hd3.drew).mono ?_
   rintro e W8 ⟨rfl, hd8, hk8'⟩
   have hk8 : Kept (· = R) W3 W8 := ((Kept.refl _ _).drew).trans hk8'
   clear hk8'
   rw [HTKB.out] at hd8 ⊢
   replace hd8 : DR W8 R S (k + 1) := hd8
   have lb8 := hk8.size
   have HTK3 := aP (HTK.out.keep hk3)
   have hk28 : Kept (· = R) W2 W8 := hk3.any.trans hk8
   clear HTK
   have HTK := aP (show Cells W8 W1.heap.size 92 [.int .i64 q, .string txt, .int .i64 nu, .int .i64 li, .int .i64 co] from HTK3.out.kept hk8 kom)
   clear HTK3
   go_wp2_with fail
   refine (HG.out _ (k + 1) kom hd8).mono ?_
   intro e W4 hq
   rcases hq.cases with ⟨kx, hr, hm, hk4⟩ | ⟨a4, k4, hr, hret, hd4, hk4⟩
   ·exact k_3
   replace HS := aP (HS.out.trans (by rw [hr, thn_ok]))
   clear hr hq
   have lb4 := hk4.size
   obtain ⟨cs, rfl, hsv⟩ := hret
   have HL := aP hsv.len
   have HO := aP hsv.one1
   obtain ⟨c2, hc2⟩ : ∃ c2, c2 = cs.take 1 ++ [.int .i64 li, .int .i64 co] ++ cs.drop 3 := ⟨_, rfl⟩
   have HSV := aP (show SV W4 (· < W8.heap.size) c2 (atS li co a4) from hc2 ▸ hsv.at li co)
   have HL2 := aP HSV.out.len
   have HO2 := aP HSV.out.one1
   have HC2 := aP hc2
   have HKW : Hid (Kept (· = R) w W4) := aP kp
   have HTK4 := aP (show Cells W4 W1.heap.size 92 [.int .i64 q, .string txt, .int .i64 nu, .int .i64 li, .int .i64 co] from (have q := HTK.out; kcl))
   have HBW := aP (show Cells W4 w.heap.size 63 zeroSt from (have q := HB.out; kcl))
   have hbl := HTK4.out.lt
   clear hsv hc2
   go_wp2_with (first
     | ((with_reducible refine ats ?_); refine wpList_store_part rfl rfl 63 (.tmp 5) (.tmp 34) rfl (W4.heap.size) 0 rfl cs rfl (Cells.fresh W4 63 zeroSt) (by rw [HL.out]; exact Nat.le_of_ble_eq_true rfl) (by rw [HL.out]; kernel_rfl) HO.out ?_; intro W5 hB5 hk5; have HB5 := aP (show Cells W5 W4.heap.size 63 cs from by (rw [HL.out, show zeroSt.take 0 ++ cs ++ zeroSt.drop (0 + 25) = cs from by simp [zeroSt]] at hB5; exact hB5)); clear hB5)
     | ((with_reducible refine atl ?_); refine wpList_load_part rfl 25 (.tmp 35) rfl (W1.heap.size) 3 rfl _ Tryz.underlying25 rfl [.int .i64 li, .int .i64 co] krf (cells_sub HTK4.out hk5 kom) ?_)
     | ((with_reducible refine ats ?_); refine wpList_store_part rfl rfl 25 (.tmp 37) (.tmp 36) rfl (W4.heap.size) 1 rfl [.int .i64 li, .int .i64 co] rfl HB5.out (by rw [HL.out]; exact Nat.le_of_ble_eq_true rfl) krf k1c ?_; intro W6 hB6 hk6; have HB6 := aP (show Cells W6 W4.heap.size 63 c2 from by (rw [HC2.out]; exact hB6)); clear hB6)
     | ((with_reducible refine atl ?_); refine wpList_load_cells rfl 63 (.tmp 5) rfl (W4.heap.size) rfl _ Tryz.underlying63 rfl HB6.out (by rw [HL2.out]; kernel_rfl) ?_)
     | ((with_reducible refine ats ?_); refine wpList_store_part rfl rfl 63 (.tmp 2) (.tmp 38) rfl (w.heap.size) 0 rfl c2 rfl (((HBW.out.alloc _).kept hk5 kom).kept hk6 kom) (by rw [HL2.out]; exact Nat.le_of_ble_eq_true rfl) (by rw [HL2.out]; kernel_rfl) HO2.out ?_; intro W7 hB7 hk7; have HB7 := aP (show Cells W7 w.heap.size 63 c2 from by (rw [HL2.out, show zeroSt.take 0 ++ c2 ++ zeroSt.drop (0 + 25) = c2 from by simp [zeroSt]] at hB7; exact hB7)); clear hB7))
   have lb5 := hk5.size
   rw [World.size_alloc] at lb5
   have lb6 := hk6.size
   refine ret_box Tryz.results170 rfl HB7.out Tryz.underlying63 rfl (by rw [HL2.out]; kernel_rfl) rfl (Parsed.ok HS.out ⟨_, rfl, ?_⟩ kdr ((((HKW.out.alloc _).own hk5 kom).own hk6 kom).own hk7 kom))
   exact (((((HSV.out.mono (Z' := fun g => g < W8.heap.size ∨ W4.heap.size ≤ g) (fun g hg h => by have h : g < W8.heap.size ∨ W4.heap.size ≤ g := h; show g < _; omega)).keep ((Kept.refl _ _).alloc _)).kept hk5 (fun g _ h => by have h : g = W4.heap.size := h; show _ ∨ _; omega)).kept hk6 (fun g _ h => by have h : g = W4.heap.size := h; show _ ∨ _; omega)).kept hk7 (fun g _ h => by have h : g = w.heap.size := h; show _ ∨ _; omega)).mono (fun g _ h => by have h : g < w.heap.size := h; show _ ∨ _; omega)
end
theorem fill_one (cells : Array Value) (cs : List Value) (h : cells.size = cs.length) (hp : 0 < cs.length) :
  Instr.fill (fun i => some (i * cs.length, cs.length)) cells [(0, .agg cs.toArray)] = some cs.toArray := by
 obtain ⟨r, h1, h2, h3⟩ := Great.fill_dense hp [.agg cs.toArray] 0 cells (fun v hv => by simp at hv; subst hv; simp [Value.cells]) (by simp; omega)
 have e : ([Value.agg cs.toArray].zipIdx 0).map (fun x => (x.2, x.1)) = [(0, .agg cs.toArray)] := rfl
 rw [e] at h1
 rw [h1]
 congr 1
 apply Array.ext_getElem?
 intro k
 rw [h3 k]
 simp only [List.length_cons, List.length_nil, Nat.zero_add, Nat.one_mul, Nat.zero_mul, Nat.zero_le, true_and]
 by_cases hk : k < cs.length
 ·rw [if_pos hk, Nat.div_eq_of_lt hk, Nat.mod_eq_of_lt hk]
  simp [Value.cells]
 ·rw [if_neg hk, Array.getElem?_eq_none kom, Array.getElem?_eq_none (by simp; omega)]
def Grows (W : World) (base : Nat) (t : TypeId) (size : Nat) (v : Value) (ds : List D) : Prop :=
 ∃ xs, W.ownsRow base t size v ds.length xs ∧ ∀ i (hi : i < ds.length), Rep W (fun g => g < base ∨ some g = v.ownBlock) ((xs.drop (i * size)).take size) ds[i]
section
variable {W W' : World} {base : Nat} {t : TypeId} {size : Nat} {v : Value} {ds : List D}
theorem Grows.nil (W : World) (base : Nat) (t : TypeId) (size : Nat) : Grows W base t size (.slice none 0 0) [] :=
 ⟨[], ⟨by simp, .inl ⟨rfl, rfl⟩⟩, fun i hi => by simp at hi⟩
theorem Grows.own_ge (h : Grows W base t size v ds) {g : Nat} (hg : v.ownBlock = some g) : base ≤ g := by
 obtain ⟨xs, ⟨_, ⟨rfl, _⟩ | ⟨g', cap, cur, rfl, hb, _⟩⟩, _⟩ := h
 ·simp [Value.ownBlock] at hg
 ·simp [Value.ownBlock] at hg; omega
theorem Grows.kept {X : Nat → Prop} (h : Grows W base t size v ds) (hk : Kept X W W') (hx : ∀ g, X g → g < base) : Grows W' base t size v ds := by
 have ho := fun g => h.own_ge (g := g)
 obtain ⟨xs, h1, h2⟩ := h
 exact ⟨xs, own_kept h1 hk (fun g hg hX => by have := ho g hg; have := hx g hX; omega), fun i hi => (h2 i hi).kept hk (fun g _ hX => .inl (hx g hX))⟩
theorem base0 {xs : List Value} {n : Nat} (h : W.ownsRow base t size v n xs) : W.ownsRow 0 t size v n xs := by
 obtain ⟨h1, h2 | ⟨g, cap, cur, hv, _, h3⟩⟩ := h
 ·exact ⟨h1, .inl h2⟩
 ·exact ⟨h1, .inr ⟨g, cap, cur, hv, Nat.zero_le _, h3⟩⟩
theorem cells_at (W : World) (e : TypeId) (cs : List Value) : ∀ j u, cs[j]? = some u → (W.alloc (.cells cs.toArray e)).cell? ((⟨W.heap.size, 0, none⟩ : Addr).add j) = some u := by
 intro j u hj
 have : (⟨W.heap.size, 0, none⟩ : Addr).add j = ⟨W.heap.size, j, none⟩ := by unfold Addr.add; split <;> simp_all
 rw [this]
 exact ((Cells.fresh W e cs).cell j).trans hj
theorem Grows.row (h : Grows W base t size v ds) (hp : 0 < size) : RowV W (· < base) v ds := by
 have ho := fun g => h.own_ge (g := g)
 obtain ⟨xs, h1, h2⟩ := h
 refine RowV.own (base0 h1) hp (fun g hg hX => by have := ho g hg; have hX : g < base := hX; omega) (fun i hi => (h2 i hi).mono (fun g _ hX => .inl hX))
theorem Grows.form (h : Grows W base t size v ds) : ∃ A n c, v = .slice A n c ∧ n = ds.length ∧ n ≤ c ∧ c ≤ maxLen := by
 obtain ⟨xs, ⟨_, ⟨rfl, h0⟩ | ⟨g', cap, cur, rfl, hb, _, h3, h4, _⟩⟩, _⟩ := h
 ·exact ⟨_, _, _, rfl, h0.symm, Nat.le_refl _, Nat.zero_le _⟩
 ·exact ⟨_, _, _, rfl, rfl, h3, h4⟩
variable {P : Program}
theorem wpList_append_struct {ops : Array Oper} {rest : List Oper} {o1 o2 : Oper} {a : Act} {Q : Exit → Act → World → Prop} (hg1 : o1.guard = none) (hg2 : o2.guard = none) (st e : TypeId) (x s : Operand) (d1 : Tmp)
  (ho1 : o1.op = .buildSlice st 1 #[(0, x)]) (hd1 : o1.dst = some d1) (ho2 : o2.op = .call { callee := .builtin .append, args := #[s, .tmp d1], argTypes := #[st, st] })
  (ie : TypeInfo) (z : Value) (bytes : Nat) (hu : P.underlying st = some (.slice e)) (hie : P.info? e = some ie) (hz : ie.zero = some z) (hsize : ie.size = size) (hby : ie.bytes = bytes) (hzs : z.cells.size = size) (hp : 0 < size) (hs24 : size ≤ 2 ^ 24)
  (h : Grows W base e size v ds) (hs' : (a.put (some d1) (.slice (some ⟨W.heap.size, 0, none⟩) 1 1)).eval s = v) (hx' : (a.put (some d1) (.slice (some ⟨W.heap.size, 0, none⟩) 1 1)).eval (.tmp d1) = .slice (some ⟨W.heap.size, 0, none⟩) 1 1)
  {cs : List Value} {d : D} (hx : a.eval x = .agg cs.toArray) (hl : cs.length = size) (hd : Rep W (fun g => g < base ∨ some g = v.ownBlock) cs d) (hb : base ≤ W.heap.size)
  (hmax : ds.length + 1 ≤ maxLen) (hbytes : (ds.length + 1) * bytes ≤ 140737488355328)
  (hn : ∀ v' W', Grows W' base e size v' (ds ++ [d]) → Kept (fun g => some g = v.ownBlock) W W' → wpList P ops Q rest ((a.put (some d1) (.slice (some ⟨W.heap.size, 0, none⟩) 1 1)).put o2.dst v') W') :
  wpList P ops Q (o1 :: o2 :: rest) a W := by
 subst hl
 refine wpList_buildSlice hg1 st e 1 #[(0, x)] ho1 cs.toArray ie z hu hie hz (by rw [hsize]; omega) (by rw [hsize]; omega) ?_ ?_
 ·rw [hsize]
  have : ((#[(0, x)] : Array (Nat × Operand)).map fun (i, x) => (i, a.eval x)).toList = [(0, a.eval x)] := by simp
  rw [this, hx]
  exact fill_one _ cs (by simp) hp
 rw [hd1]
 have ho := fun g => h.own_ge (g := g)
 obtain ⟨xs, h1, h2⟩ := h
 refine wpList_append_own_at _ hg2 s (.tmp d1) st ho2 base e ie z cs.length bytes hu hie hz hsize hby hzs hp v ds.length xs hs' (h1.alloc _) ⟨W.heap.size, 0, none⟩ 1 1 cs hx' kom (cells_at W e cs) (Rep.one hd) hmax hbytes (by rw [World.size_alloc]; omega) ?_
 intro v' W' h3 h4 _ h5
 have hk : Kept (fun g => some g = v.ownBlock) W W' := (((Kept.refl _ _).alloc _).grown h4 (fun k hk _ => hk.symm))
 refine hn v' W' ⟨xs ++ cs, by simpa using h3, fun i hi => ?_⟩ hk
 have hZ : ∀ g, g < W.heap.size → (g < base ∨ some g = v'.ownBlock) → (g < base ∨ some g = v.ownBlock) := fun g hg hh => by
  rcases hh with hh | hh
  ·exact .inl hh
  ·rcases h5 with h5 | h5
   ·exact .inr (hh.trans h5)
   ·rw [h5, World.size_alloc] at hh
    injection hh with hh
    omega
 have hend : ∀ cs d, Rep W (fun g => g < base ∨ some g = v.ownBlock) cs d → Rep W' (fun g => g < base ∨ some g = v'.ownBlock) cs d := fun cs d hh =>
  ((hh.mono (Z' := fun g => (g < base ∨ some g = v.ownBlock) ∨ (g < base ∨ some g = v'.ownBlock)) (fun g hg hX => hX.elim id (hZ g hg))).kept hk (fun g _ hX => .inl (.inr hX))).mono (fun g _ hX => .inr hX)
 have hxl := h1.1
 simp only [List.length_append, List.length_cons, List.length_nil] at hi
 by_cases hlt : i < ds.length
 ·rw [List.getElem_append_left hlt]
  have e1 : (i + 1) * cs.length ≤ ds.length * cs.length := Nat.mul_le_mul_right _ hlt
  have e2 : (i + 1) * cs.length = i * cs.length + cs.length := Nat.succ_mul i _
  rw [List.drop_append_of_le_length kom, List.take_append_of_le_length (by rw [List.length_drop]; omega)]
  exact hend _ _ (h2 i hlt)
 ·have : i = ds.length := by omega
  subst this
  rw [List.getElem_append_right (Nat.le_refl _)]
  simp only [Nat.sub_self, List.getElem_cons_zero]
  rw [← hxl, List.drop_left, List.take_length]
  exact hend _ _ hd
end
def Fw {α : Type} (r : Except Nat (α × Nat)) (j : Nat) : Prop := ∀ p, r = .ok p → j ≤ p.2
theorem Fw.ok {α : Type} {a : α} {k j : Nat} (h : j ≤ k) : Fw (.ok (a, k)) j := fun _ hp => by cases hp; exact h
theorem Fw.err {α : Type} {k j : Nat} : Fw (α := α) (.error k) j := fun _ hp => by cases hp
theorem Fw.thn {α β : Type} {r : Except Nat (α × Nat)} {g : α → Nat → Except Nat (β × Nat)} {i j : Nat} (h1 : Fw r i) (h : ∀ a k, i ≤ k → Fw (g a k) j) : Fw (thn r g) j := fun p hp => by
 obtain ⟨a, k, h2, h3⟩ := thn_some hp
 exact h a k (h1 _ h2) p h3
section
variable {S : Src} {f k : Nat}
theorem fw_want (s : ByteArray) : Fw (wantS S k s) (k + 1) := fun _ hp => by rw [(wantS_some hp).1]; exact Nat.le_refl _
theorem fw_name : Fw (nameS S k) (k + 1) := fun _ hp => by rw [(nameS_some hp).1]; exact Nat.le_refl _
theorem fw_expr : Fw (exprS S k) (k + 1) := fun _ hp => exprS_fwd hp
theorem fw_worth : Fw (worthS S k) (k + 1) := fw_expr.thn fun _ _ h => (fw_want _).thn fun _ _ h2 => .ok kom
theorem fw_naming (q : Int) : Fw (namingS S q k) (k + 1) := fw_name.thn fun _ _ h => (fw_want _).thn fun _ _ h2 => .ok kom
theorem fw_namingTwo (q : Int) : Fw (namingTwoS S q k) (k + 1) := fw_name.thn fun _ _ h => fw_name.thn fun _ _ h2 => (fw_want _).thn fun _ _ h3 => .ok kom
theorem fw_assign : Fw (assignS S k) (k + 1) := fw_name.thn fun a k' h => by
 split
 ·exact fw_expr.thn fun _ _ h1 => (fw_want _).thn fun _ _ h2 => (fw_want _).thn fun _ _ h3 => fw_worth.thn fun _ _ h4 => .ok kom
 ·exact (fw_want _).thn fun _ _ h2 => fw_worth.thn fun _ _ h4 => .ok kom
theorem fw_choice {B : Nat → Except Nat (List ST × Nat)} (hB : ∀ k, Fw (B k) (k + 1)) : Fw (choiceS S B k) (k + 1) := fw_expr.thn fun _ _ h => (hB _).thn fun _ _ h2 => by
 split
 ·exact (hB _).thn fun _ _ h3 => .ok kom
 ·exact .ok kom
theorem fw_let : Fw (letS S k) (k + 1) := fw_name.thn fun _ _ h => (fw_want _).thn fun _ _ h2 => fw_worth.thn fun _ _ h3 => .ok kom
theorem fw_loop {B : Nat → Except Nat (List ST × Nat)} (hB : ∀ k, Fw (B k) (k + 1)) : Fw (loopS S B k) (k + 1) := fw_expr.thn fun _ _ h => (hB _).thn fun _ _ h2 => .ok kom
theorem fw_send : Fw (sendS S k) (k + 1) := fw_name.thn fun _ _ h => fw_worth.thn fun _ _ h3 => .ok kom
theorem fw_join : Fw (joinS S k) (k + 1) := (fw_want _).thn fun _ _ h3 => .ok kom
theorem fw_print : Fw (printS S k) (k + 1) := fw_worth.thn fun _ _ h3 => .ok kom
theorem fw_forms {B : Nat → Except Nat (List ST × Nat)} (hB : ∀ k, Fw (B k) (k + 1)) {p : ByteArray × (Nat → Except Nat (ST × Nat))} (hp : p ∈ formsL S B) (k : Nat) : Fw (p.2 k) (k + 1) := by
 simp only [formsL, List.mem_cons, List.not_mem_nil, or_false] at hp
 rcases hp with rfl | rfl | rfl | rfl | rfl | rfl | rfl | rfl | rfl | rfl | rfl | rfl | rfl
 ·exact fw_let
 ·exact fw_choice hB
 ·exact fw_loop hB
 ·exact fw_naming _
 ·exact fw_naming _
 ·exact fw_namingTwo _
 ·exact fw_naming _
 ·exact fw_naming _
 ·exact fw_send
 ·exact fw_namingTwo _
 ·exact fw_naming _
 ·exact fw_join
 ·exact fw_print
theorem fw_form {B : Nat → Except Nat (List ST × Nat)} (hB : ∀ k, Fw (B k) (k + 1)) {t : ByteArray} {r : Nat → Except Nat (ST × Nat)} (hr : formS S B t = some r) (k : Nat) : Fw (r k) (k + 1) := by
 unfold formS at hr
 obtain ⟨p, hp, rfl⟩ := Option.map_eq_some_iff.1 hr
 exact fw_forms hB (List.mem_of_find?_eq_some hp) k
theorem fw_all (S : Src) : ∀ f, (∀ k, Fw (stmtS S f k) (k + 1)) ∧ (∀ k, Fw (blockS S f k) (k + 1)) ∧ (∀ k, Fw (restS S f k) (k + 1)) := by
 intro f
 induction f with
 | zero => exact ⟨fun k => (by rw [stmtS]; exact .err), fun k => (by rw [blockS]; exact .err), fun k => (by rw [restS]; exact .err)⟩
 | succ f ih =>
  obtain ⟨h1, h2, h3⟩ := ih
  refine ⟨fun k => ?_, fun k => ?_, fun k => ?_⟩
  ·rw [stmtS]
   split
   ·split
    ·rename_i r hr
     exact (fw_form h2 hr _).thn fun _ _ h => .ok kom
    ·exact .err
   ·exact fw_assign.thn fun _ _ h => .ok kom
  ·rw [blockS]
   exact (fw_want _).thn fun _ k' h p hp => by have := h3 k' p hp; omega
  ·rw [restS]
   split
   ·exact .ok kom
   ·exact (h1 _).thn fun _ k' h => (h3 _).thn fun _ _ h' => .ok kom
theorem infoSt : (Tryz.prog.info? 63).map (fun i => (i.zero, i.size, decide (i.bytes ≤ 1000))) = some (some (.agg zeroSt.toArray), 25, true) := by kernel_rfl
theorem info_cut {P : Program} {t : TypeId} {z : Option Value} {s : Nat} (h : (P.info? t).map (fun i => (i.zero, i.size, decide (i.bytes ≤ 1000))) = some (z, s, true)) : ∃ i, P.info? t = some i ∧ i.zero = z ∧ i.size = s ∧ i.bytes ≤ 1000 := by
 cases hi : P.info? t with
 | none => rw [hi] at h; cases h
 | some i =>
  rw [hi] at h
  simp only [Option.map_some, Option.some.injEq, Prod.mk.injEq, decide_eq_true_eq] at h
  exact ⟨i, rfl, h.1, h.2.1, h.2.2⟩
end
section
variable {S : Src} {f R k : Nat} {w : World}
theorem block_own {W : World} {base : Nat} {t : TypeId} {size : Nat} {v : Value} {ds : List D} (h : Grows W base t size v ds) {g : Nat} (hg : v.ownBlock = some g) : g < W.heap.size := by
 obtain ⟨xs, h1, _⟩ := h
 exact (h1.lt g hg).2
def BlkI (S : Src) (f R : Nat) (w : World) (r : Except Nat (List ST × Nat)) (m : Nat) (v : Value) (wr : World) : Prop :=
 ∃ (ds : List ST) (k g : Nat), Grows wr w.heap.size 63 25 v (ST.ds ds) ∧ DR wr R S k ∧ Kept (· = R) w wr ∧ m = S.n - k ∧ (S.n - k) * 3 + 3 ≤ g ∧ g ≤ f ∧ ds.length ≤ k ∧ thn (restS S g k) (fun l k => .ok (ds ++ l, k)) = r
theorem block_step (hSt : ∀ g, g < f → StmtC S g) : BlockC S (f + 1) := by
 intro R k w h hf
 have HS : Hid (blockS S (f + 1) k = thn (wantS S k ⟨#[123]⟩) fun _ k => restS S f k) := aP (by rw [blockS])
 have HST := aP hSt
 have HFW := aP (fun p h => wantS_some (S := S) (k := k) (s := ⟨#[123]⟩) (p := p) h)
 have hRl := h.lt
 clear hSt
 go_enter Tryz.func128, Tryz.ntmps128
 go_wp2_with fail
 refine (want_any (S := S) (k := k) (s := ⟨#[123]⟩) (by decide) h).mono ?_
 intro e W1 hq
 rcases hq.cases with ⟨kx, hr, hm, hk1⟩ | ⟨a1, k1, hr, hret, hd1, hk1⟩
 ·unfold Misfit at hm
  subst hm
  have HX := aP hr
  clear hr
  go_wp2
  exact ⟨rfl, Parsed.err (HS.out.trans (by rw [HX.out] <;> rfl)) rfl hk1⟩
 obtain ⟨hp1, hp2⟩ := HFW.out _ hr
 injection hp1 with _ hp1
 have hlt := takeB_lt hp2 (by decide)
 replace HS := aP (HS.out.trans (by rw [hr, thn_ok]))
 clear hr hq hp2
 have hret : e = _ := hret
 subst hret
 have lb1 := hk1.size
 have hI : BlkI S f R w (blockS S (f + 1) k) (S.n - k1) (.slice none 0 0) W1 := ⟨[], k1, f, Grows.nil _ _ _ _, hd1, hk1, rfl, by omega, Nat.le_refl _, Nat.zero_le _, by
   rw [HS.out]
   cases restS S f k1 with
   | error k => rfl
   | ok p => rfl⟩
 have HI := aP hI
 clear hI
 go_wp2_with fail
 go_loopg [3] (S.n - k1) (fun m v3 wr => BlkI S f R w (blockS S (f + 1) k) m v3 wr)
 case atStart => exact HI.out
 case round =>
  obtain ⟨ds, kk, g, hgr, hdr, hkr, rfl, hg1, hg2, hdl, hrr⟩ := hrel
  obtain ⟨g', rfl⟩ : ∃ g', g = g' + 1 := ⟨g - 1, by omega⟩
  have hfew := hdr.few
  have hle := hdr.le
  have hsr := hkr.size
  have hRr : R < wr.heap.size := by omega
  have HGR := aP hgr
  have HKR := aP hkr
  have hrs : restS S (g' + 1) kk = if takeB S kk ⟨#[125]⟩ then .ok ([], kk + 1) else thn (stmtS S g' kk) fun s k => thn (restS S g' k) fun l k => .ok (s :: l, k) := by rw [restS]
  rw [hrs] at hrr
  clear hrs hgr hkr
  have HDR := aP hdr
  cases ht : takeB S kk ⟨#[125]⟩ with
  | true =>
   rw [ht, if_pos rfl, thn_ok, List.append_nil] at hrr
   have HRR := aP hrr
   have HT2 := aP ht
   clear hrr ht
   go_wp2_with fail
   refine (take_any (S := S) (k := kk) (by decide) HDR.out).mono ?_
   rintro e W2 ⟨rfl, hd2, hk2⟩
   rw [HT2.out] at hd2 ⊢
   replace hd2 : DR W2 R S (kk + 1) := hd2
   go_wp2
   go_ret
   have hg2 := HGR.out.kept hk2 (fun b hb => by have hb : b = R := hb; omega)
   exact Parsed.ok HRR.out.symm ⟨_, rfl, hg2.row (by decide)⟩ hd2 (HKR.out.trans hk2)
  | false =>
   rw [ht, if_neg Bool.false_ne_true] at hrr
   have HRR := aP hrr
   have HT2 := aP ht
   clear hrr ht
   go_wp2_with fail
   refine (take_any (S := S) (k := kk) (by decide) HDR.out).mono ?_
   rintro e W2 ⟨rfl, hd2, hk2⟩
   rw [HT2.out] at hd2 ⊢
   replace hd2 : DR W2 R S kk := hd2
   have lb2 := hk2.size
   have hG2 := HGR.out.kept hk2 (fun b hb => by have hb : b = R := hb; omega)
   have HG2 := aP hG2
   have HK2 := aP (HKR.out.trans hk2)
   clear hG2
   go_wp2_with fail
   refine (HST.out g' kom R kk W2 hd2 kom).mono ?_
   intro e W3 hq
   rcases hq.cases with ⟨kx, hr, hm, hk3⟩ | ⟨a3, k3, hr, hret, hd3, hk3⟩
   ·unfold Misfit at hm
    subst hm
    have HX := aP (show blockS S (f + 1) k = .error kx from by rw [← HRR.out, hr, thn_err, thn_err])
    clear hr
    go_wp2
    exact ⟨rfl, Parsed.err HX.out rfl (HK2.out.trans hk3)⟩
   have hk3k := (fw_all S g').1 kk _ hr
   dsimp only at hk3k
   have HRX := aP (show thn (restS S g' k3) (fun l k => .ok (ds ++ [a3] ++ l, k)) = blockS S (f + 1) k from by
     rw [← HRR.out, hr, thn_ok]
     cases restS S g' k3 with
     | error k => rfl
     | ok p => simp [thn])
   clear hr hq
   have lb3 := hk3.size
   obtain ⟨cs, rfl, hsv⟩ := hret
   have hG3 := HG2.out.kept hk3 (fun b hb => by have hb : b = R := hb; omega)
   have hl3 := hd3.le
   have hsv2 : Rep W3 (fun b => b < w.heap.size ∨ some b = u3.ownBlock) cs a3.d := Rep.mono hsv (fun b _ hb => by
     show b < W2.heap.size
     rcases hb with hb | hb
     · omega
     · exact block_own HG2.out hb.symm)
   have HSV := aP hsv2
   have HG3 := aP hG3
   have HL := aP (SV.len hsv)
   have HK3 := aP (HK2.out.trans hk3)
   obtain ⟨i0, hi0, hz0, hz1, hz2⟩ := info_cut infoSt
   clear hsv hsv2 hG3
   go_wp2_with (first | ((with_reducible show wpList _ _ _ (Oper.mk _ (Op.buildSlice _ _ _) _ _ _ _ :: _) _ _); refine wpList_append_struct rfl rfl 52 63 (.tmp 15) (.tmp 13) 16 rfl rfl rfl i0 (.agg zeroSt.toArray) i0.bytes Tryz.underlying52 hi0 hz0 hz1 rfl rfl (by decide) kle HG3.out rfl rfl rfl HL.out HSV.out kom (by rw [ST.ds_length]; unfold maxLen; omega) (by rw [ST.ds_length]; exact Nat.le_trans (Nat.mul_le_mul (show ds.length + 1 ≤ 1000001 by omega) hz2) (by decide)) ?_; intro v4 W4 hG4 hk4; have HG4 := aP hG4; clear hG4))
   have ho := fun g (hg : some g = u3.ownBlock) => HG3.out.own_ge hg.symm
   go_roundg (S.n - k3)
   case measure => omega
   case rel =>
    exact ⟨ds ++ [a3], k3, g', (show Grows W4 w.heap.size 63 25 v4 (ST.ds (ds ++ [a3])) from by (have h4 := HG4.out; rw [ST.ds_eq] at h4 ⊢; simpa using h4)),
      hd3.kept hk4 (fun b hb => by have := ho b hb; omega), HK3.out.join hk4 (fun i hi hlt => by have := ho i hi; omega), rfl, by omega, by omega, by simp; omega, HRX.out⟩
theorem reads_ok (hS : SrcOk S) : ∀ f, StmtC S f ∧ BlockC S f := by
 intro f
 induction f using Nat.strongRecOn with
 | _ f ih =>
  cases f with
  | zero => exact ⟨fun R k w h hf => kom, fun R k w h hf => kom⟩
  | succ f => exact ⟨stmt_step hS (fun k p h => (fw_all S f).2.1 k p h) (ih f (Nat.lt_succ_self f)).2, block_step (fun g hg => (ih g kom).1)⟩
def bodyS (S : Src) (k : Nat) : Except Nat (List ST × Nat) := blockS S (S.n * 3 + 1) k
theorem body_calls (hS : SrcOk S) (h : DR w R S k) : Calls Tryz.prog 128 #[.pointer (some ⟨R, 0, none⟩)] w (Parsed w R S retB (bodyS S k)) :=
 (reads_ok hS _).2 R k w h (by have : (S.n - k) * 3 ≤ S.n * 3 := Nat.mul_le_mul_right _ (Nat.sub_le _ _); omega)
end
end Go.Proofs.YtjkgepppoopheaaGreatDoor
