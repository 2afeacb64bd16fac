/- Layer 4's small questions: are numbers within two, is it a thread, a value; what is refused, and as what (conditions: none). -/
import Derived.Test.YtehcfahfbdphpaaRangeDS
namespace Go.Proofs.Ytehcfahfbdphpaa
open Go.RowKit Go.Shelf

theorem Kept.cell {w w' : World} {b o : Nat} {v : Value} (hk : Kept noX w w') (h : w.cell? ⟨b, o, none⟩ = some v) : w'.cell? ⟨b, o, none⟩ = some v :=
  (World.cell?_of_block (hk.block _ (block_lt_of h) (fun h => h))).trans h
theorem all_take1 {α : Type} {f : α → Bool} {l : List α} {i : Nat} (h : i < l.length) : (l.take (i + 1)).all f = ((l.take i).all f && f l[i]) := by
  rw [List.take_add_one, List.getElem?_eq_getElem h, List.all_append]
  simp
theorem all_false {α : Type} {f : α → Bool} {l : List α} {i : Nat} (h : i < l.length) (hf : f l[i] = false) : l.all f = false := by
  rw [Bool.eq_false_iff]
  intro ha
  rw [List.all_eq_true.1 ha _ (List.getElem_mem h)] at hf
  cases hf

def inI (lo hi x : Int) : Bool := decide (lo ≤ x) && decide (x ≤ hi)

set_option maxRecDepth 100000 in
set_option maxHeartbeats 1000000 in
theorem within_any (lo hi : Int) (b o c : Nat) (xs : List Int) (hlen : xs.length ≤ 9223372036854775806) (w : World) (hc : ∀ i (h : i < xs.length), w.cell? ⟨b, o + i, none⟩ = some (.int .i64 xs[i])) :
    Calls Try.prog 34 #[.int .i64 lo, .int .i64 hi, .slice (some ⟨b, o, none⟩) xs.length c] w fun e w' => e = .returned (.bool (xs.all (inI lo hi))) ∧ w' = w := by
  have HC := Lib.hid hc
  clear hc
  go_enter Try.func34, Try.ntmps34
  go_wp2
  go_loopw [11] (fun i wr => ∃ k : Nat, k ≤ xs.length ∧ i = .int .i64 k ∧ (xs.take k).all (inI lo hi) = true ∧ wr = w) (fun i _ => xs.length - (intOf i).toNat)
  case atStart => exact ⟨0, Nat.zero_le _, rfl, rfl, rfl⟩
  case round =>
    obtain ⟨k, hk, rfl, hall, rfl⟩ := hrel
    by_cases hlt : k < xs.length
    · have hd : decide ((k : Int) < (xs.length : Int)) = true := by simpa using hlt
      have hcell := HC.out k hlt
      have HA := Lib.hid (all_take1 (f := inI lo hi) hlt)
      have HH := Lib.hid hall
      clear hall
      by_cases h1 : xs[k] < lo
      · have e1 : decide (xs[k] < lo) = true := by simpa using h1
        have HF := Lib.hid (all_false (f := inI lo hi) hlt (by simp [inI]; omega))
        go_wp2
        go_ret
        exact ⟨by rw [HF.out]; rfl, rfl⟩
      · have e1 : decide (xs[k] < lo) = false := by simpa using h1
        by_cases h2 : hi < xs[k]
        · have e2 : decide (hi < xs[k]) = true := by simpa using h2
          have HF := Lib.hid (all_false (f := inI lo hi) hlt (by simp [inI]; omega))
          go_wp2
          go_ret
          exact ⟨by rw [HF.out]; rfl, rfl⟩
        · have e2 : decide (hi < xs[k]) = false := by simpa using h2
          have HT : Hid (inI lo hi xs[k] = true) := Lib.hid (by simp [inI]; omega)
          go_wp2
          exact ⟨⟨k + 1, hlt, by simp, by rw [HA.out, HH.out, HT.out]; rfl, trivial⟩, by simp [intOf]; omega⟩
    · have hd : decide ((k : Int) < (xs.length : Int)) = false := by simpa using hlt
      have HF : Hid (xs.all (inI lo hi) = true) := Lib.hid (by rw [show k = xs.length by omega, List.take_length] at hall; exact hall)
      clear hall
      go_wp2
      go_ret
      exact ⟨by rw [HF.out]; rfl, rfl⟩

theorem cells_ints {w : World} {g : Nat} {t : TypeId} {xs : List Int} (h : Cells w g t (xs.map (Value.int .i64))) : ∀ i (hi : i < xs.length), w.cell? ⟨g, 0 + i, none⟩ = some (.int .i64 xs[i]) := fun i hi => by
  rw [Nat.zero_add, h.cell i, List.getElem?_map, List.getElem?_eq_getElem hi]
  rfl

set_option maxRecDepth 100000 in
set_option maxHeartbeats 1000000 in
theorem isThread_any (t : Int) (w : World) : Calls Try.prog 39 #[.int .i64 t] w fun e w' => e = .returned (.bool (inI 0 7 t)) ∧ Kept noX w w' := by
  have hC := Cells.fresh w 3 [.int .i64 t]
  have hk : Kept noX w (w.alloc (.cells #[.int .i64 t] 3)) := (Kept.refl _ _).alloc _
  have HW := Lib.hid (within_any 0 7 w.heap.size 0 1 [t] (by simp) _ (cells_ints (xs := [t]) hC))
  clear hC
  go_enter Try.func39, Try.ntmps39
  go_wp2_with fail
  refine HW.out.mono ?_
  rintro e W1 ⟨rfl, rfl⟩
  go_wp2
  go_ret
  exact ⟨by simp, hk⟩

def ref4 (made there : Bool) : Int := if !made then 1 else if !there then 4 else 0
set_option maxRecDepth 100000 in
set_option maxHeartbeats 1000000 in
theorem refusal_4 (made there fits may : Bool) (w : World) :
    Calls Try.prog 40 #[.agg #[.int .i64 4, .bool made, .bool there, .bool fits, .bool may]] w fun e w' => e = .returned (.int .i64 (ref4 made there)) ∧ Kept noX w w' := by
  have hC := Cells.fresh w 91 [.int .i64 4, .bool made, .bool there, .bool fits, .bool may]
  have hk : Kept noX w (w.alloc (.cells #[.int .i64 4, .bool made, .bool there, .bool fits, .bool may] 91)) := (Kept.refl _ _).alloc _
  have c0 := hC.cell 0
  have c1 := hC.cell 1
  have c2 := hC.cell 2
  have c3 := hC.cell 3
  have c4 := hC.cell 4
  simp only [List.getElem?_cons_zero, List.getElem?_cons_succ] at c0 c1 c2 c3 c4
  clear hC
  go_enter Try.func40, Try.ntmps40
  cases made <;> cases there <;> (go_wp2; go_ret; exact ⟨rfl, hk⟩)
def ref2 (made there fits : Bool) : Int := if !made then 1 else if !there then 4 else if !fits then 2 else 0
set_option maxRecDepth 100000 in
set_option maxHeartbeats 1000000 in
theorem refusal_2 (made there fits may : Bool) (w : World) :
    Calls Try.prog 40 #[.agg #[.int .i64 2, .bool made, .bool there, .bool fits, .bool may]] w fun e w' => e = .returned (.int .i64 (ref2 made there fits)) ∧ Kept noX w w' := by
  have hC := Cells.fresh w 91 [.int .i64 2, .bool made, .bool there, .bool fits, .bool may]
  have hk : Kept noX w (w.alloc (.cells #[.int .i64 2, .bool made, .bool there, .bool fits, .bool may] 91)) := (Kept.refl _ _).alloc _
  have c0 := hC.cell 0
  have c1 := hC.cell 1
  have c2 := hC.cell 2
  have c3 := hC.cell 3
  have c4 := hC.cell 4
  simp only [List.getElem?_cons_zero, List.getElem?_cons_succ] at c0 c1 c2 c3 c4
  clear hC
  go_enter Try.func40, Try.ntmps40
  cases made <;> cases there <;> cases fits <;> (go_wp2; go_ret; exact ⟨rfl, hk⟩)
def ref140 (made there fits may : Bool) : Int := if !made then 1 else if !there then 4 else if !fits then 2 else if !may then 140 else 0
set_option maxRecDepth 100000 in
set_option maxHeartbeats 1000000 in
theorem refusal_140 (made there fits may : Bool) (w : World) :
    Calls Try.prog 40 #[.agg #[.int .i64 140, .bool made, .bool there, .bool fits, .bool may]] w fun e w' => e = .returned (.int .i64 (ref140 made there fits may)) ∧ Kept noX w w' := by
  have hC := Cells.fresh w 91 [.int .i64 140, .bool made, .bool there, .bool fits, .bool may]
  have hk : Kept noX w (w.alloc (.cells #[.int .i64 140, .bool made, .bool there, .bool fits, .bool may] 91)) := (Kept.refl _ _).alloc _
  have c0 := hC.cell 0
  have c1 := hC.cell 1
  have c2 := hC.cell 2
  have c3 := hC.cell 3
  have c4 := hC.cell 4
  simp only [List.getElem?_cons_zero, List.getElem?_cons_succ] at c0 c1 c2 c3 c4
  clear hC
  go_enter Try.func40, Try.ntmps40
  cases made <;> cases there <;> cases fits <;> cases may <;> (go_wp2; go_ret; exact ⟨rfl, hk⟩)
def ref141 (made there fits may : Bool) : Int := if !made then 1 else if !there then 4 else if !fits then 2 else if !may then 141 else 0
set_option maxRecDepth 100000 in
set_option maxHeartbeats 1000000 in
theorem refusal_141 (made there fits may : Bool) (w : World) :
    Calls Try.prog 40 #[.agg #[.int .i64 141, .bool made, .bool there, .bool fits, .bool may]] w fun e w' => e = .returned (.int .i64 (ref141 made there fits may)) ∧ Kept noX w w' := by
  have hC := Cells.fresh w 91 [.int .i64 141, .bool made, .bool there, .bool fits, .bool may]
  have hk : Kept noX w (w.alloc (.cells #[.int .i64 141, .bool made, .bool there, .bool fits, .bool may] 91)) := (Kept.refl _ _).alloc _
  have c0 := hC.cell 0
  have c1 := hC.cell 1
  have c2 := hC.cell 2
  have c3 := hC.cell 3
  have c4 := hC.cell 4
  simp only [List.getElem?_cons_zero, List.getElem?_cons_succ] at c0 c1 c2 c3 c4
  clear hC
  go_enter Try.func40, Try.ntmps40
  cases made <;> cases there <;> cases fits <;> cases may <;> (go_wp2; go_ret; exact ⟨rfl, hk⟩)
set_option maxRecDepth 100000 in
set_option maxHeartbeats 1000000 in
theorem whole_any (p : Nat) (w : World) : Calls Try.prog 36 #[.pointer (some ⟨p, 0, none⟩)] w fun e w' => e = .returned (.pointer (some ⟨p, 0, none⟩)) ∧ w' = w := by
  go_enter Try.func36, Try.ntmps36
  go_wp2
  go_ret
  exact ⟨rfl, rfl⟩
set_option maxRecDepth 100000 in
set_option maxHeartbeats 1000000 in
theorem whole_nil (w : World) : Calls Try.prog 36 #[.pointer none] w fun e w' => e = .returned (.pointer (some ⟨w.heap.size, 0, none⟩)) ∧ w' = w.alloc (.cells #[.bool false, .slice none 0 0, .slice none 0 0, .slice none 0 0] 76) := by
  go_enter Try.func36, Try.ntmps36
  go_wp2
  go_ret
  exact ⟨rfl, rfl⟩
end Go.Proofs.Ytehcfahfbdphpaa
