/- What (*reader).sign does: it takes off the longest sign that is there (conditions: the text is of at most 1000000 bytes). -/
import Derived.Test.YtjkgepppoopheaaGreatDoorAbb
import Derived.Test.YtjkgepppoopheaaGreatDoorQ1
import Derived.Maps.Own
import Derived.Maps.Views
import Derived.Laws.MakeOwn
set_option maxRecDepth 100000
set_option maxHeartbeats 1000000
namespace Go.Proofs.YtjkgepppoopheaaGreatDoor
open Go.RowKit Go.Shelf
def letB (x : Int) : Bool := decide (97 ≤ x) && decide (x ≤ 122)
def digB (x : Int) : Bool := decide (48 ≤ x) && decide (x ≤ 57)
def alnB (x : Int) : Bool := letB x || digB x
def blkB (x : Int) : Bool := (x == 32) || (x == 9) || (x == 13) || (x == 10)
theorem letter_any (x : Int) (w : World) :
  Calls Tryz.prog 144 #[.int .u8 x] w fun e w' => e = .returned (.bool (letB x)) ∧ w = w' := by
 go_enter Tryz.func144, Tryz.ntmps144
 go_wp2
 all_goals go_ret
 all_goals exact ⟨by simp [letB]; try omega, rfl⟩
theorem digit_any (x : Int) (w : World) :
  Calls Tryz.prog 163 #[.int .u8 x] w fun e w' => e = .returned (.bool (digB x)) ∧ w = w' := by
 go_enter Tryz.func163, Tryz.ntmps163
 go_wp2
 all_goals go_ret
 all_goals exact ⟨by simp [digB]; try omega, rfl⟩
theorem aln_any (x : Int) (w : World) :
  Calls Tryz.prog 145 #[.int .u8 x] w fun e w' => e = .returned (.bool (alnB x)) ∧ w = w' := by
 cases hl : letB x with
 | true =>
  have h1 : Calls Tryz.prog 144 #[.int .u8 x] w fun e w' => e = .returned (.bool true) ∧ w = w' := by rw [← hl]; exact letter_any x w
  have e1 : alnB x = true := by simp [alnB, hl]
  have E1 := aP e1; have H1 := aP h1; clear e1 h1 hl
  go_enter Tryz.func145, Tryz.ntmps145
  go_wp2_with (go_at_call 144; refine H1.out.mono ?_; rintro e w' ⟨rfl, rfl⟩)
  go_ret
  exact ⟨by rw [E1.out] <;> rfl, rfl⟩
 | false =>
  have h1 : Calls Tryz.prog 144 #[.int .u8 x] w fun e w' => e = .returned (.bool false) ∧ w = w' := by rw [← hl]; exact letter_any x w
  have e1 : alnB x = digB x := by simp [alnB, hl]
  have E1 := aP e1; have H1 := aP h1; clear e1 h1 hl
  go_enter Tryz.func145, Tryz.ntmps145
  go_wp2_with (first | (go_at_call 144; refine H1.out.mono ?_; rintro e w' ⟨rfl, rfl⟩) | (go_at_call 163; refine (digit_any _ _).mono ?_; rintro e w' ⟨rfl, rfl⟩))
  go_ret
  exact ⟨by rw [E1.out] <;> rfl, rfl⟩
theorem blank_any (x : Int) (w : World) :
  Calls Tryz.prog 162 #[.int .u8 x] w fun e w' => e = .returned (.bool (blkB x)) ∧ w = w' := by
 go_enter Tryz.func162, Tryz.ntmps162
 go_wp2
 all_goals go_ret
 all_goals exact ⟨by first | rfl | simp_all [blkB], rfl⟩
theorem begin_any (s : ByteArray) (w : World) :
  Calls Tryz.prog 66 #[.string s] w fun e w' => e = .returned (.pointer (some ⟨w.heap.size, 0, none⟩)) ∧
   w' = w.alloc (.cells #[.int .i64 1, .int .i64 1, .string s, .int .i64 0] 125) := by
 go_enter Tryz.func66, Tryz.ntmps66
 go_wp2
 go_ret
 exact ⟨rfl, rfl⟩
def plOf (s : List UInt8) : Nat → Nat × Nat
 | 0 => (1, 1)
 | k + 1 => if s[k]? = some 10 then ((plOf s k).1 + 1, 1) else ((plOf s k).1, (plOf s k).2 + 1)
theorem plOf_le (s : List UInt8) (k : Nat) : (plOf s k).1 ≤ k + 1 ∧ (plOf s k).2 ≤ k + 1 := by
 induction k with
 | zero => exact ⟨Nat.le_refl _, Nat.le_refl _⟩
 | succ k ih =>
  unfold plOf
  split
  ·exact ⟨by dsimp only; omega, by dsimp only; omega⟩
  ·exact ⟨by dsimp only; omega, by dsimp only; omega⟩
def Rdr (w : World) (B : Nat) (s : ByteArray) (k : Nat) : Prop :=
 Cells w B 125 [.int .i64 ((plOf s.data.toList k).1 : Nat), .int .i64 ((plOf s.data.toList k).2 : Nat), .string s, .int .i64 (k : Nat)]
structure RdrIs (w : World) (B : Nat) (s : ByteArray) (l c k : Nat) : Prop where
 c0 : w.cell? ⟨B, 0, none⟩ = some (.int .i64 (l : Nat))
 c1 : w.cell? ⟨B, 1, none⟩ = some (.int .i64 (c : Nat))
 c2 : w.cell? ⟨B, 2, none⟩ = some (.string s)
 c3 : w.cell? ⟨B, 3, none⟩ = some (.int .i64 (k : Nat))
 f0 : w.frozen? ⟨B, 0, none⟩ = false
 f1 : w.frozen? ⟨B, 1, none⟩ = false
 f2 : w.frozen? ⟨B, 2, none⟩ = false
 f3 : w.frozen? ⟨B, 3, none⟩ = false
theorem Rdr.lt {w : World} {B : Nat} {s : ByteArray} {k : Nat} (h : Rdr w B s k) : B < w.heap.size := Cells.lt h
theorem Rdr.kept {X : Nat → Prop} {w w' : World} {B : Nat} {s : ByteArray} {k : Nat} (h : Rdr w B s k) (hk : Kept X w w') (hx : ¬ X B) : Rdr w' B s k := Cells.kept h hk hx
theorem byte_at {s : ByteArray} {k : Nat} (h : k < s.size) : s.data.toList[k]? = some s[k] := by
 rw [List.getElem?_eq_getElem (by simpa using h)] <;> rfl
theorem Rdr.next_line {w : World} {B : Nat} {s : ByteArray} {k : Nat} (h : Rdr w B s k) (hk : k < s.size) (h10 : s[k] = 10) :
  Rdr (((( w.setCell ⟨B, 1, none⟩ (.int .i64 (((plOf s.data.toList k).2 : Nat) + 1))).setCell ⟨B, 0, none⟩ (.int .i64 (((plOf s.data.toList k).1 : Nat) + 1))).setCell ⟨B, 1, none⟩ (.int .i64 1)).setCell ⟨B, 3, none⟩ (.int .i64 ((k : Nat) + 1))) B s (k + 1) := by
 have := (((Cells.put h 1 (.int .i64 (((plOf s.data.toList k).2 : Nat) + 1))).put 0 (.int .i64 (((plOf s.data.toList k).1 : Nat) + 1))).put 1 (.int .i64 1)).put 3 (.int .i64 ((k : Nat) + 1))
 have e : plOf s.data.toList (k + 1) = ((plOf s.data.toList k).1 + 1, 1) := by
  conv => lhs; unfold plOf
  rw [byte_at hk, h10, if_pos rfl]
 unfold Rdr
 rw [e]
 simpa using this
theorem Rdr.next_col {w : World} {B : Nat} {s : ByteArray} {k : Nat} (h : Rdr w B s k) (hk : k < s.size) (h10 : s[k] ≠ 10) :
  Rdr ((( w.setCell ⟨B, 1, none⟩ (.int .i64 (((plOf s.data.toList k).2 : Nat) + 1)))).setCell ⟨B, 3, none⟩ (.int .i64 ((k : Nat) + 1))) B s (k + 1) := by
 have := (Cells.put h 1 (.int .i64 (((plOf s.data.toList k).2 : Nat) + 1))).put 3 (.int .i64 ((k : Nat) + 1))
 have e : plOf s.data.toList (k + 1) = ((plOf s.data.toList k).1, (plOf s.data.toList k).2 + 1) := by
  conv => lhs; unfold plOf
  rw [byte_at hk, if_neg (by simpa using h10)]
 unfold Rdr
 rw [e]
 simpa using this
theorem Rdr.is {w : World} {B : Nat} {s : ByteArray} {k : Nat} (h : Rdr w B s k) : RdrIs w B s (plOf s.data.toList k).1 (plOf s.data.toList k).2 k :=
 ⟨h.cell 0, h.cell 1, h.cell 2, h.cell 3, h.free 0, h.free 1, h.free 2, h.free 3⟩
theorem off_gen (f : Nat) (caps : Array Value) (eg : ∀ args w, (callFunc f args).run Tryz.prog w = .ok (.enter f args) w) (B : Nat) (s : ByteArray) (hs : s.size ≤ 1000000)
  (p : Nat → Bool) (I : Nat → World → Prop) (X : Nat → Prop) (hX : ¬ X B) (i0 j : Nat) (hi : i0 ≤ j) (hj : j ≤ s.size)
  (hI : ∀ k W W', I k W → Kept (· = B) W W' → I k W')
  (hcall : ∀ k W (hk : k < s.size), i0 ≤ k → k ≤ j → I k W → Rdr W B s k → Calls Tryz.prog f (#[.int .u8 (s[k].toNat : Nat)] ++ caps) W fun e W' => e = .returned (.bool (p k)) ∧ (p k = true → I (k + 1) W') ∧ Kept X W W')
  (hyes : ∀ k, i0 ≤ k → k < j → p k = true) (hno : j < s.size → p j = false)
  (w : World) (hr : Rdr w B s i0) (h0 : I i0 w) :
  Calls Tryz.prog 67 #[.pointer (some ⟨B, 0, none⟩), .func (.func f) #[] caps] w fun e w' => e = .returned (.string (s.extract i0 j)) ∧ Rdr w' B s j ∧ Kept (fun k => X k ∨ k = B) w w' := by
 obtain ⟨c0, c1, c2, c3, f0, f1, f2, f3⟩ := hr.is
 go_enter Tryz.func67, Tryz.ntmps67
 go_wp2
 go_loopg [] (j - i0) (fun g wr => ∃ k, i0 ≤ k ∧ k ≤ j ∧ g = j - k ∧ Rdr wr B s k ∧ I k wr ∧ Kept (fun k => X k ∨ k = B) w wr)
 case atStart => exact ⟨i0, Nat.le_refl _, hi, rfl, hr, h0, Kept.refl _ _⟩
 case round =>
  obtain ⟨k, hk1, hk2, rfl, hrk, hIk, hKk⟩ := hrel
  clear c0 c1 c2 c3 f0 f1 f2 f3 hr h0
  obtain ⟨c0, c1, c2, c3, f0, f1, f2, f3⟩ := hrk.is
  have hpl := plOf_le s.data.toList k
  by_cases hlt : k < s.size
  ·have hlt' : decide ((k : Int) < (s.size : Int)) = true := by simpa using hlt
   have hc := aP (hcall k wr.drew hlt hk1 hk2 (hI k wr wr.drew hIk ((Kept.refl _ _).drew)) hrk)
   by_cases hkj : k < j
   ·have hp := aP (hyes k hk1 hkj)
    by_cases h10 : s[k] = 10
    ·have t10 : ((s[k].toNat : Int) == 10) = true := by rw [h10] <;> rfl
     have H10 := aP h10
     clear h10
     go_wp2_with fail
     go_still_tail 21, krf
     go_wp2_with fail
     refine hc.out.mono ?_
     rintro e W1 ⟨rfl, hI1, hK1⟩
     rw [hp.out]
     replace hI1 := hI1 hp.out
     have hr1 : Rdr W1 B s k := Rdr.kept (w := wr.drew) hrk hK1 hX
     clear c0 c1 c2 c3 f0 f1 f2 f3
     obtain ⟨c0, c1, c2, c3, f0, f1, f2, f3⟩ := hr1.is
     go_wp2
     go_quiet (fail)
     go_wp2
     go_roundg (j - (k + 1))
     case measure => omega
     case rel =>
      refine ⟨k + 1, by omega, by omega, rfl, Rdr.next_line hr1 hlt H10.out, hI _ _ _ hI1 ?_, ?_⟩
      ·repeat (first | exact Kept.refl _ _ | refine Kept.drewN ?_ _ | refine Kept.setCell ?_ (fun _ => by rfl) _)
      ·exact k_22
    ·have t10 : ((s[k].toNat : Int) == 10) = false := by
      rw [beq_eq_false_iff_ne]; intro hh; apply h10; apply UInt8.toNat_inj.1; show _ = 10; omega
     have H10 := aP h10
     clear h10
     go_wp2_with fail
     go_still_tail 21, krf
     go_wp2_with fail
     refine hc.out.mono ?_
     rintro e W1 ⟨rfl, hI1, hK1⟩
     rw [hp.out]
     replace hI1 := hI1 hp.out
     have hr1 : Rdr W1 B s k := Rdr.kept (w := wr.drew) hrk hK1 hX
     clear c0 c1 c2 c3 f0 f1 f2 f3
     obtain ⟨c0, c1, c2, c3, f0, f1, f2, f3⟩ := hr1.is
     go_wp2
     go_quiet (fail)
     go_wp2
     go_roundg (j - (k + 1))
     case measure => omega
     case rel =>
      refine ⟨k + 1, by omega, by omega, rfl, Rdr.next_col hr1 hlt H10.out, hI _ _ _ hI1 ?_, ?_⟩
      ·repeat (first | exact Kept.refl _ _ | refine Kept.drewN ?_ _ | refine Kept.setCell ?_ (fun _ => by rfl) _)
      ·exact k_22
   ·obtain rfl : k = j := by omega
    have hp := aP (hno hlt)
    go_wp2_with fail
    go_still_tail 21, krf
    go_wp2_with fail
    refine hc.out.mono ?_
    rintro e W1 ⟨rfl, hI1, hK1⟩
    rw [hp.out]
    clear hI1
    have hr1 : Rdr W1 B s k := Rdr.kept (w := wr.drew) hrk hK1 hX
    clear c0 c1 c2 c3 f0 f1 f2 f3
    obtain ⟨c0, c1, c2, c3, f0, f1, f2, f3⟩ := hr1.is
    go_wp2
    go_quiet (fail)
    go_wp2
    go_ret
    exact ⟨rfl, hr1, by repeat (first | exact (hKk.drew).join hK1 (fun i hx _ => .inl hx) | refine Kept.drewN ?_ _)⟩
  ·have hlt' : decide ((k : Int) < (s.size : Int)) = false := by simpa using hlt
   obtain rfl : k = j := by omega
   go_wp2_with fail
   go_quiet (fail)
   go_wp2
   go_quiet (fail)
   go_wp2
   go_ret
   exact ⟨rfl, hrk, by repeat (first | exact hKk | refine Kept.drewN ?_ _)⟩
def runS {σ : Type} (step : σ → UInt8 → σ) (ok : σ → UInt8 → Bool) : σ → List UInt8 → Nat
 | _, [] => 0
 | t, b :: l => if ok t b then runS step ok (step t b) l + 1 else 0
theorem runS_le {σ : Type} (step : σ → UInt8 → σ) (ok : σ → UInt8 → Bool) (l : List UInt8) : ∀ t, runS step ok t l ≤ l.length := by
 induction l with
 | nil => intro t; exact Nat.le_refl _
 | cons b l ih =>
  intro t
  unfold runS
  split
  ·have := ih (step t b); simp only [List.length_cons]; omega
  ·exact Nat.zero_le _
theorem runS_yes {σ : Type} (step : σ → UInt8 → σ) (ok : σ → UInt8 → Bool) (l : List UInt8) : ∀ t m b, m < runS step ok t l → l[m]? = some b → ok ((l.take m).foldl step t) b = true := by
 induction l with
 | nil => intro t m b h; simp [runS] at h
 | cons a l ih =>
  intro t m b h hb
  unfold runS at h
  split at h
  ·cases m with
   | zero => simp only [aZ, Option.some.injEq] at hb; subst hb; simpa using ‹ok t a = true›
   | succ m => simpa using ih (step t a) m b kom (by simpa using hb)
  ·omega
theorem runS_no {σ : Type} (step : σ → UInt8 → σ) (ok : σ → UInt8 → Bool) (l : List UInt8) : ∀ t b, l[runS step ok t l]? = some b → ok ((l.take (runS step ok t l)).foldl step t) b = false := by
 induction l with
 | nil => intro t b h; simp at h
 | cons a l ih =>
  intro t b hb
  unfold runS at hb ⊢
  split
  ·rename_i h
   rw [if_pos h] at hb
   simpa using ih (step t a) b (by simpa using hb)
  ·rename_i h
   rw [if_neg h] at hb
   simp only [aZ, Option.some.injEq] at hb; subst hb; simpa using h
theorem drop_at {s : ByteArray} {i0 k : Nat} (hi : i0 ≤ k) (hk : k < s.size) : (s.data.toList.drop i0)[k - i0]? = some s[k] := by
 rw [List.getElem?_drop, show i0 + (k - i0) = k from by omega, byte_at hk]
theorem take_next {l : List UInt8} {m : Nat} {b : UInt8} (h : l[m]? = some b) : l.take (m + 1) = l.take m ++ [b] := by
 rw [List.take_add_one, h] <;> rfl
theorem drop_len {s : ByteArray} {i0 : Nat} : (s.data.toList.drop i0).length = s.size - i0 := by
 rw [List.length_drop]; simp
def runQ (q : Int → Bool) (l : List UInt8) : Nat := runS (σ := Unit) (fun _ _ => ()) (fun _ b => q (b.toNat : Nat)) () l
theorem runQ_cons (q : Int → Bool) (b : UInt8) (l : List UInt8) : runQ q (b :: l) = if q (b.toNat : Nat) then runQ q l + 1 else 0 := rfl
theorem off_pure (f : Nat) (q : Int → Bool) (eg : ∀ args w, (callFunc f args).run Tryz.prog w = .ok (.enter f args) w)
  (hf : ∀ x w, Calls Tryz.prog f #[.int .u8 x] w fun e w' => e = .returned (.bool (q x)) ∧ w = w')
  (B : Nat) (s : ByteArray) (hs : s.size ≤ 1000000) (i0 : Nat) (hi0 : i0 ≤ s.size) (w : World) (hr : Rdr w B s i0) :
  Calls Tryz.prog 67 #[.pointer (some ⟨B, 0, none⟩), .func (.func f) #[] #[]] w fun e w' =>
   e = .returned (.string (s.extract i0 (i0 + runQ q (s.data.toList.drop i0)))) ∧ Rdr w' B s (i0 + runQ q (s.data.toList.drop i0)) ∧ Kept (· = B) w w' := by
 have hle : runQ q (s.data.toList.drop i0) ≤ s.size - i0 := by rw [← drop_len]; exact runS_le _ _ _ _
 refine (off_gen f #[] eg B s hs (fun k => q (s.data.toList.getD k 0).toNat) (fun _ _ => True) noX (fun h => h) i0 (i0 + runQ q (s.data.toList.drop i0)) kom kom
   (fun _ _ _ _ _ => trivial) ?_ ?_ ?_ w hr trivial).mono ?_
 ·intro k W hk _ _ _ _
  refine (hf _ W).mono ?_
  rintro e W' ⟨rfl, rfl⟩
  refine ⟨?_, fun _ => trivial, Kept.refl _ _⟩
  have := byte_at hk
  simp [List.getD_eq_getElem?_getD, this]
 ·intro k h1 h2
  have hk : k < s.size := by omega
  have := runS_yes (σ := Unit) (fun _ _ => ()) (fun _ b => q (b.toNat : Nat)) (s.data.toList.drop i0) () (k - i0) s[k] (by unfold runQ at h2; omega) (drop_at h1 hk)
  simpa [List.getD_eq_getElem?_getD, byte_at hk] using this
 ·intro h
  have := runS_no (σ := Unit) (fun _ _ => ()) (fun _ b => q (b.toNat : Nat)) (s.data.toList.drop i0) () (s[i0 + runQ q (s.data.toList.drop i0)]) (by
    have := drop_at (s := s) (i0 := i0) (k := i0 + runQ q (s.data.toList.drop i0)) kom h
    rw [show i0 + runQ q (s.data.toList.drop i0) - i0 = runQ q (s.data.toList.drop i0) from by omega] at this
    exact this)
  simpa [List.getD_eq_getElem?_getD, byte_at h] using this
 ·rintro e w' ⟨rfl, h1, h2⟩
  exact ⟨rfl, h1, h2.mono (fun k _ hx => by rcases hx with hx | hx; exact hx.elim; exact hx)⟩
theorem off_aln (B : Nat) (s : ByteArray) (hs : s.size ≤ 1000000) (i0 : Nat) (hi0 : i0 ≤ s.size) (w : World) (hr : Rdr w B s i0) :
  Calls Tryz.prog 67 #[.pointer (some ⟨B, 0, none⟩), .func (.func 145) #[] #[]] w fun e w' =>
   e = .returned (.string (s.extract i0 (i0 + runQ alnB (s.data.toList.drop i0)))) ∧ Rdr w' B s (i0 + runQ alnB (s.data.toList.drop i0)) ∧ Kept (· = B) w w' :=
 off_pure 145 alnB (enters_of Tryz.func145 krf rfl) aln_any B s hs i0 hi0 w hr
def remB (r : Bool) (x : Int) : Bool := (x == 35) || (r && (x != 10))
theorem between1_any (R : Nat) (r : Bool) (x : Int) (w : World) (h : Cells w R 4 [.bool r]) :
  Calls Tryz.prog 161 #[.int .u8 x, .pointer (some ⟨R, 0, none⟩)] w fun e w' => e = .returned (.bool (remB r x || blkB x)) ∧ Cells w' R 4 [.bool (remB r x)] ∧ Kept (· = R) w w' := by
 have hc := h.cell 0
 have hf := h.free 0
 simp only [aZ] at hc
 have hput := h.put 0 (.bool (remB r x))
 have fin : ∀ b : Bool, b = remB r x → ∀ (e : Ending) w', (e = .returned (.bool (remB r x || blkB x)) ∧ w' = w.setCell ⟨R, 0, none⟩ (.bool b)) →
   e = .returned (.bool (remB r x || blkB x)) ∧ Cells w' R 4 [.bool (remB r x)] ∧ Kept (· = R) w w' := by
  rintro b rfl e w' ⟨rfl, rfl⟩
  exact ⟨rfl, hput, (Kept.refl _ _).setCell (fun _ => by rfl) _⟩
 refine Calls.mono (R := fun e w' => e = .returned (.bool (remB r x || blkB x)) ∧ w' = w.setCell ⟨R, 0, none⟩ (.bool (remB r x))) ?_ (fin _ rfl)
 clear fin hput
 by_cases h35 : x = 35
 ·subst h35
  have e1 : remB r 35 = true := rfl
  rw [e1]
  go_enter Tryz.func161, Tryz.ntmps161
  go_wp2
  go_ret
  exact ⟨rfl, rfl⟩
 ·have t35 : (x == 35) = false := by simpa using h35
  cases r with
  | false =>
   have e1 : remB false x = false := by simp [remB, h35]
   rw [e1, Bool.false_or]
   clear e1 h35
   go_enter Tryz.func161, Tryz.ntmps161
   go_wp2_with (go_at_call 162; refine (blank_any _ _).mono ?_; rintro e w' ⟨rfl, rfl⟩)
   go_ret
   exact ⟨rfl, rfl⟩
  | true =>
   by_cases h10 : x = 10
   ·subst h10
    have e1 : remB true 10 = false := rfl
    rw [e1, Bool.false_or]
    clear e1 h35 t35
    go_enter Tryz.func161, Tryz.ntmps161
    go_wp2_with (go_at_call 162; refine (blank_any _ _).mono ?_; rintro e w' ⟨rfl, rfl⟩)
    go_ret
    exact ⟨rfl, rfl⟩
   ·have t10 : (x == 10) = false := by simpa using h10
    have u10 : (x != 10) = true := by simpa using h10
    have e1 : remB true x = true := by simp [remB, h10]
    rw [e1, Bool.true_or]
    clear e1 h35 h10
    go_enter Tryz.func161, Tryz.ntmps161
    go_wp2
    go_ret
    exact ⟨rfl, rfl⟩
def skN (l : List UInt8) : Nat := runS (fun r b => remB r (b.toNat : Nat)) (fun r b => remB r (b.toNat : Nat) || blkB (b.toNat : Nat)) false l
theorem getD_at {s : ByteArray} {k : Nat} (h : k < s.size) : s.data.toList.getD k 0 = s[k] := by
 simp [List.getD_eq_getElem?_getD, byte_at h]
theorem between_any (B : Nat) (s : ByteArray) (hs : s.size ≤ 1000000) (i0 : Nat) (hi0 : i0 ≤ s.size) (w : World) (hr : Rdr w B s i0) :
  Calls Tryz.prog 122 #[.pointer (some ⟨B, 0, none⟩)] w fun e w' => e = .returned (.tuple #[]) ∧ Rdr w' B s (i0 + skN (s.data.toList.drop i0)) ∧ Kept (· = B) w w' := by
 have hle : skN (s.data.toList.drop i0) ≤ s.size - i0 := by rw [← drop_len]; exact runS_le _ _ _ _
 have hB : B < w.heap.size := Cells.lt hr
 have hoff := aP (off_gen 161 #[.pointer (some ⟨w.heap.size, 0, none⟩)] (enters_of Tryz.func161 krf rfl) B s hs
   (fun k => let r := ((s.data.toList.drop i0).take (k - i0)).foldl (fun r b => remB r (b.toNat : Nat)) false
     remB r ((s.data.toList.getD k 0).toNat : Nat) || blkB ((s.data.toList.getD k 0).toNat : Nat))
   (fun k W => Cells W w.heap.size 4 [.bool (((s.data.toList.drop i0).take (k - i0)).foldl (fun r b => remB r (b.toNat : Nat)) false)])
   (· = w.heap.size) (fun h => by omega) i0 (i0 + skN (s.data.toList.drop i0)) kom kom
   (fun k W W' h hk => h.kept hk (fun h => by omega))
   (by
     intro k W hk h1 h2 hI hR
     refine (between1_any w.heap.size _ _ W hI).mono ?_
     rintro e W' ⟨rfl, h3, h4⟩
     refine ⟨by simp only [getD_at hk], fun _ => ?_, h4⟩
     rw [show k + 1 - i0 = k - i0 + 1 from by omega, take_next (drop_at h1 hk), List.foldl_append]
     exact h3)
   (by
     intro k h1 h2
     have hk : k < s.size := by omega
     have := runS_yes (fun r b => remB r (b.toNat : Nat)) (fun r b => remB r (b.toNat : Nat) || blkB (b.toNat : Nat)) (s.data.toList.drop i0) false (k - i0) s[k] (by unfold skN at h2; omega) (drop_at h1 hk)
     simpa only [getD_at hk] using this)
   (by
     intro h
     have := runS_no (fun r b => remB r (b.toNat : Nat)) (fun r b => remB r (b.toNat : Nat) || blkB (b.toNat : Nat)) (s.data.toList.drop i0) false (s[i0 + skN (s.data.toList.drop i0)]) (by
       have := drop_at (s := s) (i0 := i0) (k := i0 + skN (s.data.toList.drop i0)) kom h
       rw [show i0 + skN (s.data.toList.drop i0) - i0 = skN (s.data.toList.drop i0) from by omega] at this
       exact this)
     simp only [getD_at h]
     rw [show i0 + skN (s.data.toList.drop i0) - i0 = skN (s.data.toList.drop i0) from by omega]
     exact this)
   (w.alloc (.cells #[.bool false] 4)) (Cells.alloc hr _) (by
     rw [Nat.sub_self, List.take_zero]
     exact Cells.fresh w 4 [.bool false]))
 clear hle hB hr
 go_enter Tryz.func122, Tryz.ntmps122
 go_wp2_with fail
 refine hoff.out.mono ?_
 rintro e w1 ⟨rfl, h1, h2⟩
 go_wp2
 go_end0
 refine ⟨rfl, h1, ((Kept.refl (· = B) w).alloc _).join h2 ?_⟩
 intro i hx hi
 rcases hx with hx | hx
 ·omega
 ·exact hx
theorem sign1_any (B Rb E : Nat) (s : ByteArray) (k n : Nat) (x : Int) (w : World) (hr : Rdr w B s k) (h1 : Cells w Rb 120 [.pointer (some ⟨B, 0, none⟩)]) (h2 : Cells w E 3 [.int .i64 n]) :
  Calls Tryz.prog 183 #[.int .u8 x, .pointer (some ⟨Rb, 0, none⟩), .pointer (some ⟨E, 0, none⟩)] w fun e w' => e = .returned (.bool (decide (k < n))) ∧ Kept noX w w' := by
 obtain ⟨c0, c1, c2, c3, f0, f1, f2, f3⟩ := hr.is
 have d1 := h1.cell 0
 have d2 := h2.cell 0
 simp only [aZ] at d1 d2
 clear hr h1 h2
 go_enter Tryz.func183, Tryz.ntmps183
 go_wp2_with fail
 go_quiet (fail)
 go_wp2
 go_ret
 exact ⟨by simp, (Kept.refl _ _).drewN _⟩
theorem off_to (B Rb E : Nat) (s : ByteArray) (hs : s.size ≤ 1000000) (i0 n : Nat) (hi0 : i0 + n ≤ s.size) (w : World) (hr : Rdr w B s i0) (h1 : Cells w Rb 120 [.pointer (some ⟨B, 0, none⟩)]) (h2 : Cells w E 3 [.int .i64 ((i0 + n : Nat) : Int)]) (hb1 : Rb ≠ B) (hb2 : E ≠ B) :
  Calls Tryz.prog 67 #[.pointer (some ⟨B, 0, none⟩), .func (.func 183) #[] #[.pointer (some ⟨Rb, 0, none⟩), .pointer (some ⟨E, 0, none⟩)]] w fun e w' => e = .returned (.string (s.extract i0 (i0 + n))) ∧ Rdr w' B s (i0 + n) ∧ Kept (· = B) w w' := by
 refine (off_gen 183 #[.pointer (some ⟨Rb, 0, none⟩), .pointer (some ⟨E, 0, none⟩)] (enters_of Tryz.func183 krf rfl) B s hs (fun k => decide (k < i0 + n))
   (fun _ W => Cells W Rb 120 [.pointer (some ⟨B, 0, none⟩)] ∧ Cells W E 3 [.int .i64 ((i0 + n : Nat) : Int)]) noX (fun h => h) i0 (i0 + n) kom kom
   (fun k W W' h hk => ⟨h.1.kept hk hb1, h.2.kept hk hb2⟩) ?_ ?_ ?_ w hr ⟨h1, h2⟩).mono ?_
 ·intro k W hk _ _ hI hR
  refine (sign1_any B Rb E s k (i0 + n) _ W hR hI.1 hI.2).mono ?_
  rintro e W' ⟨rfl, h3⟩
  exact ⟨rfl, fun _ => ⟨hI.1.kept h3 (fun h => h), hI.2.kept h3 (fun h => h)⟩, h3⟩
 ·intro k _ h
  simpa using h
 ·intro _
  simp
 ·rintro e w' ⟨rfl, h3, h4⟩
  exact ⟨rfl, h3, h4.mono (fun k _ hx => by rcases hx with hx | hx; exact hx.elim; exact hx)⟩
open Go.RowKit Go.Maps Go.WideMaps
def Tab (w : World) (M : Nat) (v : Int) (ks : List (List UInt8)) : Prop :=
 ∃ n, w.ownsMap (H := Unit) Tryz.prog 9 (plainElem Tryz.prog 90) M n (setOf (.lit (.int .i64 v)) (ks.map Lit.string))
theorem key_law : Keyed Tryz.prog 9 := string_keyed Tryz.underlying9
theorem zero38 (w : World) : (zeroValue 90).run Tryz.prog w = .ok (.int .i64 0) w := by kernel_rfl
theorem Tab.kept {X : Nat → Prop} {w w' : World} {M : Nat} {v : Int} {ks : List (List UInt8)} (h : Tab w M v ks) (hk : Kept X w w') (hx : ¬ X M) : Tab w' M v ks := by
 obtain ⟨n, es, clock, hb, F, hs, hD⟩ := h
 exact ⟨n, es, clock, hk.heap hb hx, F, hs, hD⟩
theorem Tab.lt {w : World} {M : Nat} {v : Int} {ks : List (List UInt8)} (h : Tab w M v ks) : M < w.heap.size := by
 obtain ⟨n, h⟩ := h
 exact h.lt
theorem atKey_fold (v : Int) (k : List UInt8) : ∀ (ks : List (List UInt8)) (D : DataW Unit), IsMap D →
  ((ks.map Lit.string).foldl (fun m x => m.put x (.lit (.int .i64 v))) D).atKey (.string k) (.lit (.int .i64 0)) = if k ∈ ks then .lit (.int .i64 v) else D.atKey (.string k) (.lit (.int .i64 0)) := by
 intro ks
 induction ks with
 | nil => intro D _; simp
 | cons x ks ih =>
  intro D hD
  simp only [List.map_cons, List.foldl_cons]
  rw [ih _ (hD.put _ _)]
  by_cases hk : k ∈ ks
  ·simp [hk]
  ·rw [if_neg hk]
   by_cases hx : k = x
   ·subst hx
    rw [if_pos List.mem_cons_self]
    exact atKey_put_same hD (by simp [WideAt.IsKeyLit]) _ _
   ·rw [if_neg (by simp [hk, hx])]
    exact atKey_put_other (by simpa using hx) _ _
theorem Tab.look {w : World} {M : Nat} {v : Int} {ks : List (List UInt8)} (h : Tab w M v ks) (s : ByteArray) (hs : s.size ≤ maxLen) :
  (Instr.lookup 171 (.map (some M)) (.string s) false).run Tryz.prog w = .ok (.int .i64 (if s.data.toList ∈ ks then v else 0)) w := by
 obtain ⟨n, h⟩ := h
 obtain ⟨c, hrun, hat, _⟩ := h.lookup_int key_law Tryz.underlying171 Tryz.underlying90 (zero38 w) (keyOf_string_mk Tryz.underlying9 hs)
 rw [hrun]
 unfold setOf at hat
 rw [atKey_fold v s.data.toList ks _ isMap_empty] at hat
 have e : c = if s.data.toList ∈ ks then v else 0 := by
  by_cases hk : s.data.toList ∈ ks
  ·rw [if_pos hk] at hat ⊢
   injection hat with hat; injection hat with _ hat; exact hat.symm
  ·rw [if_neg hk] at hat ⊢
   have h0 : (DataW.map ([] : List (Lit × DataW Unit))).atKey (.string s.data.toList) (.lit (.int .i64 0)) = .lit (.int .i64 0) := rfl
   rw [h0] at hat
   injection hat with hat; injection hat with _ hat; exact hat.symm
 rw [e]
theorem table_any (v : Int) (hv : v = 3 ∨ v = 4) (b cap : Nat) (ks : List ByteArray) (w : World) (hn : 0 < ks.length) (hl : ks.length ≤ 1000) (hb : b < w.heap.size)
  (hc : ∀ j, j < ks.length → w.cell? ⟨b, j, none⟩ = some (.string (ks.getD j ByteArray.empty))) (hsz : ∀ s ∈ ks, s.size ≤ maxLen) :
  Calls Tryz.prog 160 #[.int .i64 v, .slice (some ⟨b, 0, none⟩) ks.length cap] w fun e w' => e = .returned (.map (some w.heap.size)) ∧ Tab w' w.heap.size v (ks.map (·.data.toList)) ∧ Kept noX w w' := by
 have hmm : ∀ (n : Int) w, (Instr.makeMap 171 (some (.int .i64 n))).run Tryz.prog w = .ok (.map (some w.heap.size)) (w.alloc (.map #[] 0)) := fun n w => by
  simp [Instr.makeMap, run_underlying Tryz.underlying171]; rfl
 go_enter Tryz.func160, Tryz.ntmps160
 go_wp2
 go_loopw [13] (fun i wr => ∃ k : Nat, k ≤ ks.length ∧ i = .int .i64 k ∧ wr.ownsMap (H := Unit) Tryz.prog 9 (plainElem Tryz.prog 90) w.heap.size k (setOf (.lit (.int .i64 v)) ((ks.take k).map fun s => Lit.string s.data.toList)) ∧ Kept noX w wr)
  (fun i _ => ks.length - (intOf i).toNat)
 case atStart => exact ⟨0, Nat.zero_le _, rfl, World.ownsMap_made _ _ _ _, (Kept.refl _ _).alloc _⟩
 case round =>
  obtain ⟨k, hk, rfl, hown, hkp⟩ := hrel
  obtain ⟨s, hs⟩ : ∃ s, s = ks.getD k ByteArray.empty := ⟨_, rfl⟩
  by_cases hlt : k < ks.length
  ·have hcx : wr.cell? ⟨b, k, none⟩ = some (.string s) := by
    rw [hs]; exact (World.cell?_of_block (w := w) (hkp.block b hb (fun h => h))).trans (hc k hlt)
   have hsm : s ∈ ks := by rw [hs, List.getD_eq_getElem?_getD, List.getElem?_eq_getElem hlt]; exact List.getElem_mem hlt
   have hkey : keyOf Tryz.prog 9 (.string s) = some (.string s.data.toList) := keyOf_string_mk Tryz.underlying9 (hsz s hsm)
   have ht : ks.take (k + 1) = ks.take k ++ [s] := by
    rw [List.take_add_one, List.getElem?_eq_getElem hlt, hs, List.getD_eq_getElem?_getD, List.getElem?_eq_getElem hlt] <;> rfl
   have HT := aP ht
   clear hs hc ht hsm
   have hlt2 : (k : Int) < (ks.length : Int) := by omega
   go_wp2_with (at_mapUpdate; refine wpList_mapUpdate_own _ rfl _ _ _ 171 rfl 9 90 key_law Tryz.underlying171 _ w.heap.size k _ rfl hown (by unfold maxLen; omega) _ _ _ rfl rfl hkey _ [] (plainElem_int Tryz.underlying90 (by rcases hv with rfl | rfl <;> decide)) ?_; intro w1 hown1 hgrow1)
   have hkp1 := hkp.grown hgrow1 (fun j hj => by cases hj; intro h; omega)
   go_roundw
   case rel =>
    refine ⟨k + 1, by omega, by go_num, ?_, hkp1⟩
    rw [HT.out, List.map_append, List.map_cons, List.map_nil, setOf_snoc]
    exact hown1
   case measure => simp [intOf]; omega
  ·obtain rfl : k = ks.length := by omega
   rw [List.take_length] at hown
   have hown' : Tab wr w.heap.size v (ks.map (·.data.toList)) := ⟨_, by rw [List.map_map]; exact hown⟩
   clear hown hc
   go_wp2
   go_ret
   exact ⟨rfl, hown', hkp⟩
def kwL : List (List UInt8) := [[118, 97, 114], [97, 114, 114, 97, 121], [109, 117, 116, 101, 120], [99, 111, 110, 100], [99, 104, 97, 110], [116, 104, 114, 101, 97, 100], [108, 101, 116], [105, 102], [101, 108, 115, 101], [119, 104, 105, 108, 101], [108, 111, 99, 107], [117, 110, 108, 111, 99, 107], [119, 97, 105, 116], [115, 105, 103, 110, 97, 108], [97, 108, 108], [115, 101, 110, 100], [114, 101, 99, 118], [115, 112, 97, 119, 110], [106, 111, 105, 110], [112, 114, 105, 110, 116]]
def kwB : List ByteArray := [⟨#[118, 97, 114]⟩, ⟨#[97, 114, 114, 97, 121]⟩, ⟨#[109, 117, 116, 101, 120]⟩, ⟨#[99, 111, 110, 100]⟩, ⟨#[99, 104, 97, 110]⟩, ⟨#[116, 104, 114, 101, 97, 100]⟩, ⟨#[108, 101, 116]⟩, ⟨#[105, 102]⟩, ⟨#[101, 108, 115, 101]⟩, ⟨#[119, 104, 105, 108, 101]⟩, ⟨#[108, 111, 99, 107]⟩, ⟨#[117, 110, 108, 111, 99, 107]⟩, ⟨#[119, 97, 105, 116]⟩, ⟨#[115, 105, 103, 110, 97, 108]⟩, ⟨#[97, 108, 108]⟩, ⟨#[115, 101, 110, 100]⟩, ⟨#[114, 101, 99, 118]⟩, ⟨#[115, 112, 97, 119, 110]⟩, ⟨#[106, 111, 105, 110]⟩, ⟨#[112, 114, 105, 110, 116]⟩]
def sgL : List (List UInt8) := [[59], [40], [41], [123], [125], [91], [93], [61], [61, 61], [33, 61], [60], [60, 61], [43], [45], [42], [47], [37], [38, 38], [124, 124], [33]]
def sgB : List ByteArray := [⟨#[59]⟩, ⟨#[40]⟩, ⟨#[41]⟩, ⟨#[123]⟩, ⟨#[125]⟩, ⟨#[91]⟩, ⟨#[93]⟩, ⟨#[61]⟩, ⟨#[61, 61]⟩, ⟨#[33, 61]⟩, ⟨#[60]⟩, ⟨#[60, 61]⟩, ⟨#[43]⟩, ⟨#[45]⟩, ⟨#[42]⟩, ⟨#[47]⟩, ⟨#[37]⟩, ⟨#[38, 38]⟩, ⟨#[124, 124]⟩, ⟨#[33]⟩]
theorem kwB_L : kwB.map (·.data.toList) = kwL := rfl
theorem cells_of_strings (w : World) (l : List ByteArray) (j : Nat) (hj : j < l.length) :
  (w.alloc (.cells (l.map Value.string).toArray 9 (0, 0))).cell? ⟨w.heap.size, j, none⟩ = some (.string (l.getD j ByteArray.empty)) := by
 have := (Cells.fresh w 9 (l.map Value.string)).cell j
 rw [this, List.getElem?_map, List.getD_eq_getElem?_getD, List.getElem?_eq_getElem hj] <;> rfl
theorem keywords_any (w : World) :
  Calls Tryz.prog 120 #[] w fun e w' => e = .returned (.map (some (w.heap.size + 1))) ∧ Tab w' (w.heap.size + 1) 3 kwL ∧ Kept noX w w' := by
 have hT := aP (table_any 3 (.inl rfl) w.heap.size 20 kwB (w.alloc (.cells (kwB.map Value.string).toArray 9 (0, 0))) (by decide) (by decide) (by simp) (fun j hj => cells_of_strings w kwB j hj) (by decide))
 go_enter Tryz.func120, Tryz.ntmps120
 go_wp2_with fail
 refine hT.out.mono ?_
 rintro e w1 ⟨rfl, h1, h2⟩
 rw [World.size_alloc] at *
 go_wp2
 go_ret
 exact ⟨rfl, h1, ((Kept.refl noX w).alloc _).trans h2⟩
theorem signs_any (w : World) :
  Calls Tryz.prog 121 #[] w fun e w' => e = .returned (.map (some (w.heap.size + 1))) ∧ Tab w' (w.heap.size + 1) 4 sgL ∧ Kept noX w w' := by
 have hT := aP (table_any 4 (.inr rfl) w.heap.size 20 sgB (w.alloc (.cells (sgB.map Value.string).toArray 9 (0, 0))) (by decide) (by decide) (by simp) (fun j hj => cells_of_strings w sgB j hj) (by decide))
 go_enter Tryz.func121, Tryz.ntmps121
 go_wp2_with fail
 refine hT.out.mono ?_
 rintro e w1 ⟨rfl, h1, h2⟩
 rw [World.size_alloc] at *
 go_wp2
 go_ret
 exact ⟨rfl, h1, ((Kept.refl noX w).alloc _).trans h2⟩
def sgN (l : List UInt8) : Nat := if 2 ≤ l.length ∧ l.take 2 ∈ sgL then 2 else if 1 ≤ l.length ∧ l.take 1 ∈ sgL then 1 else 0
theorem extract_list (s : ByteArray) (i n : Nat) : (s.extract i (i + n)).data.toList = (s.data.toList.drop i).take n := by
 rw [ByteArray.data_extract, Array.toList_extract, List.extract_eq_take_drop, Nat.add_sub_cancel_left]
theorem extract_none (s : ByteArray) (i : Nat) : s.extract i i = ⟨#[]⟩ := by
 apply ByteArray.ext
 rw [ByteArray.data_extract]
 simp
 omega
theorem sgN_hit {l : List UInt8} {n i0 sz m0 : Nat} (hl : l.length = sz - i0) (h1 : m0 ≤ 2) (h2 : i0 + m0 ≤ sz) (h3 : m0 = 2 ∨ m0 = 1 ∧ sz = i0 + 1) (hn : 0 < n) (hm : n ≤ m0) (hin : l.take n ∈ sgL)
  (hnot : ∀ m', n < m' → m' ≤ m0 → l.take m' ∉ sgL) : sgN l = n := by
 unfold sgN
 by_cases h : n = 2
 ·subst h
  rw [if_pos ⟨by omega, hin⟩]
 ·obtain rfl : n = 1 := by omega
  rw [if_neg (fun hh => ?_), if_pos ⟨by omega, hin⟩]
  exact hnot 2 kom kom hh.2
theorem sgN_miss {l : List UInt8} {i0 sz m0 : Nat} (hl : l.length = sz - i0) (h3 : m0 = 2 ∨ m0 = 1 ∧ sz = i0 + 1)
  (hnot : ∀ m', 0 < m' → m' ≤ m0 → l.take m' ∉ sgL) : sgN l = 0 := by
 unfold sgN
 rw [if_neg (fun hh => hnot 2 kom kom hh.2), if_neg (fun hh => hnot 1 kom kom hh.2)]
theorem sign_any (B M : Nat) (s : ByteArray) (hs : s.size ≤ 1000000) (i0 : Nat) (hi0 : i0 < s.size) (w : World) (hr : Rdr w B s i0) (hM : Tab w M 4 sgL) :
  Calls Tryz.prog 165 #[.pointer (some ⟨B, 0, none⟩), .map (some M)] w fun e w' => e = .returned (.string (s.extract i0 (i0 + sgN (s.data.toList.drop i0)))) ∧ Rdr w' B s (i0 + sgN (s.data.toList.drop i0)) ∧ Kept (· = B) w w' := by
 have hB : B < w.heap.size := Cells.lt hr
 obtain ⟨c0, c1, c2, c3, f0, f1, f2, f3⟩ := hr.is
 obtain ⟨m0, hm1, hm2, hm3⟩ : ∃ m0 : Nat, m0 ≤ 2 ∧ i0 + m0 ≤ s.size ∧ (m0 = 2 ∨ (m0 = 1 ∧ s.size = i0 + 1)) := by
  by_cases h : i0 + 2 ≤ s.size
  ·exact ⟨2, by omega, h, .inl rfl⟩
  ·exact ⟨1, by omega, by omega, .inr ⟨rfl, by omega⟩⟩
 have hdl : (s.data.toList.drop i0).length = s.size - i0 := drop_len
 have HM3 := aP hm3
 have HDL := aP hdl
 clear hm3 hdl
 go_enter Tryz.func165, Tryz.ntmps165
 go_wp2_with fail
 go_quiet (fail)
 all_goals go_wp2
 all_goals
  go_loopg [5] m0 (fun g n wr => ∃ m : Nat, n = .int .i64 m ∧ g = m ∧ m ≤ m0 ∧ (∀ m', m < m' → m' ≤ m0 → (s.data.toList.drop i0).take m' ∉ sgL) ∧ Rdr wr B s i0 ∧ Cells wr w.heap.size 120 [.pointer (some ⟨B, 0, none⟩)] ∧ Tab wr M 4 sgL ∧ Kept (· = B) w wr)
  case atStart =>
   refine ⟨m0, ?_, rfl, Nat.le_refl _, fun m' h1 h2 => by omega, Cells.alloc hr _, Cells.fresh w 120 [.pointer (some ⟨B, 0, none⟩)], hM.kept (((Kept.refl noX w).alloc _).drewN _) (fun h => h), ((Kept.refl _ _).alloc _).drewN _⟩
   have := HM3.out
   have e : ∀ a b : Int, a = b → Value.int .i64 a = .int .i64 b := fun a b h => by rw [h]
   exact e _ _ kom
  case round =>
   clear c0 c1 c2 c3 f0 f1 f2 f3 hr hM
   obtain ⟨_, rfl, rfl, hmm, hnot, hr, hb, hM, hk⟩ := hrel
   obtain ⟨c0, c1, c2, c3, f0, f1, f2, f3⟩ := hr.is
   have cb := hb.cell 0
   have fb := hb.free 0
   simp only [aZ] at cb
   have HN := aP hnot
   clear hnot
   have hlk : ∀ q, (Instr.lookup 171 (.map (some M)) (.string (s.extract i0 (i0 + gk))) false).run Tryz.prog (wr.drewN q) = .ok (.int .i64 (if (s.extract i0 (i0 + gk)).data.toList ∈ sgL then 4 else 0)) (wr.drewN q) := fun q =>
    Tab.look (hM.kept ((Kept.refl noX wr).drewN q) (fun h => h)) _ (by
      unfold maxLen
      rw [ByteArray.size_extract]
      omega)
   by_cases hm : 0 < gk
   ·by_cases hin : (s.data.toList.drop i0).take gk ∈ sgL
    ·have hin' : (s.extract i0 (i0 + gk)).data.toList ∈ sgL := by rw [extract_list]; exact hin
     simp only [if_pos hin'] at hlk
     have HG : Hid (sgN (s.data.toList.drop i0) = gk) := sgN_hit (HDL.out) hm1 hm2 HM3.out hm hmm hin HN.out
     clear hin hin'
     go_wp2_with fail
     go_quiet (fail)
     have hr2 : Rdr (wr.drewN nq) B s i0 := hr
     have hb2 : Cells (wr.drewN nq) w.heap.size 120 [.pointer (some ⟨B, 0, none⟩)] := hb
     have hk2 : Kept (· = B) w (wr.drewN nq) := hk.drewN _
     clear hr hb hM hk c0 c1 c2 c3 f0 f1 f2 f3 cb fb hlk
     generalize wr.drewN nq = W2 at hr2 hb2 hk2 ⊢
     obtain ⟨c0, c1, c2, c3, f0, f1, f2, f3⟩ := hr2.is
     have cb := hb2.cell 0
     simp only [aZ] at cb
     have HO := aP (off_to B w.heap.size W2.heap.size s hs i0 gk kom (W2.alloc (.cells #[.int .i64 ((i0 + gk : Nat) : Int)] 3)) (Cells.alloc hr2 _) (Cells.alloc hb2 _) (Cells.fresh W2 3 [.int .i64 ((i0 + gk : Nat) : Int)]) kom (by have := hk2.size; omega))
     have en : ((i0 + gk : Nat) : Int) = (i0 : Int) + (gk : Int) := by omega
     rw [en] at HO
     clear en
     have hca : ∀ o, (W2.alloc o).cell? ⟨w.heap.size, 0, none⟩ = some (.pointer (some ⟨B, 0, none⟩)) := fun o => by
      have := (hb2.alloc o).cell 0
      simpa only [aZ] using this
     go_wp2_with fail
     refine HO.out.mono ?_
     rintro e w1 ⟨rfl, h4, h5⟩
     go_wp2
     go_ret
     refine ⟨by rw [HG.out] <;> rfl, by rw [HG.out]; exact h4, ?_⟩
     exact hk2.trans ((Kept.alloc (Kept.refl (· = B) W2) _).join h5 (fun i hx _ => hx))
    ·have hin' : (s.extract i0 (i0 + gk)).data.toList ∉ sgL := by rw [extract_list]; exact hin
     simp only [if_neg hin'] at hlk
     have HI := aP hin
     clear hin hin'
     go_wp2_with fail
     go_quiet (fail)
     go_wp2
     go_roundg (gk - 1)
     case measure => omega
     case rel =>
      refine ⟨gk - 1, ?_, rfl, by omega, ?_, hr, hb, hM.kept ((Kept.refl noX wr).drewN _) (fun h => h), hk.drewN _⟩
      ·have e : ∀ a b : Int, a = b → Value.int .i64 a = .int .i64 b := fun a b h => by rw [h]
       exact e _ _ kom
      ·intro m' h1 h2
       by_cases h3 : m' = gk
       ·rw [h3]; exact HI.out
       ·exact HN.out m' kom h2
   ·obtain rfl : gk = 0 := by omega
    have HG : Hid (sgN (s.data.toList.drop i0) = 0) := sgN_miss (HDL.out) HM3.out HN.out
    clear hlk
    go_wp2
    go_ret
    refine ⟨?_, by rw [HG.out]; exact hr, hk⟩
    rw [HG.out, Nat.add_zero, extract_none]
    rfl
end Go.Proofs.YtjkgepppoopheaaGreatDoor
