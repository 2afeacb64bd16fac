/- What (*reader).off does, of any function of bytes that it is handed (conditions: the text is of at most 1000000 bytes). -/
import Derived.Test.YthknjkmkhjjmmaaSmall
namespace Go.Proofs.Ythknjkmkhjjmmaa
open Go.RowKit Go.Shelf

/-- The place of byte k. -/
def plOf (s : List UInt8) : Nat → Nat × Nat
  | 0 => (1, 1)
  | k + 1 => if s[k]? = some 10 then ((plOf s k).1 + 1, 1) else ((plOf s k).1, (plOf s k).2 + 1)

theorem plOf_le (s : List UInt8) (k : Nat) : (plOf s k).1 ≤ k + 1 ∧ (plOf s k).2 ≤ k + 1 := by
  induction k with
  | zero => exact ⟨Nat.le_refl _, Nat.le_refl _⟩
  | succ k ih =>
    unfold plOf
    split
    · exact ⟨by dsimp only; omega, by dsimp only; omega⟩
    · exact ⟨by dsimp only; omega, by dsimp only; omega⟩

/-- The reader in block B of the text s, at byte k. -/
def Rdr (w : World) (B : Nat) (s : ByteArray) (k : Nat) : Prop :=
  Cells w B 55 [.int .i64 ((plOf s.data.toList k).1 : Nat), .int .i64 ((plOf s.data.toList k).2 : Nat), .string s, .int .i64 (k : Nat)]

structure RdrIs (w : World) (B : Nat) (s : ByteArray) (l c k : Nat) : Prop where
  c0 : w.cell? ⟨B, 0, none⟩ = some (.int .i64 (l : Nat))
  c1 : w.cell? ⟨B, 1, none⟩ = some (.int .i64 (c : Nat))
  c2 : w.cell? ⟨B, 2, none⟩ = some (.string s)
  c3 : w.cell? ⟨B, 3, none⟩ = some (.int .i64 (k : Nat))
  f0 : w.frozen? ⟨B, 0, none⟩ = false
  f1 : w.frozen? ⟨B, 1, none⟩ = false
  f2 : w.frozen? ⟨B, 2, none⟩ = false
  f3 : w.frozen? ⟨B, 3, none⟩ = false
theorem Rdr.lt {w : World} {B : Nat} {s : ByteArray} {k : Nat} (h : Rdr w B s k) : B < w.heap.size := Cells.lt h
theorem Rdr.kept {X : Nat → Prop} {w w' : World} {B : Nat} {s : ByteArray} {k : Nat} (h : Rdr w B s k) (hk : Kept X w w') (hx : ¬ X B) : Rdr w' B s k := Cells.kept h hk hx
theorem byte_at {s : ByteArray} {k : Nat} (h : k < s.size) : s.data.toList[k]? = some s[k] := by
  rw [List.getElem?_eq_getElem (by simpa using h)]; rfl
theorem Rdr.next_line {w : World} {B : Nat} {s : ByteArray} {k : Nat} (h : Rdr w B s k) (hk : k < s.size) (h10 : s[k] = 10) :
    Rdr (((( w.setCell ⟨B, 1, none⟩ (.int .i64 (((plOf s.data.toList k).2 : Nat) + 1))).setCell ⟨B, 0, none⟩ (.int .i64 (((plOf s.data.toList k).1 : Nat) + 1))).setCell ⟨B, 1, none⟩ (.int .i64 1)).setCell ⟨B, 3, none⟩ (.int .i64 ((k : Nat) + 1))) B s (k + 1) := by
  have := (((Cells.put h 1 (.int .i64 (((plOf s.data.toList k).2 : Nat) + 1))).put 0 (.int .i64 (((plOf s.data.toList k).1 : Nat) + 1))).put 1 (.int .i64 1)).put 3 (.int .i64 ((k : Nat) + 1))
  have e : plOf s.data.toList (k + 1) = ((plOf s.data.toList k).1 + 1, 1) := by
    conv => lhs; unfold plOf
    rw [byte_at hk, h10, if_pos rfl]
  unfold Rdr
  rw [e]
  simpa using this
theorem Rdr.next_col {w : World} {B : Nat} {s : ByteArray} {k : Nat} (h : Rdr w B s k) (hk : k < s.size) (h10 : s[k] ≠ 10) :
    Rdr ((( w.setCell ⟨B, 1, none⟩ (.int .i64 (((plOf s.data.toList k).2 : Nat) + 1)))).setCell ⟨B, 3, none⟩ (.int .i64 ((k : Nat) + 1))) B s (k + 1) := by
  have := (Cells.put h 1 (.int .i64 (((plOf s.data.toList k).2 : Nat) + 1))).put 3 (.int .i64 ((k : Nat) + 1))
  have e : plOf s.data.toList (k + 1) = ((plOf s.data.toList k).1, (plOf s.data.toList k).2 + 1) := by
    conv => lhs; unfold plOf
    rw [byte_at hk, if_neg (by simpa using h10)]
  unfold Rdr
  rw [e]
  simpa using this
theorem Rdr.is {w : World} {B : Nat} {s : ByteArray} {k : Nat} (h : Rdr w B s k) : RdrIs w B s (plOf s.data.toList k).1 (plOf s.data.toList k).2 k :=
  ⟨h.cell 0, h.cell 1, h.cell 2, h.cell 3, h.free 0, h.free 1, h.free 2, h.free 3⟩

set_option maxRecDepth 100000 in
set_option maxHeartbeats 1000000 in
theorem off_gen (f : Nat) (caps : Array Value) (eg : ∀ args w, (callFunc f args).run Try.prog w = .ok (.enter f args) w) (B : Nat) (s : ByteArray) (hs : s.size ≤ 1000000)
    (p : Nat → Bool) (I : Nat → World → Prop) (X : Nat → Prop) (hX : ¬ X B) (i0 j : Nat) (hi : i0 ≤ j) (hj : j ≤ s.size)
    (hI : ∀ k W W', I k W → Kept (· = B) W W' → I k W')
    (hcall : ∀ k W (hk : k < s.size), i0 ≤ k → k ≤ j → I k W → Rdr W B s k → Calls Try.prog f (#[.int .u8 (s[k].toNat : Nat)] ++ caps) W fun e W' => e = .returned (.bool (p k)) ∧ (p k = true → I (k + 1) W') ∧ Kept X W W')
    (hyes : ∀ k, i0 ≤ k → k < j → p k = true) (hno : j < s.size → p j = false)
    (w : World) (hr : Rdr w B s i0) (h0 : I i0 w) :
    Calls Try.prog 27 #[.pointer (some ⟨B, 0, none⟩), .func (.func f) #[] caps] w fun e w' => e = .returned (.string (s.extract i0 j)) ∧ Rdr w' B s j ∧ Kept (fun k => X k ∨ k = B) w w' := by
  obtain ⟨c0, c1, c2, c3, f0, f1, f2, f3⟩ := hr.is
  go_enter Try.func27, Try.ntmps27
  go_wp2
  go_loopg [] (j - i0) (fun g wr => ∃ k, i0 ≤ k ∧ k ≤ j ∧ g = j - k ∧ Rdr wr B s k ∧ I k wr ∧ Kept (fun k => X k ∨ k = B) w wr)
  case atStart => exact ⟨i0, Nat.le_refl _, hi, rfl, hr, h0, Kept.refl _ _⟩
  case round =>
    obtain ⟨k, hk1, hk2, rfl, hrk, hIk, hKk⟩ := hrel
    clear c0 c1 c2 c3 f0 f1 f2 f3 hr h0
    obtain ⟨c0, c1, c2, c3, f0, f1, f2, f3⟩ := hrk.is
    have hpl := plOf_le s.data.toList k
    by_cases hlt : k < s.size
    · have hlt' : decide ((k : Int) < (s.size : Int)) = true := by simpa using hlt
      have hc := Lib.hid (hcall k wr.drew hlt hk1 hk2 (hI k wr wr.drew hIk ((Kept.refl _ _).drew)) hrk)
      by_cases hkj : k < j
      · have hp := Lib.hid (hyes k hk1 hkj)
        by_cases h10 : s[k] = 10
        · have t10 : ((s[k].toNat : Int) == 10) = true := by rw [h10]; rfl
          have H10 := Lib.hid h10
          clear h10
          go_wp2_with fail
          go_still_tail 21, (by kernel_rfl)
          go_wp2_with fail
          refine hc.out.mono ?_
          rintro e W1 ⟨rfl, hI1, hK1⟩
          rw [hp.out]
          replace hI1 := hI1 hp.out
          have hr1 : Rdr W1 B s k := Rdr.kept (w := wr.drew) hrk hK1 hX
          clear c0 c1 c2 c3 f0 f1 f2 f3
          obtain ⟨c0, c1, c2, c3, f0, f1, f2, f3⟩ := hr1.is
          go_wp2
          go_quiet (fail)
          go_wp2
          go_roundg (j - (k + 1))
          case measure => omega
          case rel =>
            refine ⟨k + 1, by omega, by omega, rfl, Rdr.next_line hr1 hlt H10.out, hI _ _ _ hI1 ?_, ?_⟩
            · repeat (first | exact Kept.refl _ _ | refine Kept.drewN ?_ _ | refine Kept.setCell ?_ (fun _ => by rfl) _)
            · repeat (first | exact (hKk.drew).join hK1 (fun i hx _ => .inl hx) | refine Kept.drewN ?_ _ | refine Kept.setCell ?_ (fun _ => .inr rfl) _)
        · have t10 : ((s[k].toNat : Int) == 10) = false := by
            rw [beq_eq_false_iff_ne]; intro hh; apply h10; apply UInt8.toNat_inj.1; show _ = 10; omega
          have H10 := Lib.hid h10
          clear h10
          go_wp2_with fail
          go_still_tail 21, (by kernel_rfl)
          go_wp2_with fail
          refine hc.out.mono ?_
          rintro e W1 ⟨rfl, hI1, hK1⟩
          rw [hp.out]
          replace hI1 := hI1 hp.out
          have hr1 : Rdr W1 B s k := Rdr.kept (w := wr.drew) hrk hK1 hX
          clear c0 c1 c2 c3 f0 f1 f2 f3
          obtain ⟨c0, c1, c2, c3, f0, f1, f2, f3⟩ := hr1.is
          go_wp2
          go_quiet (fail)
          go_wp2
          go_roundg (j - (k + 1))
          case measure => omega
          case rel =>
            refine ⟨k + 1, by omega, by omega, rfl, Rdr.next_col hr1 hlt H10.out, hI _ _ _ hI1 ?_, ?_⟩
            · repeat (first | exact Kept.refl _ _ | refine Kept.drewN ?_ _ | refine Kept.setCell ?_ (fun _ => by rfl) _)
            · repeat (first | exact (hKk.drew).join hK1 (fun i hx _ => .inl hx) | refine Kept.drewN ?_ _ | refine Kept.setCell ?_ (fun _ => .inr rfl) _)
      · obtain rfl : k = j := by omega
        have hp := Lib.hid (hno hlt)
        go_wp2_with fail
        go_still_tail 21, (by kernel_rfl)
        go_wp2_with fail
        refine hc.out.mono ?_
        rintro e W1 ⟨rfl, hI1, hK1⟩
        rw [hp.out]
        clear hI1
        have hr1 : Rdr W1 B s k := Rdr.kept (w := wr.drew) hrk hK1 hX
        clear c0 c1 c2 c3 f0 f1 f2 f3
        obtain ⟨c0, c1, c2, c3, f0, f1, f2, f3⟩ := hr1.is
        go_wp2
        go_quiet (fail)
        go_wp2
        go_ret
        exact ⟨rfl, hr1, by repeat (first | exact (hKk.drew).join hK1 (fun i hx _ => .inl hx) | refine Kept.drewN ?_ _)⟩
    · have hlt' : decide ((k : Int) < (s.size : Int)) = false := by simpa using hlt
      obtain rfl : k = j := by omega
      go_wp2_with fail
      go_quiet (fail)
      go_wp2
      go_quiet (fail)
      go_wp2
      go_ret
      exact ⟨rfl, hrk, by repeat (first | exact hKk | refine Kept.drewN ?_ _)⟩
end Go.Proofs.Ythknjkmkhjjmmaa
