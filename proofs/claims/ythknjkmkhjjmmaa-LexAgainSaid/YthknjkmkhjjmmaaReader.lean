/- What a reader's calls do: taking off what is such, what stands between words (conditions: the text is of at most 1000000 bytes). -/
import Derived.Test.YthknjkmkhjjmmaaOff
namespace Go.Proofs.Ythknjkmkhjjmmaa
open Go.RowKit Go.Shelf

/-- How many bytes are taken off, a state going along. -/
def runS {σ : Type} (step : σ → UInt8 → σ) (ok : σ → UInt8 → Bool) : σ → List UInt8 → Nat
  | _, [] => 0
  | t, b :: l => if ok t b then runS step ok (step t b) l + 1 else 0

theorem runS_le {σ : Type} (step : σ → UInt8 → σ) (ok : σ → UInt8 → Bool) (l : List UInt8) : ∀ t, runS step ok t l ≤ l.length := by
  induction l with
  | nil => intro t; exact Nat.le_refl _
  | cons b l ih =>
    intro t
    unfold runS
    split
    · have := ih (step t b); simp only [List.length_cons]; omega
    · exact Nat.zero_le _
theorem runS_yes {σ : Type} (step : σ → UInt8 → σ) (ok : σ → UInt8 → Bool) (l : List UInt8) : ∀ t m b, m < runS step ok t l → l[m]? = some b → ok ((l.take m).foldl step t) b = true := by
  induction l with
  | nil => intro t m b h; simp [runS] at h
  | cons a l ih =>
    intro t m b h hb
    unfold runS at h
    split at h
    · cases m with
      | zero => simp only [List.getElem?_cons_zero, Option.some.injEq] at hb; subst hb; simpa using ‹ok t a = true›
      | succ m => simpa using ih (step t a) m b (by omega) (by simpa using hb)
    · omega
theorem runS_no {σ : Type} (step : σ → UInt8 → σ) (ok : σ → UInt8 → Bool) (l : List UInt8) : ∀ t b, l[runS step ok t l]? = some b → ok ((l.take (runS step ok t l)).foldl step t) b = false := by
  induction l with
  | nil => intro t b h; simp at h
  | cons a l ih =>
    intro t b hb
    unfold runS at hb ⊢
    split
    · rename_i h
      rw [if_pos h] at hb
      simpa using ih (step t a) b (by simpa using hb)
    · rename_i h
      rw [if_neg h] at hb
      simp only [List.getElem?_cons_zero, Option.some.injEq] at hb; subst hb; simpa using h

theorem drop_at {s : ByteArray} {i0 k : Nat} (hi : i0 ≤ k) (hk : k < s.size) : (s.data.toList.drop i0)[k - i0]? = some s[k] := by
  rw [List.getElem?_drop, show i0 + (k - i0) = k from by omega, byte_at hk]
theorem take_next {l : List UInt8} {m : Nat} {b : UInt8} (h : l[m]? = some b) : l.take (m + 1) = l.take m ++ [b] := by
  rw [List.take_add_one, h]; rfl
theorem drop_len {s : ByteArray} {i0 : Nat} : (s.data.toList.drop i0).length = s.size - i0 := by
  rw [List.length_drop]; simp

/-- The bytes from i0 on that are such. -/
def runQ (q : Int → Bool) (l : List UInt8) : Nat := runS (σ := Unit) (fun _ _ => ()) (fun _ b => q (b.toNat : Nat)) () l

theorem off_pure (f : Nat) (q : Int → Bool) (eg : ∀ args w, (callFunc f args).run Try.prog w = .ok (.enter f args) w)
    (hf : ∀ x w, Calls Try.prog f #[.int .u8 x] w fun e w' => e = .returned (.bool (q x)) ∧ w = w')
    (B : Nat) (s : ByteArray) (hs : s.size ≤ 1000000) (i0 : Nat) (hi0 : i0 ≤ s.size) (w : World) (hr : Rdr w B s i0) :
    Calls Try.prog 27 #[.pointer (some ⟨B, 0, none⟩), .func (.func f) #[] #[]] w fun e w' =>
      e = .returned (.string (s.extract i0 (i0 + runQ q (s.data.toList.drop i0)))) ∧ Rdr w' B s (i0 + runQ q (s.data.toList.drop i0)) ∧ Kept (· = B) w w' := by
  have hle : runQ q (s.data.toList.drop i0) ≤ s.size - i0 := by rw [← drop_len]; exact runS_le _ _ _ _
  refine (off_gen f #[] eg B s hs (fun k => q (s.data.toList.getD k 0).toNat) (fun _ _ => True) noX (fun h => h) i0 (i0 + runQ q (s.data.toList.drop i0)) (by omega) (by omega)
    (fun _ _ _ _ _ => trivial) ?_ ?_ ?_ w hr trivial).mono ?_
  · intro k W hk _ _ _ _
    refine (hf _ W).mono ?_
    rintro e W' ⟨rfl, rfl⟩
    refine ⟨?_, fun _ => trivial, Kept.refl _ _⟩
    have := byte_at hk
    simp [List.getD_eq_getElem?_getD, this]
  · intro k h1 h2
    have hk : k < s.size := by omega
    have := runS_yes (σ := Unit) (fun _ _ => ()) (fun _ b => q (b.toNat : Nat)) (s.data.toList.drop i0) () (k - i0) s[k] (by unfold runQ at h2; omega) (drop_at h1 hk)
    simpa [List.getD_eq_getElem?_getD, byte_at hk] using this
  · intro h
    have := runS_no (σ := Unit) (fun _ _ => ()) (fun _ b => q (b.toNat : Nat)) (s.data.toList.drop i0) () (s[i0 + runQ q (s.data.toList.drop i0)]) (by
      have := drop_at (s := s) (i0 := i0) (k := i0 + runQ q (s.data.toList.drop i0)) (by omega) h
      rw [show i0 + runQ q (s.data.toList.drop i0) - i0 = runQ q (s.data.toList.drop i0) from by omega] at this
      exact this)
    simpa [List.getD_eq_getElem?_getD, byte_at h] using this
  · rintro e w' ⟨rfl, h1, h2⟩
    exact ⟨rfl, h1, h2.mono (fun k _ hx => by rcases hx with hx | hx; exact hx.elim; exact hx)⟩

theorem off_aln (B : Nat) (s : ByteArray) (hs : s.size ≤ 1000000) (i0 : Nat) (hi0 : i0 ≤ s.size) (w : World) (hr : Rdr w B s i0) :
    Calls Try.prog 27 #[.pointer (some ⟨B, 0, none⟩), .func (.func 28) #[] #[]] w fun e w' =>
      e = .returned (.string (s.extract i0 (i0 + runQ alnB (s.data.toList.drop i0)))) ∧ Rdr w' B s (i0 + runQ alnB (s.data.toList.drop i0)) ∧ Kept (· = B) w w' :=
  off_pure 28 alnB (enters_of Try.func28 (by kernel_rfl) rfl) aln_any B s hs i0 hi0 w hr

theorem off_end (B : Nat) (s : ByteArray) (hs : s.size ≤ 1000000) (i0 : Nat) (hi0 : i0 ≤ s.size) (w : World) (hr : Rdr w B s i0) :
    Calls Try.prog 27 #[.pointer (some ⟨B, 0, none⟩), .func (.func 32) #[] #[]] w fun e w' =>
      e = .returned (.string (s.extract i0 (i0 + runQ (fun _ => true) (s.data.toList.drop i0)))) ∧ Rdr w' B s (i0 + runQ (fun _ => true) (s.data.toList.drop i0)) ∧ Kept (· = B) w w' :=
  off_pure 32 (fun _ => true) (enters_of Try.func32 (by kernel_rfl) rfl) end1_any B s hs i0 hi0 w hr

/-! ### between -/
def remB (r : Bool) (x : Int) : Bool := (x == 35) || (r && (x != 10))

set_option maxHeartbeats 400000 in
theorem between1_any (R : Nat) (r : Bool) (x : Int) (w : World) (h : Cells w R 4 [.bool r]) :
    Calls Try.prog 43 #[.int .u8 x, .pointer (some ⟨R, 0, none⟩)] w fun e w' => e = .returned (.bool (remB r x || blkB x)) ∧ Cells w' R 4 [.bool (remB r x)] ∧ Kept (· = R) w w' := by
  have hc := h.cell 0
  have hf := h.free 0
  simp only [List.getElem?_cons_zero] at hc
  have hput := h.put 0 (.bool (remB r x))
  have fin : ∀ b : Bool, b = remB r x → ∀ (e : Ending) w', (e = .returned (.bool (remB r x || blkB x)) ∧ w' = w.setCell ⟨R, 0, none⟩ (.bool b)) →
      e = .returned (.bool (remB r x || blkB x)) ∧ Cells w' R 4 [.bool (remB r x)] ∧ Kept (· = R) w w' := by
    rintro b rfl e w' ⟨rfl, rfl⟩
    exact ⟨rfl, hput, (Kept.refl _ _).setCell (fun _ => by rfl) _⟩
  refine Calls.mono (R := fun e w' => e = .returned (.bool (remB r x || blkB x)) ∧ w' = w.setCell ⟨R, 0, none⟩ (.bool (remB r x))) ?_ (fin _ rfl)
  clear fin hput
  by_cases h35 : x = 35
  · subst h35
    have e1 : remB r 35 = true := rfl
    rw [e1]
    go_enter Try.func43, Try.ntmps43
    go_wp2
    go_ret
    exact ⟨rfl, rfl⟩
  · have t35 : (x == 35) = false := by simpa using h35
    cases r with
    | false =>
      have e1 : remB false x = false := by simp [remB, h35]
      rw [e1, Bool.false_or]
      clear e1 h35
      go_enter Try.func43, Try.ntmps43
      go_wp2_with (go_at_call 44; refine (blank_any _ _).mono ?_; rintro e w' ⟨rfl, rfl⟩)
      go_ret
      exact ⟨rfl, rfl⟩
    | true =>
      by_cases h10 : x = 10
      · subst h10
        have e1 : remB true 10 = false := rfl
        rw [e1, Bool.false_or]
        clear e1 h35 t35
        go_enter Try.func43, Try.ntmps43
        go_wp2_with (go_at_call 44; refine (blank_any _ _).mono ?_; rintro e w' ⟨rfl, rfl⟩)
        go_ret
        exact ⟨rfl, rfl⟩
      · have t10 : (x == 10) = false := by simpa using h10
        have u10 : (x != 10) = true := by simpa using h10
        have e1 : remB true x = true := by simp [remB, h10]
        rw [e1, Bool.true_or]
        clear e1 h35 h10
        go_enter Try.func43, Try.ntmps43
        go_wp2
        go_ret
        exact ⟨rfl, rfl⟩

/-- How many bytes stand between words here. -/
def skN (l : List UInt8) : Nat := runS (fun r b => remB r (b.toNat : Nat)) (fun r b => remB r (b.toNat : Nat) || blkB (b.toNat : Nat)) false l

theorem getD_at {s : ByteArray} {k : Nat} (h : k < s.size) : s.data.toList.getD k 0 = s[k] := by
  simp [List.getD_eq_getElem?_getD, byte_at h]

set_option maxHeartbeats 400000 in
theorem between_any (B : Nat) (s : ByteArray) (hs : s.size ≤ 1000000) (i0 : Nat) (hi0 : i0 ≤ s.size) (w : World) (hr : Rdr w B s i0) :
    Calls Try.prog 36 #[.pointer (some ⟨B, 0, none⟩)] w fun e w' => e = .returned (.tuple #[]) ∧ Rdr w' B s (i0 + skN (s.data.toList.drop i0)) ∧ Kept (· = B) w w' := by
  have hle : skN (s.data.toList.drop i0) ≤ s.size - i0 := by rw [← drop_len]; exact runS_le _ _ _ _
  have hB : B < w.heap.size := Cells.lt hr
  have hoff := Lib.hid (off_gen 43 #[.pointer (some ⟨w.heap.size, 0, none⟩)] (enters_of Try.func43 (by kernel_rfl) rfl) B s hs
    (fun k => let r := ((s.data.toList.drop i0).take (k - i0)).foldl (fun r b => remB r (b.toNat : Nat)) false
      remB r ((s.data.toList.getD k 0).toNat : Nat) || blkB ((s.data.toList.getD k 0).toNat : Nat))
    (fun k W => Cells W w.heap.size 4 [.bool (((s.data.toList.drop i0).take (k - i0)).foldl (fun r b => remB r (b.toNat : Nat)) false)])
    (· = w.heap.size) (fun h => by omega) i0 (i0 + skN (s.data.toList.drop i0)) (by omega) (by omega)
    (fun k W W' h hk => h.kept hk (fun h => by omega))
    (by
      intro k W hk h1 h2 hI hR
      refine (between1_any w.heap.size _ _ W hI).mono ?_
      rintro e W' ⟨rfl, h3, h4⟩
      refine ⟨by simp only [getD_at hk], fun _ => ?_, h4⟩
      rw [show k + 1 - i0 = k - i0 + 1 from by omega, take_next (drop_at h1 hk), List.foldl_append]
      exact h3)
    (by
      intro k h1 h2
      have hk : k < s.size := by omega
      have := runS_yes (fun r b => remB r (b.toNat : Nat)) (fun r b => remB r (b.toNat : Nat) || blkB (b.toNat : Nat)) (s.data.toList.drop i0) false (k - i0) s[k] (by unfold skN at h2; omega) (drop_at h1 hk)
      simpa only [getD_at hk] using this)
    (by
      intro h
      have := runS_no (fun r b => remB r (b.toNat : Nat)) (fun r b => remB r (b.toNat : Nat) || blkB (b.toNat : Nat)) (s.data.toList.drop i0) false (s[i0 + skN (s.data.toList.drop i0)]) (by
        have := drop_at (s := s) (i0 := i0) (k := i0 + skN (s.data.toList.drop i0)) (by omega) h
        rw [show i0 + skN (s.data.toList.drop i0) - i0 = skN (s.data.toList.drop i0) from by omega] at this
        exact this)
      simp only [getD_at h]
      rw [show i0 + skN (s.data.toList.drop i0) - i0 = skN (s.data.toList.drop i0) from by omega]
      exact this)
    (w.alloc (.cells #[.bool false] 4)) (Cells.alloc hr _) (by
      rw [Nat.sub_self, List.take_zero]
      exact Cells.fresh w 4 [.bool false]))
  clear hle hB hr
  go_enter Try.func36, Try.ntmps36
  go_wp2_with fail
  refine hoff.out.mono ?_
  rintro e w1 ⟨rfl, h1, h2⟩
  go_wp2
  go_end0
  refine ⟨rfl, h1, ((Kept.refl (· = B) w).alloc _).join h2 ?_⟩
  intro i hx hi
  rcases hx with hx | hx
  · omega
  · exact hx

/-! ### sign: n bytes -/
set_option maxHeartbeats 400000 in
theorem sign1_any (B Rb E : Nat) (s : ByteArray) (k n : Nat) (x : Int) (w : World) (hr : Rdr w B s k) (h1 : Cells w Rb 49 [.pointer (some ⟨B, 0, none⟩)]) (h2 : Cells w E 3 [.int .i64 n]) :
    Calls Try.prog 48 #[.int .u8 x, .pointer (some ⟨Rb, 0, none⟩), .pointer (some ⟨E, 0, none⟩)] w fun e w' => e = .returned (.bool (decide (k < n))) ∧ Kept noX w w' := by
  obtain ⟨c0, c1, c2, c3, f0, f1, f2, f3⟩ := hr.is
  have d1 := h1.cell 0
  have d2 := h2.cell 0
  simp only [List.getElem?_cons_zero] at d1 d2
  clear hr h1 h2
  go_enter Try.func48, Try.ntmps48
  go_wp2_with fail
  go_quiet (fail)
  go_wp2
  go_ret
  exact ⟨by simp, (Kept.refl _ _).drewN _⟩

theorem off_to (B Rb E : Nat) (s : ByteArray) (hs : s.size ≤ 1000000) (i0 n : Nat) (hi0 : i0 + n ≤ s.size) (w : World) (hr : Rdr w B s i0) (h1 : Cells w Rb 49 [.pointer (some ⟨B, 0, none⟩)]) (h2 : Cells w E 3 [.int .i64 ((i0 + n : Nat) : Int)]) (hb1 : Rb ≠ B) (hb2 : E ≠ B) :
    Calls Try.prog 27 #[.pointer (some ⟨B, 0, none⟩), .func (.func 48) #[] #[.pointer (some ⟨Rb, 0, none⟩), .pointer (some ⟨E, 0, none⟩)]] w fun e w' => e = .returned (.string (s.extract i0 (i0 + n))) ∧ Rdr w' B s (i0 + n) ∧ Kept (· = B) w w' := by
  refine (off_gen 48 #[.pointer (some ⟨Rb, 0, none⟩), .pointer (some ⟨E, 0, none⟩)] (enters_of Try.func48 (by kernel_rfl) rfl) B s hs (fun k => decide (k < i0 + n))
    (fun _ W => Cells W Rb 49 [.pointer (some ⟨B, 0, none⟩)] ∧ Cells W E 3 [.int .i64 ((i0 + n : Nat) : Int)]) noX (fun h => h) i0 (i0 + n) (by omega) (by omega)
    (fun k W W' h hk => ⟨h.1.kept hk hb1, h.2.kept hk hb2⟩) ?_ ?_ ?_ w hr ⟨h1, h2⟩).mono ?_
  · intro k W hk _ _ hI hR
    refine (sign1_any B Rb E s k (i0 + n) _ W hR hI.1 hI.2).mono ?_
    rintro e W' ⟨rfl, h3⟩
    exact ⟨rfl, fun _ => ⟨hI.1.kept h3 (fun h => h), hI.2.kept h3 (fun h => h)⟩, h3⟩
  · intro k _ h
    simpa using h
  · intro _
    simp
  · rintro e w' ⟨rfl, h3, h4⟩
    exact ⟨rfl, h3, h4.mono (fun k _ hx => by rcases hx with hx | hx; exact hx.elim; exact hx)⟩
end Go.Proofs.Ythknjkmkhjjmmaa
