/- Layer 4: a state of so many mutexes, conditions and channels is laid (conditions: at most 64 of each). -/
import Derived.Test.YtehcfahfbdphpaaSy8
import Derived.Test.YtehcfahfbdphpaaRegInv
import Derived.Test.YtehcfahfbdphpaaSy5
namespace Go.Proofs.Ytehcfahfbdphpaa
open Go.RowKit Go.Shelf

theorem infoC : (Try.prog.info? 99).map (fun i => (i.zero, i.size, i.bytes)) = some (some (.agg #[.slice none 0 0]), 1, 24) := by kernel_rfl
theorem infoQ : (Try.prog.info? 112).map (fun i => (i.zero, i.size, i.bytes)) = some (some (.agg #[.slice none 0 0, .int .i64 0, .int .i64 0]), 3, 40) := by kernel_rfl
def zerosC (n : Nat) : List Value := List.replicate n (.slice none 0 0)
def zerosQ (n : Nat) : Array Value := madeCells #[.slice none 0 0, .int .i64 0, .int .i64 0] (n * 3)
theorem run_makeC (n : Nat) (hn : n ≤ 64) (W : World) :
    (Instr.makeSlice 73 (.int .i64 (n : Int)) (.int .i64 (n : Int))).run Try.prog W = .ok (.slice (some ⟨W.heap.size, 0, none⟩) n n) (W.alloc (.cells (zerosC n).toArray 99)) := by
  obtain ⟨i0, hi, hz0, hz1, hz2⟩ := info_parts infoC
  have := run_make (P := Try.prog) W 73 99 i0 _ Try.underlying73 hi hz0 .i64 .i64 n n (by omega) (by omega) (by rw [hz2]; omega) (by omega)
  rw [this, hz1, Int.toNat_natCast, Nat.mul_one]
  have e : madeCells (Value.agg #[.slice none 0 0]).cells n = (zerosC n).toArray := by
    simp only [madeCells, zerosC, Value.cells]
    apply Array.toList_inj.1
    apply List.ext_getElem
    · simp
    · intro i h1 h2
      simp [Nat.mod_one]
  rw [e]
theorem run_makeQ (n : Nat) (hn : n ≤ 64) (W : World) :
    (Instr.makeSlice 74 (.int .i64 (n : Int)) (.int .i64 (n : Int))).run Try.prog W = .ok (.slice (some ⟨W.heap.size, 0, none⟩) n n) (W.alloc (.cells (zerosQ n) 112)) := by
  obtain ⟨i0, hi, hz0, hz1, hz2⟩ := info_parts infoQ
  have := run_make (P := Try.prog) W 74 112 i0 _ Try.underlying74 hi hz0 .i64 .i64 n n (by omega) (by omega) (by rw [hz2]; omega) (by omega)
  rw [this, hz1, Int.toNat_natCast]
  rfl
theorem zerosQ_at (n : Nat) {i j : Nat} (hi : i < n) (hj : j < 3) : (zerosQ n).toList[i * 3 + j]? = [Value.slice none 0 0, .int .i64 0, .int .i64 0][j]? := by
  have h1 : i * 3 + j < n * 3 := by omega
  unfold zerosQ madeCells
  rw [Array.getElem?_toList, Array.getElem?_map, Array.getElem?_range, if_pos h1]
  have e : (i * 3 + j) % 3 = j := by omega
  match j, hj with
  | 0, _ => simp
  | 1, _ => simp [Nat.add_mod]
  | 2, _ => simp [Nat.add_mod]

theorem Cells.new {W : World} {n : Nat} {t : TypeId} {cs : List Value} (h : n = W.heap.size) : Cells (W.alloc (.cells cs.toArray t (0, 0))) n t cs := by rw [h]; exact Cells.fresh W t cs
/-- What holds of the parts whatever has been made so far. -/
def LayI (m c N rc : Nat) (A : Option Addr) (w w1 : World) (l : Array Bool) (a : Act) (W : World) : Prop :=
  ∃ b1 b3 b5 b8 b9 b10 b11 : Bool, ∃ u7 u11 u13 u15 u18 u19 : Value,
    l = #[true, b1, true, b3, true, b5, true, true, b8, b9, b10, b11] ∧ a = { tmps := #[.int .i64 m, .int .i64 c, .slice A N rc, undef, undef, undef, .pointer (some ⟨w.heap.size, 0, none⟩), u7, undef, undef, .agg #[.int .i64 (-1)], u11, .int .i64 m, u13, .int .i64 c, u15, .slice A N rc, .int .i64 N, u18, u19, undef, undef, undef, undef, undef, undef, undef, undef, undef, undef, undef, undef, undef, undef, undef], defers := [] } ∧ Kept noX w1 W ∧
    (b1 = true → ∃ g, u11 = .slice (some ⟨g, 0, none⟩) 1 1 ∧ Cells W g 86 [.int .i64 (-1)]) ∧
    (b3 = true → ∃ g, u13 = .slice (some ⟨g, 0, none⟩) m m ∧ w1.heap.size ≤ g ∧ Cells W g 86 (List.replicate m (.int .i64 (-1)))) ∧
    (b5 = true → ∃ g, u15 = .slice (some ⟨g, 0, none⟩) c c ∧ w1.heap.size ≤ g ∧ Cells W g 99 (zerosC c)) ∧
    (b8 = true → ∃ g, u18 = .slice (some ⟨g, 0, none⟩) N N ∧ w1.heap.size ≤ g ∧ Cells W g 112 (zerosQ N).toList) ∧
    (b9 = true → b3 = true ∧ b5 = true ∧ b8 = true ∧ u19 = .agg #[.bool true, u13, u15, u18]) ∧
    (b10 = true → ∃ g, u7 = .pointer (some ⟨g, 0, none⟩) ∧ w1.heap.size ≤ g ∧ ∃ cs, Cells W g 76 cs ∧ cs.length = 4 ∧ (b11 = true → cs = [.bool true, u13, u15, u18])) ∧ (b11 = true → b9 = true ∧ b10 = true)
section
variable {w1 W W' : World} {m c N : Nat} {u11 u13 u15 u18 u7 : Value} {b1 b3 b5 b8 b10 b11 : Bool}
theorem lay1 (h : b1 = true → ∃ g, u11 = .slice (some ⟨g, 0, none⟩) 1 1 ∧ Cells W g 86 [.int .i64 (-1)]) (hk : Kept noX W W') : b1 = true → ∃ g, u11 = .slice (some ⟨g, 0, none⟩) 1 1 ∧ Cells W' g 86 [.int .i64 (-1)] := fun hb => by
  obtain ⟨g, h1, h2⟩ := h hb; exact ⟨g, h1, h2.keep hk⟩
theorem lay3 (h : b3 = true → ∃ g, u13 = .slice (some ⟨g, 0, none⟩) m m ∧ w1.heap.size ≤ g ∧ Cells W g 86 (List.replicate m (.int .i64 (-1)))) (hk : Kept noX W W') : b3 = true → ∃ g, u13 = .slice (some ⟨g, 0, none⟩) m m ∧ w1.heap.size ≤ g ∧ Cells W' g 86 (List.replicate m (.int .i64 (-1))) := fun hb => by
  obtain ⟨g, h1, hg, h2⟩ := h hb; exact ⟨g, h1, hg, h2.keep hk⟩
theorem lay5 (h : b5 = true → ∃ g, u15 = .slice (some ⟨g, 0, none⟩) c c ∧ w1.heap.size ≤ g ∧ Cells W g 99 (zerosC c)) (hk : Kept noX W W') : b5 = true → ∃ g, u15 = .slice (some ⟨g, 0, none⟩) c c ∧ w1.heap.size ≤ g ∧ Cells W' g 99 (zerosC c) := fun hb => by
  obtain ⟨g, h1, hg, h2⟩ := h hb; exact ⟨g, h1, hg, h2.keep hk⟩
theorem lay8 (h : b8 = true → ∃ g, u18 = .slice (some ⟨g, 0, none⟩) N N ∧ w1.heap.size ≤ g ∧ Cells W g 112 (zerosQ N).toList) (hk : Kept noX W W') : b8 = true → ∃ g, u18 = .slice (some ⟨g, 0, none⟩) N N ∧ w1.heap.size ≤ g ∧ Cells W' g 112 (zerosQ N).toList := fun hb => by
  obtain ⟨g, h1, hg, h2⟩ := h hb; exact ⟨g, h1, hg, h2.keep hk⟩
theorem lay10 (h : b10 = true → ∃ g, u7 = .pointer (some ⟨g, 0, none⟩) ∧ w1.heap.size ≤ g ∧ ∃ cs, Cells W g 76 cs ∧ cs.length = 4 ∧ (b11 = true → cs = [.bool true, u13, u15, u18])) (hk : Kept noX W W') : b10 = true → ∃ g, u7 = .pointer (some ⟨g, 0, none⟩) ∧ w1.heap.size ≤ g ∧ ∃ cs, Cells W' g 76 cs ∧ cs.length = 4 ∧ (b11 = true → cs = [.bool true, u13, u15, u18]) := fun hb => by
  obtain ⟨g, h1, h2, cs, h3, h4⟩ := h hb; exact ⟨g, h1, h2, cs, h3.keep hk, h4⟩
theorem lay10n (u13' u15' u18' : Value) (h : b10 = true → ∃ g, u7 = .pointer (some ⟨g, 0, none⟩) ∧ w1.heap.size ≤ g ∧ ∃ cs, Cells W g 76 cs ∧ cs.length = 4 ∧ (b11 = true → cs = [.bool true, u13, u15, u18])) (hk : Kept noX W W') (hn : ¬ b11 = true) : b10 = true → ∃ g, u7 = .pointer (some ⟨g, 0, none⟩) ∧ w1.heap.size ≤ g ∧ ∃ cs, Cells W' g 76 cs ∧ cs.length = 4 ∧ (b11 = true → cs = [.bool true, u13', u15', u18']) := fun hb => by
  obtain ⟨g, h1, h2, cs, h3, h4, _⟩ := h hb; exact ⟨g, h1, h2, cs, h3.keep hk, h4, fun h => absurd h hn⟩
end

theorem cells_ne {W : World} {g g' : Nat} {t t' : TypeId} {cs cs' : List Value} (h : Cells W g t cs) (h' : Cells W g' t' cs') (ht : t ≠ t') : ¬ g = g' := fun e => by
  subst e
  unfold Cells at h h'
  rw [h] at h'
  injection h' with h'
  injection h' with _ h'
  exact ht h'
/-- The channels' rooms as far as they have been written. -/
def ChI (W : World) (g N : Nat) (rooms : List Int) (k : Nat) : Prop :=
  ∃ cur, Cells W g 112 cur ∧ cur.length = N * 3 ∧ ∀ j, j < N → cur[j * 3]? = some (.slice none 0 0) ∧ cur[j * 3 + 1]? = some (.int .i64 (if j < k then rooms.getD j 0 else 0)) ∧ cur[j * 3 + 2]? = some (.int .i64 0)
set_option maxRecDepth 100000 in
set_option maxHeartbeats 1000000 in
theorem lay_any (m c : Nat) (hm : m ≤ 64) (hc : c ≤ 64) (A : Option Addr) (rc : Nat) (rooms : List Int) (hr : rooms.length ≤ 64) (w : World) (hv : RowV w noX (.slice A rooms.length rc) (rooms.map (D.int .i64))) :
    Calls Try.prog 35 #[.int .i64 m, .int .i64 c, .slice A rooms.length rc] w fun e w' => ∃ gm gc gq, e = .returned (.agg #[.bool true, .slice (some ⟨gm, 0, none⟩) m m, .slice (some ⟨gc, 0, none⟩) c c, .slice (some ⟨gq, 0, none⟩) rooms.length rooms.length]) ∧
      Kept noX w w' ∧ (w.heap.size ≤ gm ∧ w.heap.size ≤ gc ∧ w.heap.size ≤ gq) ∧ Cells w' gm 86 (List.replicate m (.int .i64 (-1))) ∧ Cells w' gc 99 (zerosC c) ∧ ChI w' gq rooms.length rooms rooms.length := by
  have hmC := run_makeC c hc
  have hmQ := run_makeQ rooms.length hr
  have HV := Lib.hid hv
  obtain ⟨N, hN⟩ : ∃ N, N = rooms.length := ⟨_, rfl⟩
  have HN := Lib.hid hN
  rw [← hN] at hmQ hr HV ⊢
  have mixed : Try.prog.follows .mixedOrders = true := by kernel_rfl
  clear hv hN
  go_enter Try.func35, Try.ntmps35
  go_wp2_with fail
  refine wp_region_held_drew (S := (fun _ => True)) (by kernel_rfl) trivial (fun hHeld => ?_)
  refine wpAnyH_take (i := 0) (v := ?_) rfl (by kernel_rfl) (by kernel_rfl) (by kernel_rfl) (fun _ _ _ h => h) (Or.inl ⟨by rfl, ?_⟩) (by assumption) ?_
  rotate_left
  · intro wS hSw
    (try dsimp only at hSw)
    go_simp
    (try with_reducible rfl)
  refine wpAnyH_take (i := 2) (v := ?_) rfl (by kernel_rfl) (by kernel_rfl) (by kernel_rfl) (fun _ _ _ h => h) (Or.inl ⟨by rfl, ?_⟩) (by assumption) ?_
  rotate_left
  · intro wS hSw
    (try dsimp only at hSw)
    go_simp
    (try with_reducible rfl)
  refine wpAnyH_take (i := 4) (v := ?_) rfl (by kernel_rfl) (by kernel_rfl) (by kernel_rfl) (fun _ _ _ h => h) (Or.inl ⟨by rfl, ?_⟩) (by assumption) ?_
  rotate_left
  · intro wS hSw
    (try dsimp only at hSw)
    go_simp
    (try with_reducible rfl)
  refine wpAnyH_take (i := 6) (v := ?_) rfl (by kernel_rfl) (by kernel_rfl) (by kernel_rfl) (fun _ _ _ h => h) (Or.inl ⟨by rfl, ?_⟩) (by assumption) ?_
  rotate_left
  · intro wS hSw
    (try dsimp only at hSw)
    go_simp
    (try with_reducible rfl)
  refine wpAnyH_take (i := 7) (v := ?_) rfl (by kernel_rfl) (by kernel_rfl) (by kernel_rfl) (fun _ _ _ h => h) (Or.inl ⟨by rfl, ?_⟩) (by assumption) ?_
  rotate_left
  · intro wS hSw
    (try dsimp only at hSw)
    go_simp
    (try with_reducible rfl)
  generalize hw1 : ((w.alloc (.cells #[.bool false, .slice none 0 0, .slice none 0 0, .slice none 0 0] 76)).drew) = w1
  refine wpAnyH_inv (LayI m c N rc A w w1) ?hstep ?hend 7 _ _ _ ?h0 (by decide)
  case hstep =>
    rintro l a W ⟨b1, b3, b5, b8, b9, b10, b11, u7, u11, u13, u15, u18, u19, rfl, rfl, hk, h1, h3, h5, h8, h9, h10, h11⟩ i hi
    obtain ⟨hi, hl, hd⟩ := ready_iff.1 hi
    have hi12 : i < 12 := hi
    have hcase : i = 0 ∨ i = 1 ∨ i = 2 ∨ i = 3 ∨ i = 4 ∨ i = 5 ∨ i = 6 ∨ i = 7 ∨ i = 8 ∨ i = 9 ∨ i = 10 ∨ i = 11 := by omega
    have H1 := Lib.hid h1
    have H3 := Lib.hid h3
    have H5 := Lib.hid h5
    have H8 := Lib.hid h8
    have H9 := Lib.hid h9
    have H10 := Lib.hid h10
    have H11 := Lib.hid h11
    have HK := Lib.hid hk
    clear h1 h3 h5 h8 h9 h10 h11 hk hi hi12
    rcases hcase with rfl | rfl | rfl | rfl | rfl | rfl | rfl | rfl | rfl | rfl | rfl | rfl
    · cases hl
    · refine wpOp_shut rfl (fun K hS => ?_)
      go_simp
      have hka : Kept noX W (W.alloc (.cells #[.int .i64 (-1)] 86)) := (Kept.refl _ _).alloc _
      exact hS.out _ _ ⟨true, b3, b5, b8, b9, b10, b11, u7, _, u13, u15, u18, u19, rfl, rfl, HK.out.trans hka, fun _ => ⟨_, rfl, Cells.fresh W 86 [.int .i64 (-1)]⟩, lay3 H3.out hka, lay5 H5.out hka, lay8 H8.out hka, H9.out, lay10 H10.out hka, H11.out⟩
    · cases hl
    · have hb1 : b1 = true := by simpa [Region.binds] using hd
      have hb3 : b3 = false := hl
      obtain ⟨g, rfl, hC⟩ := H1.out hb1
      have HC := Lib.hid (hC.cell 0)
      have hn9 : ¬ b9 = true := fun h => by rw [(H9.out h).1] at hb3; cases hb3
      have hn11 : ¬ b11 = true := fun h => hn9 (H11.out h).1
      clear hC
      refine wpOp_shut rfl (fun K hS => ?_)
      go_simp
      refine (repeat_any m hm g W HC.out).mono ?_
      rintro e W1 ⟨rfl, hC1, hka⟩
      exact hS.out _ _ ⟨b1, true, b5, b8, b9, b10, b11, u7, _, _, u15, u18, u19, rfl, rfl, HK.out.trans hka, lay1 H1.out hka, fun _ => ⟨_, rfl, HK.out.size, hC1⟩, lay5 H5.out hka, lay8 H8.out hka, fun h => absurd h hn9, lay10n _ _ _ H10.out hka hn11, H11.out⟩
    · cases hl
    · have hb5 : b5 = false := hl
      have hn9 : ¬ b9 = true := fun h => by rw [(H9.out h).2.1] at hb5; cases hb5
      have hn11 : ¬ b11 = true := fun h => hn9 (H11.out h).1
      refine wpOp_shut rfl (fun K hS => ?_)
      go_simp
      have hka : Kept noX W (W.alloc (.cells (zerosC c).toArray 99)) := (Kept.refl _ _).alloc _
      exact hS.out _ _ ⟨b1, b3, true, b8, b9, b10, b11, u7, u11, u13, _, u18, u19, rfl, rfl, HK.out.trans hka, lay1 H1.out hka, lay3 H3.out hka, fun _ => ⟨_, rfl, HK.out.size, Cells.fresh W 99 (zerosC c)⟩, lay8 H8.out hka, fun h => absurd h hn9, lay10n _ _ _ H10.out hka hn11, H11.out⟩
    · cases hl
    · cases hl
    · have hb8 : b8 = false := hl
      have hn9 : ¬ b9 = true := fun h => by rw [(H9.out h).2.2.1] at hb8; cases hb8
      have hn11 : ¬ b11 = true := fun h => hn9 (H11.out h).1
      refine wpOp_shut rfl (fun K hS => ?_)
      go_simp
      have hka : Kept noX W (W.alloc (.cells (zerosQ N) 112)) := (Kept.refl _ _).alloc _
      exact hS.out _ _ ⟨b1, b3, b5, true, b9, b10, b11, u7, u11, u13, u15, _, u19, rfl, rfl, HK.out.trans hka, lay1 H1.out hka, lay3 H3.out hka, lay5 H5.out hka, fun _ => ⟨_, rfl, HK.out.size, Cells.fresh W 112 (zerosQ N).toList⟩, fun h => absurd h hn9, lay10n _ _ _ H10.out hka hn11, H11.out⟩
    · have hd3 : b3 = true ∧ b5 = true ∧ b8 = true := by simpa [Region.binds] using hd
      obtain ⟨g3, rfl, hg3, hC3⟩ := H3.out hd3.1
      obtain ⟨g5, rfl, hg5, hC5⟩ := H5.out hd3.2.1
      obtain ⟨g8, rfl, hg8, hC8⟩ := H8.out hd3.2.2
      have HC3 := Lib.hid hC3
      have HC5 := Lib.hid hC5
      have HC8 := Lib.hid hC8
      clear hC3 hC5 hC8
      refine wpOp_shut rfl (fun K hS => ?_)
      go_simp
      exact hS.out _ _ ⟨b1, b3, b5, b8, true, b10, b11, u7, u11, _, _, _, _, rfl, rfl, HK.out, H1.out, fun _ => ⟨_, rfl, hg3, HC3.out⟩, fun _ => ⟨_, rfl, hg5, HC5.out⟩, fun _ => ⟨_, rfl, hg8, HC8.out⟩, fun _ => ⟨hd3.1, hd3.2.1, hd3.2.2, rfl⟩, H10.out, fun h => ⟨rfl, (H11.out h).2⟩⟩
    · have hb10 : b10 = false := hl
      have hn11 : ¬ b11 = true := fun h => by rw [(H11.out h).2] at hb10; cases hb10
      have hks := HK.out.size
      refine wpOp_shut rfl (fun K hS => ?_)
      go_simp
      have hka : Kept noX W (W.alloc (.cells #[.bool false, .slice none 0 0, .slice none 0 0, .slice none 0 0] 76)) := (Kept.refl _ _).alloc _
      exact hS.out _ _ ⟨b1, b3, b5, b8, b9, true, b11, _, u11, u13, u15, u18, u19, rfl, rfl, HK.out.trans hka, lay1 H1.out hka, lay3 H3.out hka, lay5 H5.out hka, lay8 H8.out hka, H9.out, fun _ => ⟨_, rfl, hks, _, Cells.fresh W 76 [.bool false, .slice none 0 0, .slice none 0 0, .slice none 0 0], rfl, fun h => absurd h hn11⟩, fun h => absurd h hn11⟩
    · have hd3 : b10 = true ∧ b9 = true := by
        have hd' : b10 = true ∧ b9 = true ∧ b3 = true ∧ b1 = true ∧ b3 = true ∧ b5 = true ∧ b8 = true ∧ b9 = true ∧ b10 = true := by simpa [Region.binds] using hd
        exact ⟨hd'.1, hd'.2.1⟩
      obtain ⟨hb3, hb5, hb8, rfl⟩ := H9.out hd3.2
      obtain ⟨g3, rfl, hg3, hC3⟩ := H3.out hb3
      obtain ⟨g5, rfl, hg5, hC5⟩ := H5.out hb5
      obtain ⟨g8, rfl, hg8, hC8⟩ := H8.out hb8
      obtain ⟨g, rfl, hg, cs, hC, hcl, _⟩ := H10.out hd3.1
      obtain ⟨x0, x1, x2, x3, rfl⟩ : ∃ x0 x1 x2 x3, cs = [x0, x1, x2, x3] := by
        match cs, hcl with
        | [x0, x1, x2, x3], _ => exact ⟨x0, x1, x2, x3, rfl⟩
      have p0 := hC.cell 0
      have p1 := hC.cell 1
      have p2 := hC.cell 2
      have p3 := hC.cell 3
      have q0 := hC.free 0
      have q1 := hC.free 1
      have q2 := hC.free 2
      have q3 := hC.free 3
      simp only [List.getElem?_cons_zero, List.getElem?_cons_succ] at p0 p1 p2 p3
      have HC := Lib.hid hC
      have HC3 := Lib.hid hC3
      have HC5 := Lib.hid hC5
      have HC8 := Lib.hid hC8
      clear hC hC3 hC5 hC8
      refine wpOp_shut rfl (fun K hS => ?_)
      go_simp
      have hka : Kept (· = g) W ((((W.setCell ⟨g, 0, none⟩ (.bool true)).setCell ⟨g, 1, none⟩ (.slice (some ⟨g3, 0, none⟩) m m)).setCell ⟨g, 2, none⟩ (.slice (some ⟨g5, 0, none⟩) c c)).setCell ⟨g, 3, none⟩ (.slice (some ⟨g8, 0, none⟩) N N)) :=
        ((((Kept.refl (· = g) W).setCell (p := ⟨g, 0, none⟩) (fun _ => rfl) _).setCell (p := ⟨g, 1, none⟩) (fun _ => rfl) _).setCell (p := ⟨g, 2, none⟩) (fun _ => rfl) _).setCell (p := ⟨g, 3, none⟩) (fun _ => rfl) _
      refine hS.out _ _ ⟨b1, b3, b5, b8, b9, b10, true, _, u11, _, _, _, _, rfl, rfl, HK.out.own hka hg, ?_, fun _ => ⟨_, rfl, hg3, HC3.out.kept hka (cells_ne HC3.out HC.out (by decide))⟩, fun _ => ⟨_, rfl, hg5, HC5.out.kept hka (cells_ne HC5.out HC.out (by decide))⟩, fun _ => ⟨_, rfl, hg8, HC8.out.kept hka (cells_ne HC8.out HC.out (by decide))⟩, fun _ => ⟨hb3, hb5, hb8, rfl⟩, fun _ => ⟨g, rfl, hg, _, (((HC.out.put 0 _).put 1 _).put 2 _).put 3 _, rfl, fun _ => rfl⟩, fun _ => ⟨hd3.2, hd3.1⟩⟩
      intro hb
      obtain ⟨g1, h1, h2⟩ := H1.out hb
      exact ⟨g1, h1, h2.kept hka (cells_ne h2 HC.out (by decide))⟩
  case h0 =>
    refine ⟨false, false, false, false, false, false, false, undef, undef, undef, undef, undef, undef, rfl, rfl, Kept.refl _ _, ?_, ?_, ?_, ?_, ?_, ?_, ?_⟩
    all_goals (intro h; cases h)
  case hend =>
    rintro l a W ⟨b1, b3, b5, b8, b9, b10, b11, u7, u11, u13, u15, u18, u19, rfl, rfl, hk, h1, h3, h5, h8, h9, h10, h11⟩ hr0
    have hb1 : b1 = true := by
      cases b1 with
      | true => rfl
      | false => exact absurd (hr0 ▸ ready_iff.2 ⟨by decide, rfl, by simp [Region.binds]⟩ : 1 ∈ ([] : List Nat)) (by simp)
    subst hb1
    have hb3 : b3 = true := by
      cases b3 with
      | true => rfl
      | false => exact absurd (hr0 ▸ ready_iff.2 ⟨by decide, rfl, by simp [Region.binds]⟩ : 3 ∈ ([] : List Nat)) (by simp)
    subst hb3
    have hb5 : b5 = true := by
      cases b5 with
      | true => rfl
      | false => exact absurd (hr0 ▸ ready_iff.2 ⟨by decide, rfl, by simp [Region.binds]⟩ : 5 ∈ ([] : List Nat)) (by simp)
    subst hb5
    have hb8 : b8 = true := by
      cases b8 with
      | true => rfl
      | false => exact absurd (hr0 ▸ ready_iff.2 ⟨by decide, rfl, by simp [Region.binds]⟩ : 8 ∈ ([] : List Nat)) (by simp)
    subst hb8
    have hb9 : b9 = true := by
      cases b9 with
      | true => rfl
      | false => exact absurd (hr0 ▸ ready_iff.2 ⟨by decide, rfl, by simp [Region.binds]⟩ : 9 ∈ ([] : List Nat)) (by simp)
    subst hb9
    have hb10 : b10 = true := by
      cases b10 with
      | true => rfl
      | false => exact absurd (hr0 ▸ ready_iff.2 ⟨by decide, rfl, by simp [Region.binds]⟩ : 10 ∈ ([] : List Nat)) (by simp)
    subst hb10
    have hb11 : b11 = true := by
      cases b11 with
      | true => rfl
      | false => exact absurd (hr0 ▸ ready_iff.2 ⟨by decide, rfl, by simp [Region.binds]⟩ : 11 ∈ ([] : List Nat)) (by simp)
    subst hb11
    obtain ⟨_, _, _, rfl⟩ := h9 rfl
    obtain ⟨g3, rfl, hg3, hC3⟩ := h3 rfl
    obtain ⟨g5, rfl, hg5, hC5⟩ := h5 rfl
    obtain ⟨g8, rfl, hg8, hC8⟩ := h8 rfl
    obtain ⟨g, rfl, hg, cs, hC, hcl, hcs⟩ := h10 rfl
    obtain rfl := hcs rfl
    clear h1 h3 h5 h8 h9 h10 h11 hr0 hcl hcs
    have hw1k : Kept noX w w1 := by rw [← hw1]; exact ((Kept.refl _ _).alloc _).drew
    have hB6 : Cells w1 w.heap.size 76 [.bool false, .slice none 0 0, .slice none 0 0, .slice none 0 0] := by rw [← hw1]; exact (Cells.fresh w 76 _).drew
    have hs1 : w1.heap.size = w.heap.size + 1 := by rw [← hw1]; simp [World.drew]
    have hB6W := hB6.keep hk
    have HC := Lib.hid hC
    have HC3 := Lib.hid hC3
    have HC5 := Lib.hid hC5
    have HC8 := Lib.hid hC8
    have HB6 := Lib.hid hB6W
    have HK := Lib.hid (hw1k.trans hk)
    have hgn : ¬ g = g8 := cells_ne hC hC8 (by decide)
    have h0 : ChI W g8 N rooms 0 := ⟨_, hC8, by simp [zerosQ, size_madeCells], fun j hj => by
      have a0 := zerosQ_at N hj (j := 0) (by omega)
      have a1 := zerosQ_at N hj (j := 1) (by omega)
      have a2 := zerosQ_at N hj (j := 2) (by omega)
      refine ⟨by simpa using a0, by simpa using a1, by simpa using a2⟩⟩
    clear hC hC3 hC5 hC8 hB6 hB6W hk hw1 hw1k hHeld
    go_wp2_with fail
    go_loopw [22] (fun i wr => ∃ k : Nat, k ≤ N ∧ i = .int .i64 k ∧ ChI wr g8 N rooms k ∧ Kept (· = g8) W wr) (fun i _ => N - (intOf i).toNat)
    case atStart => exact ⟨0, Nat.zero_le _, rfl, h0, Kept.refl _ _⟩
    case round =>
      obtain ⟨k, hk, rfl, ⟨cur, hCr, hcl, hcur⟩, hkr⟩ := hrel
      by_cases hlt : k < N
      · have hdl : decide ((k : Int) < (N : Int)) = true := by simpa using hlt
        have hltr : k < rooms.length := by rw [← HN.out]; exact hlt
        obtain ⟨b, o, c2, hveq, hcell, _⟩ := rowN_at (K := .i64) (xs := rooms) HV.out hltr
        injection hveq with hA hl2 hc2
        subst hA hc2
        have hbw := block_lt_of hcell
        have hcr : wr.cell? ⟨b, o + k, none⟩ = some (.int .i64 rooms[k]) :=
          (World.cell?_of_block (hkr.block b (Nat.lt_of_lt_of_le hbw HK.out.size) (fun h => by have h : b = g8 := h; omega))).trans (HK.out.cell hcell)
        have hp3 := (HC.out.kept hkr hgn).cell 3
        simp only [List.getElem?_cons_zero, List.getElem?_cons_succ] at hp3
        have hq1 := hCr.cell (k * 3 + 1)
        rw [(hcur k hlt).2.1] at hq1
        have hf1 := hCr.free (k * 3 + 1)
        have HCr := Lib.hid hCr
        have HCU := Lib.hid hcur
        have HKR := Lib.hid hkr
        clear hCr hcur hkr hcell hl2
        go_wp2
        go_roundw
        case rel =>
          refine ⟨k + 1, hlt, by go_num, ⟨_, HCr.out.put (k * 3 + 1) _, by rw [List.length_set]; exact hcl, fun j hj => ?_⟩, HKR.out.setCell (p := ⟨g8, k * 3 + 1, none⟩) (fun _ => rfl) _⟩
          obtain ⟨q0, q1, q2⟩ := HCU.out j hj
          refine ⟨by rw [List.getElem?_set_ne (by omega)]; exact q0, ?_, by rw [List.getElem?_set_ne (by omega)]; exact q2⟩
          by_cases hjk : j = k
          · subst hjk
            rw [List.getElem?_set_self (by omega), if_pos (by omega), List.getD_eq_getElem?_getD, List.getElem?_eq_getElem hltr]
            rfl
          · rw [List.getElem?_set_ne (by omega), q1]
            by_cases hjk2 : j < k
            · rw [if_pos hjk2, if_pos (by omega)]
            · rw [if_neg hjk2, if_neg (by omega)]
        case measure => simp [intOf]; omega
      · have hdl : decide ((k : Int) < (N : Int)) = false := by simpa using hlt
        obtain rfl : k = N := by omega
        have hCg := HC.out.kept hkr hgn
        have p0 := hCg.cell 0
        have p1 := hCg.cell 1
        have p2 := hCg.cell 2
        have p3 := hCg.cell 3
        have hB6 := HB6.out.kept hkr (fun h => by have h : w.heap.size = g8 := h; omega)
        have r0 := hB6.cell 0
        have r1 := hB6.cell 1
        have r2 := hB6.cell 2
        have r3 := hB6.cell 3
        have s0 := hB6.free 0
        have s1 := hB6.free 1
        have s2 := hB6.free 2
        have s3 := hB6.free 3
        simp only [List.getElem?_cons_zero, List.getElem?_cons_succ] at p0 p1 p2 p3 r0 r1 r2 r3
        have HB6' := Lib.hid hB6
        have HCH : Hid (ChI wr g8 k rooms k) := Lib.hid ⟨cur, hCr, hcl, hcur⟩
        have HKR := Lib.hid hkr
        clear hCg hB6 hCr hcl hcur hkr
        go_wp2
        refine ret_box Try.results35 rfl ((((HB6'.out.put 0 _).put 1 _).put 2 _).put 3 _) Try.underlying76 rfl (by kernel_rfl) rfl ?_
        have hk6 := ((((Kept.refl (· = w.heap.size) wr).setCell (p := ⟨w.heap.size, 0, none⟩) (fun _ => rfl) (.bool true)).setCell (p := ⟨w.heap.size, 1, none⟩) (fun _ => rfl) (.slice (some ⟨g3, 0, none⟩) m m)).setCell (p := ⟨w.heap.size, 2, none⟩) (fun _ => rfl) (.slice (some ⟨g5, 0, none⟩) c c)).setCell (p := ⟨w.heap.size, 3, none⟩) (fun _ => rfl) (.slice (some ⟨g8, 0, none⟩) k k)
        obtain ⟨cur, hCr, hcl, hcur⟩ := HCH.out
        refine ⟨g3, g5, g8, rfl, ((HK.out.own HKR.out (by omega)).own hk6 (Nat.le_refl _)), ⟨by omega, by omega, by omega⟩, ?_, ?_, ⟨cur, hCr.kept hk6 (fun h => by have h : g8 = w.heap.size := h; omega), hcl, hcur⟩⟩
        · exact (HC3.out.kept HKR.out (cells_ne HC3.out HC8.out (by decide))).kept hk6 (fun h => by have h : g3 = w.heap.size := h; omega)
        · exact (HC5.out.kept HKR.out (cells_ne HC5.out HC8.out (by decide))).kept hk6 (fun h => by have h : g5 = w.heap.size := h; omega)
end Go.Proofs.Ytehcfahfbdphpaa
