/- The law SyncMakes: which states there are at first, by both, and what is told of none (conditions: none). -/
import Derived.Test.YtehcfahfbdphpaaSy60
import Derived.Test.YtehcfahfbdphpaaSy67
import Derived.Test.YtehcfahfbdphpaaSy35
import Derived.Test.YtehcfahfbdphpaaSy28
namespace Go.Proofs.Ytehcfahfbdphpaa
open Go.RowKit Go.Shelf

/-- What the appended list of rooms leaves: a row of the same rooms. -/
def MkF (w : World) (cs : List Value) (rooms : List Int) (A : Option Addr) (c : Nat) (W : World) : Prop := RowV W noX (.slice A rooms.length c) (dI rooms) ∧ Cells W w.heap.size 24 cs ∧ Kept noX w W
theorem bridgeM {F : Option Addr → Nat → World → Prop} {P : Value → Value → Value → Option Addr → Nat → World → Prop} {G : Prop} (h1 : (∀ x y z A c W, F A c W → P x y z A c W) → G) (h2 : ∀ x y z A c W, F A c W → P x y z A c W) : G := h1 h2
def OwnM (W0 W : World) (A : Option Addr) (c : Nat) (rooms : List Int) : Prop := W.ownsRow 0 3 1 (.slice A rooms.length c) rooms.length (rooms.map (.int .i64)) ∧ (∀ b, (Value.slice A rooms.length c).ownBlock = some b → W0.heap.size ≤ b) ∧ Kept noX W0 W
theorem OwnM.alloc {W0 W : World} {A : Option Addr} {c : Nat} {rooms : List Int} (h : OwnM W0 W A c rooms) (o : Obj) : OwnM W0 (W.alloc o) A c rooms := ⟨h.1.alloc o, h.2.1, h.2.2.alloc o⟩
theorem OwnM.drew {W0 W : World} {A : Option Addr} {c : Nat} {rooms : List Int} (h : OwnM W0 W A c rooms) : OwnM W0 W.drew A c rooms := ⟨h.1.drew, h.2.1, h.2.2.drew⟩
theorem apM3 {W0 W : World} {g c : Nat} {A : Option Addr} {rooms : List Int} (hk : Kept noX W0 W) (hg : Cells W g 3 []) (hgl : W0.heap.size ≤ g) (hv : RowV W0 noX (.slice A rooms.length c) (dI rooms)) (hl : rooms.length ≤ 1000000000) (ty : TypeId) :
    ∃ A' c' W', (Builtin.append_ #[22, 22] ty #[.slice (some ⟨g, 0, none⟩) 0 0, .slice A rooms.length c]).run Try.prog W = .ok (.slice A' rooms.length c') W' ∧ OwnM W0 W' A' c' rooms ∧ Kept (· = g) W W' := by
  obtain ⟨v', W', hr, ho, hk', hb⟩ := append_row (W := W) Try.underlying22 infoI hg (Rep.keep hv hk) hl ty
  obtain ⟨A', c', rfl, -, -⟩ := own_formN ho
  refine ⟨A', c', W', hr, ⟨ho, fun b h => ?_, hk.own hk' hgl⟩, hk'⟩
  have := hk.size
  rcases hb b h with h | h <;> omega
theorem apM5 {W0 W : World} {g c : Nat} {A : Option Addr} {rooms : List Int} (h : OwnM W0 W A c rooms) (h77 : W.cell? ⟨g, 0, none⟩ = some (.int .i64 77)) (hl : rooms.length ≤ 1000000000) (ty : TypeId) :
    ∃ A' c' W', (Builtin.append_ #[22, 22] ty #[.slice A rooms.length c, .slice (some ⟨g, 0, none⟩) 1 1]).run Try.prog W = .ok (.slice A' (rooms.length + 1) c') W' ∧ RowV W' noX (.slice A' rooms.length c') (dI rooms) ∧ rooms.length + 1 ≤ c' ∧ Kept noX W0 W' := by
  obtain ⟨i0, hi0, hz0, hz1, hz2⟩ := info_parts infoI
  obtain ⟨v', W', hr, ho, hk, -⟩ := run_append_own_at (P := Try.prog) W 0 22 ty 3 i0 (.int .i64 0) 1 8 Try.underlying22 hi0 hz0 hz1 hz2 rfl (by decide) (.slice A rooms.length c) rooms.length _ h.1 ⟨g, 0, none⟩ 1 1 [.int .i64 77] rfl (fun j u hj => by
    obtain ⟨hj0, rfl⟩ := List.getElem?_eq_some_iff.1 hj
    obtain rfl : j = 0 := by simpa using hj0
    rw [Addr.add_lit]
    exact h77) (fun u hu => by obtain rfl := List.mem_singleton.1 hu; rfl) (by unfold maxLen; omega) (by omega) (Nat.zero_le _)
  obtain ⟨A', c', rfl, hc, hcm⟩ := own_formN ho
  refine ⟨A', c', W', hr, ?_, hc, h.2.2.join (((Kept.refl _ _).grown hk (fun k hk' _ => hk') : Kept (fun k => (Value.slice A rooms.length c).ownBlock = some k) W W')) (fun k hk' hlt => by have := h.2.1 k hk'; omega)⟩
  rcases ho.2 with ⟨h0, h1⟩ | ⟨b, cap, cur, hveq, -⟩
  · omega
  · injection hveq with hA _ hc'
    subst hA hc'
    obtain ⟨cur, rest, hC, rfl, hl', hn⟩ := own_cells ho
    refine Rep.row ⟨b, 0, none⟩ rooms.length c' 1 _ (fun i => [.int .i64 (rooms.getD i 0)]) (by simp) (fun _ => rfl) (by omega) (by unfold maxLen; omega) (fun _ h => h) (by omega) (fun _ _ => rfl) (fun i hi j hj => ?_) (fun i hi => ?_)
    · obtain rfl : j = 0 := by omega
      show W'.cell? ⟨b, 0 + (i * 1 + 0), none⟩ = _
      rw [Nat.zero_add, Nat.mul_one, Nat.add_zero, hC.cell]
      have hi' : i < rooms.length := hi
      rw [List.getElem?_append_left (by simp; omega), List.getElem?_append_left (by simpa using hi')]
      simp [hi']
    · have hi' : i < rooms.length := by simpa using hi
      rw [List.getElem_map]
      simp only [List.getD_eq_getElem?_getD, List.getElem?_eq_getElem hi', Option.getD_some]
      exact .int _ _
theorem like_initI {m c : Int} {rooms : List Int} (h : okN m c rooms = true) : Like (initS m c rooms) (initR m.toNat c.toNat rooms) := by
  have hin := okN_iff.1 h
  obtain ⟨mn, rfl⟩ : ∃ mn : Nat, m = mn := ⟨m.toNat, by omega⟩
  obtain ⟨cn, rfl⟩ : ∃ cn : Nat, c = cn := ⟨c.toNat, by omega⟩
  exact ⟨by simp [initS, initR], by simp [initS, initR], by simp [initS, initR], by simp [initR], by simp [initR], fun i h => by simp [initS, initR]⟩
set_option maxRecDepth 100000 in
set_option maxHeartbeats 8000000 in
theorem makes_any (m c : Int) (A : Option Addr) (rc : Nat) (rooms : List Int) (w : World) (hv : RowV w noX (.slice A rooms.length rc) (dI rooms)) :
    Calls Try.prog 3 #[.agg #[.int .i64 m, .int .i64 c, .slice A rooms.length rc]] w fun e W' => e = .returned (.bool true) ∧ Kept noX w W' := by
  have HV := Lib.hid hv
  have HW := Lib.hid works_any
  clear hv
  by_cases hn : 200 < rooms.length
  · have d0 : decide ((200 : Int) < (rooms.length : Int)) = true := by simp; omega
    go_enter Try.func3, Try.ntmps3
    go_wp2_with (go_at_call 11; refine (HW.out _).mono ?_; rintro e W2 ⟨rfl, hk2⟩)
    go_ret
    exact ⟨rfl, ((Kept.refl _ _).alloc _).trans hk2⟩
  · have d0 : decide ((200 : Int) < (rooms.length : Int)) = false := by simp; omega
    obtain ⟨W0, hW0⟩ : ∃ W0, W0 = w.alloc (.cells #[.int .i64 m, .int .i64 c, .slice A rooms.length rc] 24) := ⟨_, rfl⟩
    have hC0 : Cells W0 w.heap.size 24 [.int .i64 m, .int .i64 c, .slice A rooms.length rc] := hW0 ▸ Cells.fresh w 24 _
    have hk0 : Kept noX w W0 := hW0 ▸ (Kept.refl _ _).alloc _
    have f2 := hC0.cell 2
    simp only [List.getElem?_cons_zero, List.getElem?_cons_succ] at f2
    have HV0 := Lib.hid (Rep.keep HV.out hk0)
    have HC0 := Lib.hid hC0
    have HK0 := Lib.hid hk0
    clear hC0 hk0
    go_enter Try.func3, Try.ntmps3
    go_wp2_with fail
    rw [← hW0]
    clear hW0
    apply bridgeM (F := MkF w [.int .i64 m, .int .i64 c, .slice A rooms.length rc] rooms)
    · intro HP
      refine wp_region_held_drew (S := (fun w' => w'.cell? ⟨w.heap.size, 2, none⟩ = some (.slice A rooms.length rc))) (by kernel_rfl) f2 (fun hHeld => ?_)
      refine wpAnyH_take (i := 1) (v := ?_) rfl (by kernel_rfl) (by kernel_rfl) (by kernel_rfl) (fun _ _ _ h => h) (Or.inl ⟨by rfl, ?_⟩) (by assumption) ?_
      rotate_left
      · intro wS hSw
        (try dsimp only at hSw)
        go_simp
        (try with_reducible rfl)
      refine wpAnyH_take (i := 2) (v := ?_) rfl (by kernel_rfl) (by kernel_rfl) (by kernel_rfl) (fun _ _ _ h => h) (Or.inl ⟨by rfl, ?_⟩) (by assumption) ?_
      rotate_left
      · intro wS hSw
        (try dsimp only at hSw)
        go_simp
        (try with_reducible rfl)
      refine wpAnyH_take (i := 6) (v := ?_) rfl (by kernel_rfl) (by kernel_rfl) (by kernel_rfl) (fun _ _ _ h => h) (Or.inl ⟨by rfl, ?_⟩) (by assumption) ?_
      rotate_left
      · intro wS hSw
        (try dsimp only at hSw)
        go_simp
        (try with_reducible rfl)
      refine wpAnyH_take (i := 7) (v := ?_) rfl (by kernel_rfl) (by kernel_rfl) (by kernel_rfl) (fun _ _ _ h => h) (Or.inl ⟨by rfl, ?_⟩) (by assumption) ?_
      rotate_left
      · intro wS hSw
        (try dsimp only at hSw)
        go_simp
        (try with_reducible rfl)
      refine wpAnyH_take (i := 8) (v := ?_) rfl (by kernel_rfl) (by kernel_rfl) (by kernel_rfl) (fun _ _ _ h => h) (Or.inl ⟨by rfl, ?_⟩) (by assumption) ?_
      rotate_left
      · intro wS hSw
        (try dsimp only at hSw)
        go_simp
        (try with_reducible rfl)
      (try simp only [Act.put, List.getElem_toArray, List.getElem_cons_succ, List.getElem_cons_zero, List.setIfInBounds_toArray, List.set_cons_zero, List.set_cons_succ])
      refine wpAnyH_ready (rs := [0, 4]) (by kernel_rfl) (by simp) ?_
      refine (AllReadyH.cons rfl (fun K hK => ?_) (AllReadyH.cons rfl (fun K hK => ?_) AllReadyH.nil))
      · go_simp
        have hk1 : Kept noX W0 (W0.alloc (.cells #[] 3)).drew := ((Kept.refl _ _).alloc _).drew
        have hE1 : Cells (W0.alloc (.cells #[] 3)).drew W0.heap.size 3 [] := (Cells.fresh W0 3 []).drew
        have g1 := hk1.cell f2
        refine hK.out _ _ g1 (fun hHeld => ?_)
        clear hK K
        (try simp only [Act.put, List.getElem_toArray, List.getElem_cons_succ, List.getElem_cons_zero, List.setIfInBounds_toArray, List.set_cons_zero, List.set_cons_succ])
        refine wpAnyH_ready (rs := [3, 4]) (by kernel_rfl) (by simp) ?_
        refine (AllReadyH.cons rfl (fun K hK => ?_) (AllReadyH.cons rfl (fun K hK => ?_) AllReadyH.nil))
        ·
          obtain ⟨A3, c3, W3, hrun3, hO3, hq3⟩ := apM3 (W0 := W0) hk1 hE1 (by omega) HV0.out (by omega) 22
          refine step_append_row rfl (.tmp 36) (.tmp 38) 22 rfl _ _ rfl rfl _ W3 hrun3 ?_
          have g2 := hO3.2.2.cell f2
          refine hK.out _ _ g2 (fun hHeld => ?_)
          clear hK K
          (try simp only [Act.put, List.getElem_toArray, List.getElem_cons_succ, List.getElem_cons_zero, List.setIfInBounds_toArray, List.set_cons_zero, List.set_cons_succ])
          refine wpAnyH_ready (rs := [4]) (by kernel_rfl) (by simp) ?_
          refine (AllReadyH.cons rfl (fun K hK => ?_) AllReadyH.nil)
          go_simp
          have hO4 := hO3.alloc (.cells #[.int .i64 77] 3)
          have hE4 := Cells.fresh W3 3 [.int .i64 77]
          have g3 := hO4.2.2.cell f2
          refine hK.out _ _ g3 (fun hHeld => ?_)
          clear hK K
          (try simp only [Act.put, List.getElem_toArray, List.getElem_cons_succ, List.getElem_cons_zero, List.setIfInBounds_toArray, List.set_cons_zero, List.set_cons_succ])
          refine wpAnyH_ready (rs := [5]) (by kernel_rfl) (by simp) ?_
          refine (AllReadyH.cons rfl (fun K hK => ?_) AllReadyH.nil)
          obtain ⟨A5, c5, W5, hrun5, hR5, hc5, hk5⟩ := apM5 hO4 (hE4.cell 0) (by omega) 22
          have hc5' : rooms.length ≤ c5 := by omega
          refine step_append_row rfl (.tmp 39) (.tmp 40) 22 rfl _ _ rfl rfl _ W5 hrun5 ?_
          (try simp only [Act.put, List.getElem_toArray, List.getElem_cons_succ, List.getElem_cons_zero, List.setIfInBounds_toArray, List.set_cons_zero, List.set_cons_succ])
          have g4 := hk5.cell f2
          refine hK.out _ _ g4 (fun hHeld => ?_)
          clear hK K
          (try simp only [Act.put, List.getElem_toArray, List.getElem_cons_succ, List.getElem_cons_zero, List.setIfInBounds_toArray, List.set_cons_zero, List.set_cons_succ])
          refine wpAnyH_take (i := 9) (v := ?_) rfl (by kernel_rfl) (by kernel_rfl) (by kernel_rfl) (fun _ _ _ h => h) (Or.inl ⟨by rfl, ?_⟩) (by assumption) ?_
          rotate_left
          · intro wS hSw
            (try dsimp only at hSw)
            go_simp
            (try with_reducible rfl)
          (try simp only [Act.put, List.getElem_toArray, List.getElem_cons_succ, List.getElem_cons_zero, List.setIfInBounds_toArray, List.set_cons_zero, List.set_cons_succ])
          refine wpAnyH_take (i := 10) (v := ?_) rfl (by kernel_rfl) (by kernel_rfl) (by kernel_rfl) (fun _ _ _ h => h) (Or.inl ⟨by rfl, ?_⟩) (by assumption) ?_
          rotate_left
          · intro wS hSw
            (try dsimp only at hSw)
            go_simp
            (try with_reducible rfl)
          (try simp only [Act.put, List.getElem_toArray, List.getElem_cons_succ, List.getElem_cons_zero, List.setIfInBounds_toArray, List.set_cons_zero, List.set_cons_succ])
          refine wpAnyH_done (by kernel_rfl) ?_ _
          (try simp only [Act.put, List.getElem_toArray, List.getElem_cons_succ, List.getElem_cons_zero, List.setIfInBounds_toArray, List.set_cons_zero, List.set_cons_succ])
          have HF := Lib.hid (show MkF w [.int .i64 m, .int .i64 c, .slice A rooms.length rc] rooms A5 c5 W5 from ⟨hR5, HC0.out.keep hk5, HK0.out.trans hk5⟩)
          clear hR5 hk5 hrun5 g4 hc5' hc5
          generalize (Value.slice (some ⟨W0.heap.size, 0, none⟩) 0 0) = x36
          generalize (Value.slice A3 rooms.length c3) = x39
          generalize (Value.slice (some ⟨W3.heap.size, 0, none⟩) 1 1) = x40
          exact HP x36 x39 x40 A5 c5 W5 HF.out
        · go_simp
          have hk2 : Kept noX W0 ((W0.alloc (.cells #[] 3)).alloc (.cells #[.int .i64 77] 3)).drew := (((Kept.refl _ _).alloc _).alloc _).drew
          have hE2 : Cells ((W0.alloc (.cells #[] 3)).alloc (.cells #[.int .i64 77] 3)).drew W0.heap.size 3 [] := ((Cells.fresh W0 3 []).alloc _).drew
          have hE3 : Cells ((W0.alloc (.cells #[] 3)).alloc (.cells #[.int .i64 77] 3)).drew (W0.heap.size + 1) 3 [.int .i64 77] := (cells_second W0 3 (.cells #[] 3) [.int .i64 77]).drew
          have g3 := hk2.cell f2
          refine hK.out _ _ g3 (fun hHeld => ?_)
          clear hK K
          (try simp only [Act.put, List.getElem_toArray, List.getElem_cons_succ, List.getElem_cons_zero, List.setIfInBounds_toArray, List.set_cons_zero, List.set_cons_succ])
          refine wpAnyH_ready (rs := [3]) (by kernel_rfl) (by simp) ?_
          refine (AllReadyH.cons rfl (fun K hK => ?_) AllReadyH.nil)
          obtain ⟨A3, c3, W3, hrun3, hO3, hq3⟩ := apM3 (W0 := W0) hk2 hE2 (by omega) HV0.out (by omega) 22
          refine step_append_row rfl (.tmp 36) (.tmp 38) 22 rfl _ _ rfl rfl _ W3 hrun3 ?_
          have g2 := hO3.2.2.cell f2
          refine hK.out _ _ g2 (fun hHeld => ?_)
          clear hK K
          (try simp only [Act.put, List.getElem_toArray, List.getElem_cons_succ, List.getElem_cons_zero, List.setIfInBounds_toArray, List.set_cons_zero, List.set_cons_succ])
          have hE4 := hE3.kept hq3 (by omega)
          refine wpAnyH_ready (rs := [5]) (by kernel_rfl) (by simp) ?_
          refine (AllReadyH.cons rfl (fun K hK => ?_) AllReadyH.nil)
          obtain ⟨A5, c5, W5, hrun5, hR5, hc5, hk5⟩ := apM5 hO3 (hE4.cell 0) (by omega) 22
          have hc5' : rooms.length ≤ c5 := by omega
          refine step_append_row rfl (.tmp 39) (.tmp 40) 22 rfl _ _ rfl rfl _ W5 hrun5 ?_
          (try simp only [Act.put, List.getElem_toArray, List.getElem_cons_succ, List.getElem_cons_zero, List.setIfInBounds_toArray, List.set_cons_zero, List.set_cons_succ])
          have g4 := hk5.cell f2
          refine hK.out _ _ g4 (fun hHeld => ?_)
          clear hK K
          (try simp only [Act.put, List.getElem_toArray, List.getElem_cons_succ, List.getElem_cons_zero, List.setIfInBounds_toArray, List.set_cons_zero, List.set_cons_succ])
          refine wpAnyH_take (i := 9) (v := ?_) rfl (by kernel_rfl) (by kernel_rfl) (by kernel_rfl) (fun _ _ _ h => h) (Or.inl ⟨by rfl, ?_⟩) (by assumption) ?_
          rotate_left
          · intro wS hSw
            (try dsimp only at hSw)
            go_simp
            (try with_reducible rfl)
          (try simp only [Act.put, List.getElem_toArray, List.getElem_cons_succ, List.getElem_cons_zero, List.setIfInBounds_toArray, List.set_cons_zero, List.set_cons_succ])
          refine wpAnyH_take (i := 10) (v := ?_) rfl (by kernel_rfl) (by kernel_rfl) (by kernel_rfl) (fun _ _ _ h => h) (Or.inl ⟨by rfl, ?_⟩) (by assumption) ?_
          rotate_left
          · intro wS hSw
            (try dsimp only at hSw)
            go_simp
            (try with_reducible rfl)
          (try simp only [Act.put, List.getElem_toArray, List.getElem_cons_succ, List.getElem_cons_zero, List.setIfInBounds_toArray, List.set_cons_zero, List.set_cons_succ])
          refine wpAnyH_done (by kernel_rfl) ?_ _
          (try simp only [Act.put, List.getElem_toArray, List.getElem_cons_succ, List.getElem_cons_zero, List.setIfInBounds_toArray, List.set_cons_zero, List.set_cons_succ])
          have HF := Lib.hid (show MkF w [.int .i64 m, .int .i64 c, .slice A rooms.length rc] rooms A5 c5 W5 from ⟨hR5, HC0.out.keep hk5, HK0.out.trans hk5⟩)
          clear hR5 hk5 hrun5 g4 hc5' hc5
          exact HP _ _ _ A5 c5 W5 HF.out
      · go_simp
        have g1 := (((Kept.refl noX W0).alloc (.cells #[.int .i64 77] 3)).drew).cell f2
        refine hK.out _ _ g1 (fun hHeld => ?_)
        clear hK K
        (try simp only [Act.put, List.getElem_toArray, List.getElem_cons_succ, List.getElem_cons_zero, List.setIfInBounds_toArray, List.set_cons_zero, List.set_cons_succ])
        refine wpAnyH_ready (rs := [0]) (by kernel_rfl) (by simp) ?_
        refine (AllReadyH.cons rfl (fun K hK => ?_) AllReadyH.nil)
        go_simp
        have hk2 : Kept noX W0 ((W0.alloc (.cells #[.int .i64 77] 3)).alloc (.cells #[] 3)).drew := (((Kept.refl _ _).alloc _).alloc _).drew
        have hE2 : Cells ((W0.alloc (.cells #[.int .i64 77] 3)).alloc (.cells #[] 3)).drew (W0.heap.size + 1) 3 [] := (cells_second W0 3 (.cells #[.int .i64 77] 3) []).drew
        have hE3 : Cells ((W0.alloc (.cells #[.int .i64 77] 3)).alloc (.cells #[] 3)).drew W0.heap.size 3 [.int .i64 77] := ((Cells.fresh W0 3 [.int .i64 77]).alloc _).drew
        have g3 := hk2.cell f2
        refine hK.out _ _ g3 (fun hHeld => ?_)
        clear hK K
        (try simp only [Act.put, List.getElem_toArray, List.getElem_cons_succ, List.getElem_cons_zero, List.setIfInBounds_toArray, List.set_cons_zero, List.set_cons_succ])
        refine wpAnyH_ready (rs := [3]) (by kernel_rfl) (by simp) ?_
        refine (AllReadyH.cons rfl (fun K hK => ?_) AllReadyH.nil)
        obtain ⟨A3, c3, W3, hrun3, hO3, hq3⟩ := apM3 (W0 := W0) hk2 hE2 (by omega) HV0.out (by omega) 22
        refine step_append_row rfl (.tmp 36) (.tmp 38) 22 rfl _ _ rfl rfl _ W3 hrun3 ?_
        have g2 := hO3.2.2.cell f2
        refine hK.out _ _ g2 (fun hHeld => ?_)
        clear hK K
        (try simp only [Act.put, List.getElem_toArray, List.getElem_cons_succ, List.getElem_cons_zero, List.setIfInBounds_toArray, List.set_cons_zero, List.set_cons_succ])
        have hE4 := hE3.kept hq3 (by omega)
        refine wpAnyH_ready (rs := [5]) (by kernel_rfl) (by simp) ?_
        refine (AllReadyH.cons rfl (fun K hK => ?_) AllReadyH.nil)
        obtain ⟨A5, c5, W5, hrun5, hR5, hc5, hk5⟩ := apM5 hO3 (hE4.cell 0) (by omega) 22
        have hc5' : rooms.length ≤ c5 := by omega
        refine step_append_row rfl (.tmp 39) (.tmp 40) 22 rfl _ _ rfl rfl _ W5 hrun5 ?_
        (try simp only [Act.put, List.getElem_toArray, List.getElem_cons_succ, List.getElem_cons_zero, List.setIfInBounds_toArray, List.set_cons_zero, List.set_cons_succ])
        have g4 := hk5.cell f2
        refine hK.out _ _ g4 (fun hHeld => ?_)
        clear hK K
        (try simp only [Act.put, List.getElem_toArray, List.getElem_cons_succ, List.getElem_cons_zero, List.setIfInBounds_toArray, List.set_cons_zero, List.set_cons_succ])
        refine wpAnyH_take (i := 9) (v := ?_) rfl (by kernel_rfl) (by kernel_rfl) (by kernel_rfl) (fun _ _ _ h => h) (Or.inl ⟨by rfl, ?_⟩) (by assumption) ?_
        rotate_left
        · intro wS hSw
          (try dsimp only at hSw)
          go_simp
          (try with_reducible rfl)
        (try simp only [Act.put, List.getElem_toArray, List.getElem_cons_succ, List.getElem_cons_zero, List.setIfInBounds_toArray, List.set_cons_zero, List.set_cons_succ])
        refine wpAnyH_take (i := 10) (v := ?_) rfl (by kernel_rfl) (by kernel_rfl) (by kernel_rfl) (fun _ _ _ h => h) (Or.inl ⟨by rfl, ?_⟩) (by assumption) ?_
        rotate_left
        · intro wS hSw
          (try dsimp only at hSw)
          go_simp
          (try with_reducible rfl)
        (try simp only [Act.put, List.getElem_toArray, List.getElem_cons_succ, List.getElem_cons_zero, List.setIfInBounds_toArray, List.set_cons_zero, List.set_cons_succ])
        refine wpAnyH_done (by kernel_rfl) ?_ _
        (try simp only [Act.put, List.getElem_toArray, List.getElem_cons_succ, List.getElem_cons_zero, List.setIfInBounds_toArray, List.set_cons_zero, List.set_cons_succ])
        have HF := Lib.hid (show MkF w [.int .i64 m, .int .i64 c, .slice A rooms.length rc] rooms A5 c5 W5 from ⟨hR5, HC0.out.keep hk5, HK0.out.trans hk5⟩)
        clear hR5 hk5 hrun5 g4 hc5' hc5
        exact HP _ _ _ A5 c5 W5 HF.out
    · clear f2
      intro x36 x39 x40 A5 c5 W1 HF
      obtain ⟨hR5, hC1, hk1⟩ := HF
      have f0 := hC1.cell 0
      have f1 := hC1.cell 1
      have f2 := hC1.cell 2
      simp only [List.getElem?_cons_zero, List.getElem?_cons_succ] at f0 f1 f2
      have HN := Lib.hid (new_any m c A5 c5 rooms (by omega) W1 hR5)
      have HZ := Lib.hid (fun W' (hk : Kept noX W1 W') => znew_any m c A rc rooms W' (Rep.keep HV.out (hk1.trans hk)))
      have HI := Lib.hid (fun W' (hk : Kept noX W1 W') => ints_same rooms A5 A c5 rc (by omega) W' (Rep.keep hR5 hk) (Rep.keep HV.out (hk1.trans hk)))
      have HL := Lib.hid (like_initI (m := m) (c := c) (rooms := rooms))
      have HK1 := Lib.hid hk1
      clear HV HV0 HC0 HK0 hR5 hC1 hk1
      go_wp2_with fail
      refine HN.out.mono ?_
      rintro e W2 (⟨hok, p, T, rfl, hS, hT, hk2⟩ | ⟨hok, rfl, hk2⟩)
      · have f0 := hk2.cell f0
        have f1 := hk2.cell f1
        have f2 := hk2.cell f2
        have HS := Lib.hid hS
        have HK2 := Lib.hid hk2
        clear hS hT hk2 HN
        go_wp2_with fail
        refine (HZ.out _ HK2.out).mono ?_
        rintro e W3 (⟨_, vs, rfl, hR, hk3⟩ | ⟨hf, _⟩)
        rotate_left
        · rw [hok] at hf; cases hf
        have HL := Lib.hid (HL.out hok)
        generalize initR m.toNat c.toNat rooms = R at hR HL
        have HR := Lib.hid hR.any
        have f2 := hk3.cell f2
        obtain ⟨q0', q1', q2', q3', q4', hvs, r0', r1', r2', r3', r4'⟩ := hR
        obtain ⟨V0, n0', e0, rfl, hn0', -⟩ := r0'.form
        obtain ⟨V1, n1', e1, rfl, hn1', -⟩ := r1'.form
        obtain ⟨V2, n2', e2, rfl, hn2', -⟩ := r2'.form
        obtain ⟨V3, n3', e3, rfl, hn3', -⟩ := r3'.form
        obtain ⟨V4, n4', e4, rfl, hn4', -⟩ := r4'.form
        rw [List.length_map] at hn0' hn1' hn2' hn3' hn4'
        subst hn0' hn1' hn2' hn3' hn4'
        subst hvs
        clear r0' r1' r2' r3' r4'
        have HK3 := Lib.hid (HK2.out.trans hk3)
        have HS := Lib.hid (HS.out.keep hk3)
        clear hk3 HZ HK2 f0 f1
        obtain ⟨W4, hW4⟩ : ∃ W4, W4 = W3.alloc (.cells #[.slice V0 R.ow.length e0, .slice V1 R.cs.length e1, .slice V2 R.rm.length e2, .slice V3 R.st.length e3, .slice V4 R.tk.length e4] 33) := ⟨_, rfl⟩
        have hk4 : Kept noX W3 W4 := hW4 ▸ (Kept.refl _ _).alloc _
        have HC4 : Hid (Cells W4 W3.heap.size 33 [.slice V0 R.ow.length e0, .slice V1 R.cs.length e1, .slice V2 R.rm.length e2, .slice V3 R.st.length e3, .slice V4 R.tk.length e4]) := Lib.hid (hW4 ▸ Cells.fresh W3 33 _)
        have f2 := hk4.cell f2
        have HKT := Lib.hid (Kept.refl noX W4)
        have HK4 := Lib.hid (HK3.out.trans hk4)
        have HS := Lib.hid (HS.out.keep hk4)
        have HR := Lib.hid (HR.out.keep hk4)
        clear hk4 HK3
        go_wp2_with fail
        rw [← hW4]
        clear hW4
        go_wp2_with (first | (go_at_call 14; refine (owner_nil 0 _).mono ?_; rintro e Wx ⟨rfl, hkx⟩; replace HKT := Lib.hid (HKT.out.trans hkx); clear hkx) | (go_at_call 15; refine (lock_none 0 0 _).mono ?_; rintro e Wx ⟨rfl, hkx⟩; replace HKT := Lib.hid (HKT.out.trans hkx); clear hkx) | (go_at_call 17; refine (signal_none 0 _).mono ?_; rintro e Wx ⟨rfl, hkx⟩; replace HKT := Lib.hid (HKT.out.trans hkx); clear hkx) | (go_at_call 18; refine (all_none 0 _).mono ?_; rintro e Wx ⟨rfl, hkx⟩; replace HKT := Lib.hid (HKT.out.trans hkx); clear hkx) | (go_at_call 19; refine (send_none 0 0 _).mono ?_; rintro e Wx ⟨rfl, hkx⟩; replace HKT := Lib.hid (HKT.out.trans hkx); clear hkx) | (go_at_call 20; refine (recv_none 0 _).mono ?_; rintro e Wx ⟨rfl, hkx⟩; replace HKT := Lib.hid (HKT.out.trans hkx); clear hkx) | (go_at_call 22; refine (room_nil 0 _).mono ?_; rintro e Wx ⟨rfl, hkx⟩; replace HKT := Lib.hid (HKT.out.trans hkx); clear hkx) | (go_at_call 16; refine (waits_nil 0 _).mono ?_; rintro e Wx ⟨⟨vx, rfl, -⟩, hkx⟩; replace HKT := Lib.hid (HKT.out.trans hkx); clear hkx) | (go_at_call 21; refine (values_nil 0 _).mono ?_; rintro e Wx ⟨⟨vx, rfl, -⟩, hkx⟩; replace HKT := Lib.hid (HKT.out.trans hkx); clear hkx))
        have f2 := HKT.out.cell f2
        refine (num_any _ _).mono ?_
        rintro e Wn ⟨rfl, rfl⟩
        go_wp2_with (first | (go_at_call 23; refine (num_any _ _).mono ?_; rintro e Wn ⟨rfl, rfl⟩) | (go_at_call 24; refine (unlock_none 0 0 _).mono ?_; rintro e Wx ⟨rfl, hkx⟩; have f2 := hkx.cell f2; replace HKT := Lib.hid (HKT.out.trans hkx); clear hkx) | (go_at_call 25; refine (wait_none 0 0 _).mono ?_; rintro e Wx ⟨rfl, hkx⟩; have f2 := hkx.cell f2; replace HKT := Lib.hid (HKT.out.trans hkx); clear hkx) | (go_at_call 26; refine (copy_nil _).mono ?_; rintro e Wx ⟨rfl, hkx⟩; have f2 := hkx.cell f2; replace HKT := Lib.hid (HKT.out.trans hkx); clear hkx) | (go_at_call 27; refine (same_nn _).mono ?_; rintro e Wx ⟨rfl, hkx⟩; have f2 := hkx.cell f2; replace HKT := Lib.hid (HKT.out.trans hkx); clear hkx) | (go_at_call 28; refine (HI.out _ (HK4.out.trans HKT.out)).mono ?_; rintro e Wx ⟨rfl, hkx⟩; replace HKT := Lib.hid (HKT.out.trans hkx); clear hkx HI; have z0 := (HC4.out.keep HKT.out).cell 0; have z1 := (HC4.out.keep HKT.out).cell 1; have z2 := (HC4.out.keep HKT.out).cell 2; have z3 := (HC4.out.keep HKT.out).cell 3; have z4 := (HC4.out.keep HKT.out).cell 4; simp only [List.getElem?_cons_zero, List.getElem?_cons_succ] at z0 z1 z2 z3 z4))
        have HIS := Lib.hid (is_any (HS.out.keep HKT.out) (HR.out.keep HKT.out) HL.out)
        have HSN := Lib.hid (fun W' hk => same_sn ((HS.out.keep (HKT.out.trans hk)).prv (W := W')))
        have HNS := Lib.hid (fun W' hk => same_ns ((HS.out.keep (HKT.out.trans hk)).prv (W := W')))
        have HKE := Lib.hid (HK1.out.trans (HK4.out.trans HKT.out))
        go_wp2_with (first
          | (go_at_call 23; refine (num_any _ _).mono ?_; rintro e Wn ⟨rfl, rfl⟩)
          | (go_at_call 29; refine HIS.out.mono ?_; rintro e W5 ⟨rfl, hk5⟩)
          | (go_at_call_of 27 (Value.pointer (some ⟨p, 0, none⟩)); refine (HSN.out _ hk5).mono ?_; rintro e W6 ⟨rfl, hk6⟩; replace hk6 := hk5.trans hk6)
          | (go_at_call 27; refine (HNS.out _ hk6).mono ?_; rintro e W7 ⟨rfl, hk7⟩; replace hk7 := hk6.trans hk7)
          | (go_at_call 11; refine (HW.out _).mono ?_; rintro e W8 ⟨rfl, hk8⟩))
        go_ret
        exact ⟨rfl, HKE.out.trans (hk7.trans hk8)⟩
      · have f0 := hk2.cell f0
        have f1 := hk2.cell f1
        have f2 := hk2.cell f2
        have HK2 := Lib.hid hk2
        clear hk2 HN
        go_wp2_with fail
        refine (HZ.out _ HK2.out).mono ?_
        rintro e W3 (⟨hf, _⟩ | ⟨_, rfl, hk3⟩)
        · rw [hok] at hf; cases hf
        have f2 := hk3.cell f2
        have HK3 := Lib.hid (HK2.out.trans hk3)
        clear hk3 HZ HK2 f0 f1
        obtain ⟨W4, hW4⟩ : ∃ W4, W4 = W3.alloc (.cells #[.slice none 0 0, .slice none 0 0, .slice none 0 0, .slice none 0 0, .slice none 0 0] 33) := ⟨_, rfl⟩
        have hk4 : Kept noX W3 W4 := hW4 ▸ (Kept.refl _ _).alloc _
        have f2 := hk4.cell f2
        have HKT := Lib.hid (Kept.refl noX W4)
        have HK4 := Lib.hid (HK3.out.trans hk4)
        clear hk4 HK3
        go_wp2_with fail
        rw [← hW4]
        clear hW4
        go_wp2_with (first | (go_at_call 14; refine (owner_nil 0 _).mono ?_; rintro e Wx ⟨rfl, hkx⟩; replace HKT := Lib.hid (HKT.out.trans hkx); clear hkx) | (go_at_call 15; refine (lock_none 0 0 _).mono ?_; rintro e Wx ⟨rfl, hkx⟩; replace HKT := Lib.hid (HKT.out.trans hkx); clear hkx) | (go_at_call 17; refine (signal_none 0 _).mono ?_; rintro e Wx ⟨rfl, hkx⟩; replace HKT := Lib.hid (HKT.out.trans hkx); clear hkx) | (go_at_call 18; refine (all_none 0 _).mono ?_; rintro e Wx ⟨rfl, hkx⟩; replace HKT := Lib.hid (HKT.out.trans hkx); clear hkx) | (go_at_call 19; refine (send_none 0 0 _).mono ?_; rintro e Wx ⟨rfl, hkx⟩; replace HKT := Lib.hid (HKT.out.trans hkx); clear hkx) | (go_at_call 20; refine (recv_none 0 _).mono ?_; rintro e Wx ⟨rfl, hkx⟩; replace HKT := Lib.hid (HKT.out.trans hkx); clear hkx) | (go_at_call 22; refine (room_nil 0 _).mono ?_; rintro e Wx ⟨rfl, hkx⟩; replace HKT := Lib.hid (HKT.out.trans hkx); clear hkx) | (go_at_call 16; refine (waits_nil 0 _).mono ?_; rintro e Wx ⟨⟨vx, rfl, -⟩, hkx⟩; replace HKT := Lib.hid (HKT.out.trans hkx); clear hkx) | (go_at_call 21; refine (values_nil 0 _).mono ?_; rintro e Wx ⟨⟨vx, rfl, -⟩, hkx⟩; replace HKT := Lib.hid (HKT.out.trans hkx); clear hkx))
        have f2 := HKT.out.cell f2
        refine (num_any _ _).mono ?_
        rintro e Wn ⟨rfl, rfl⟩
        go_wp2_with (first | (go_at_call 23; refine (num_any _ _).mono ?_; rintro e Wn ⟨rfl, rfl⟩) | (go_at_call 24; refine (unlock_none 0 0 _).mono ?_; rintro e Wx ⟨rfl, hkx⟩; have f2 := hkx.cell f2; replace HKT := Lib.hid (HKT.out.trans hkx); clear hkx) | (go_at_call 25; refine (wait_none 0 0 _).mono ?_; rintro e Wx ⟨rfl, hkx⟩; have f2 := hkx.cell f2; replace HKT := Lib.hid (HKT.out.trans hkx); clear hkx) | (go_at_call 26; refine (copy_nil _).mono ?_; rintro e Wx ⟨rfl, hkx⟩; have f2 := hkx.cell f2; replace HKT := Lib.hid (HKT.out.trans hkx); clear hkx) | (go_at_call 27; refine (same_nn _).mono ?_; rintro e Wx ⟨rfl, hkx⟩; have f2 := hkx.cell f2; replace HKT := Lib.hid (HKT.out.trans hkx); clear hkx) | (go_at_call 28; refine (HI.out _ (HK4.out.trans HKT.out)).mono ?_; rintro e Wx ⟨rfl, hkx⟩; replace HKT := Lib.hid (HKT.out.trans hkx); clear hkx HI))
        go_wp2_with (first
          | (go_at_call 23; refine (num_any _ _).mono ?_; rintro e Wn ⟨rfl, rfl⟩)
          | (go_at_call 11; refine (HW.out _).mono ?_; rintro e W8 ⟨rfl, hk8⟩))
        go_ret
        exact ⟨rfl, (HK1.out.trans (HK4.out.trans HKT.out)).trans hk8⟩
end Go.Proofs.Ytehcfahfbdphpaa
