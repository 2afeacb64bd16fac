/- Layer 4: all who wait are woken, in order: some wait. -/
import Derived.Test.YtehcfahfbdphpaaSy31
import Derived.Test.YtehcfahfbdphpaaSy30
namespace Go.Proofs.Ytehcfahfbdphpaa
open Go.RowKit Go.Shelf
/-- The queue behind k + 1 takes, and who was woken. -/
def AlI (W : World) (g i : Nat) (curC : List Value) (v : Value) (l : List Int) (k : Nat) (wk : Value) (wr : World) : Prop :=
  ∃ v', Cells wr g 99 (curC.set i v') ∧ wr.ownsRow 0 3 1 v' (l.drop (k + 1)).length ((l.drop (k + 1)).map (.int .i64)) ∧ v'.ownBlock = v.ownBlock ∧ wr.ownsRow W.heap.size 3 1 wk k ((l.take k).map (.int .i64)) ∧ Kept (fun q => q = g ∨ v.ownBlock = some q) W wr
section
variable {W : World} {T : Nat → Nat} {p : Nat} {S : SS} (h : SyAt W T p S)
include h
set_option maxRecDepth 100000 in
set_option maxHeartbeats 1000000 in
theorem all_some (i : Nat) (hi : i < S.cs.length) (x : Int) (r : List Int) (hx : S.cs[i] = x :: r) : Calls Try.prog 18 #[.pointer (some ⟨p, 0, none⟩), .int .i64 i] W fun e W' => (∃ v, e = .returned (.tuple #[v, .int .i64 0]) ∧ W'.ownsRow W.heap.size 3 1 v (x :: r).length ((x :: r).map (.int .i64))) ∧ SyTo W T p { S with cs := S.cs.set i [] } W' := by
  have h' := h
  obtain ⟨Am, Ac, Aq, cm, cc, cq, curM, curC, curQ, ⟨hp, hTp⟩, ⟨hM, hC, hQ⟩, hos, hcs, hqs, hTl, hb1, hb2, hb3⟩ := h
  have c0 := hp.cell 0
  have cM := hp.cell 1
  have cC := hp.cell 2
  have cQ := hp.cell 3
  simp only [List.getElem?_cons_zero, List.getElem?_cons_succ] at c0 cM cC cQ
  obtain ⟨g, rfl, hMg, hTg⟩ := hC (by omega)
  obtain ⟨v, hv, hq⟩ := hcs i hi
  rw [hx] at hq
  have hne : v.ownBlock ≠ some g := fun e => by have := hq.2.1 g e; omega
  have hln := hq.2.2
  simp only [List.length_cons] at hln
  have HS := Lib.hid (fun W3 v' => @SyAt.setC W W3 T p S h' i hi g cc curC v v' [] cC hMg hv)
  have HVB := Lib.hid (fun b (hb : v.ownBlock = some b) => own_lt hq.1 hb)
  have HMG := Lib.hid hMg
  have HV := Lib.hid hv
  have HQ := Lib.hid hq.1
  have HNE := Lib.hid hne
  have HL0 := Lib.hid (List.getElem?_eq_some_iff.1 hv).1
  have hgl := hMg.lt
  clear hp hM hC hQ hcs hqs hTl hos cM cQ hTp hMg hv hq hx hne h' hTg
  have c1 := cC
  go_enter Try.func18, Try.ntmps18
  go_wp2_with (go_at_call 36; refine (whole_p p _).mono ?_; rintro e W0 ⟨rfl, rfl⟩)
  refine wp_region_held_drew (S := (fun w' => w'.cell? ⟨p, 0, none⟩ = some (.bool true) ∧ w'.cell? ⟨p, 2, none⟩ = some (.slice (some ⟨g, 0, none⟩) S.cs.length cc))) (by kernel_rfl) ⟨c0, c1⟩ (fun hHeld => ?_)
  refine wpAnyH_take (i := 0) (v := ?_) rfl (by kernel_rfl) (by kernel_rfl) (by kernel_rfl) (fun _ _ _ h => h) (Or.inl ⟨by rfl, ?_⟩) (by assumption) ?_
  rotate_left
  · intro wS hSw
    (try dsimp only at hSw)
    go_simp
    (try with_reducible rfl)
  refine wpAnyH_take (i := 1) (v := ?_) rfl (by kernel_rfl) (by kernel_rfl) (by kernel_rfl) (fun _ _ _ h => h) (Or.inl ⟨by rfl, ?_⟩) (by assumption) ?_
  rotate_left
  · intro wS hSw
    (try dsimp only at hSw)
    go_simp
    (try with_reducible rfl)
  refine wpAnyH_take (i := 2) (v := ?_) rfl (by kernel_rfl) (by kernel_rfl) (by kernel_rfl) (fun _ _ _ h => h) (Or.inl ⟨by rfl, ?_⟩) (by assumption) ?_
  rotate_left
  · intro wS hSw
    (try dsimp only at hSw)
    go_simp
    (try with_reducible rfl)
  refine wpAnyH_take (i := 3) (v := ?_) rfl (by kernel_rfl) (by kernel_rfl) (by kernel_rfl) (fun _ _ _ h => h) (Or.inl ⟨by rfl, ?_⟩) (by assumption) ?_
  rotate_left
  · intro wS hSw
    (try dsimp only at hSw)
    go_simp
    (try with_reducible rfl)
  refine wpAnyH_take (i := 4) (v := ?_) rfl (by kernel_rfl) (by kernel_rfl) (by kernel_rfl) (fun _ _ _ h => h) (Or.inl ⟨by rfl, ?_⟩) (by assumption) ?_
  rotate_left
  · intro wS hSw
    (try dsimp only at hSw)
    go_simp
    (try with_reducible rfl)
  refine wpAnyH_take (i := 5) (v := ?_) rfl (by kernel_rfl) (by kernel_rfl) (by kernel_rfl) (fun _ _ _ h => h) (Or.inl ⟨by rfl, ?_⟩) (by assumption) ?_
  rotate_left
  · intro wS hSw
    (try dsimp only at hSw)
    go_simp
    (try with_reducible rfl)
  refine wpAnyH_take (i := 6) (v := ?_) rfl (by kernel_rfl) (by kernel_rfl) (by kernel_rfl) (fun _ _ _ h => h) (Or.inl ⟨by rfl, ?_⟩) (by assumption) ?_
  rotate_left
  · intro wS hSw
    (try dsimp only at hSw)
    go_simp
    (try with_reducible rfl)
  refine wpAnyH_take (i := 7) (v := ?_) rfl (by kernel_rfl) (by kernel_rfl) (by kernel_rfl) (fun _ _ _ h => h) (Or.inl ⟨by rfl, ?_⟩) (by assumption) ?_
  rotate_left
  · intro wS hSw
    (try dsimp only at hSw)
    go_simp
    (try with_reducible rfl)
  refine wpAnyH_take (i := 8) (v := ?_) rfl (by kernel_rfl) (by kernel_rfl) (by kernel_rfl) (fun _ _ _ h => h) (Or.inl ⟨by rfl, ?_⟩) (by assumption) ?_
  rotate_left
  · intro wS hSw
    (try dsimp only at hSw)
    go_simp
    (try with_reducible rfl)
  refine wpAnyH_ready (rs := [9]) (by kernel_rfl) (by simp) ?_
  refine (AllReadyH.cons rfl (fun K hK => ?_) AllReadyH.nil)
  go_simp
  refine (lookC_in g S.cs.length cc i hi (by omega) _).mono ?_
  rintro e W1 ⟨rfl, hk1⟩
  have hkw : Kept noX W W1 := (Kept.refl noX W).drew.trans hk1
  refine hK.out _ _ ⟨hk1.cell c0, hk1.cell c1⟩ (fun hHeld => ?_)
  clear hK K
  refine wpAnyH_take (i := 10) (v := ?_) rfl (by kernel_rfl) (by kernel_rfl) (by kernel_rfl) (fun _ _ _ h => h) (Or.inl ⟨by rfl, ?_⟩) (by assumption) ?_
  rotate_left
  · intro wS hSw
    (try dsimp only at hSw)
    go_simp
    (try with_reducible rfl)
  refine wpAnyH_take (i := 11) (v := ?_) rfl (by kernel_rfl) (by kernel_rfl) (by kernel_rfl) (fun _ _ _ h => h) (Or.inl ⟨by rfl, ?_⟩) (by assumption) ?_
  rotate_left
  · intro wS hSw
    (try dsimp only at hSw)
    go_simp
    (try with_reducible rfl)
  refine wpAnyH_take (i := 12) (v := ?_) rfl (by kernel_rfl) (by kernel_rfl) (by kernel_rfl) (fun _ _ _ h => h) (Or.inl ⟨by rfl, ?_⟩) (by assumption) ?_
  rotate_left
  · intro wS hSw
    (try dsimp only at hSw)
    go_simp
    (try with_reducible rfl)
  refine wpAnyH_take (i := 13) (v := ?_) rfl (by kernel_rfl) (by kernel_rfl) (by kernel_rfl) (fun _ _ _ h => h) (Or.inl ⟨by rfl, ?_⟩) (by assumption) ?_
  rotate_left
  · intro wS hSw
    (try dsimp only at hSw)
    go_simp
    (try with_reducible rfl)
  refine wpAnyH_take (i := 14) (v := ?_) rfl (by kernel_rfl) (by kernel_rfl) (by kernel_rfl) (fun _ _ _ h => h) (Or.inl ⟨by rfl, ?_⟩) (by assumption) ?_
  rotate_left
  · intro wS hSw
    (try dsimp only at hSw)
    go_simp
    (try with_reducible rfl)
  refine wpAnyH_done (by kernel_rfl) ?_ _
  have HT := Lib.hid (take_some x r g i 99 _ v W1 (HMG.out.keep hkw) HV.out (own_kept HQ.out hkw (fun _ _ h => h)) HNE.out (by omega))
  go_wp2_with fail
  refine HT.out.mono ?_
  rintro e W2 ⟨rfl, v', hC2, hown2, hloc, hk2⟩
  have HI : Hid (AlI W g i curC v (x :: r) 0 (.slice none 0 0) W2) := Lib.hid ⟨v', hC2, by simpa using hown2, hloc, World.ownsRow_nil _ _ _ _, hkw.any.trans hk2⟩
  clear hC2 hown2 hloc hk2 HT
  obtain ⟨l, hl⟩ : ∃ l, l = x :: r := ⟨_, rfl⟩
  have hll : l.length = r.length + 1 := by rw [hl]; rfl
  have h0 : l[0]? = some x := by rw [hl]; rfl
  rw [← hl] at HI
  go_wp2_with fail
  go_loopg [9, 10, 11] (l.length - 0) (fun m a t b wr => ∃ k : Nat, m = l.length - k ∧ k ≤ l.length ∧ b = .bool (decide (k < l.length)) ∧ (k < l.length → ∃ y, l[k]? = some y ∧ t = .int .i64 y) ∧ AlI W g i curC v l k a wr)
  case atStart =>
    refine ⟨0, rfl, Nat.zero_le _, ?_, fun _ => ⟨x, h0, rfl⟩, HI.out⟩
    rw [decide_eq_true (by omega : 0 < l.length)]
  case round =>
    obtain ⟨k, rfl, hkl, rfl, hx, hAl⟩ := hrel
    rcases Nat.lt_or_ge k l.length with hkn | hkn
    · obtain ⟨y, hy, rfl⟩ := hx hkn
      rw [decide_eq_true hkn]
      obtain ⟨v2, hC2, ho2, hl2, hw2, hk2⟩ := hAl
      obtain ⟨Aw, cw, rfl, _, _⟩ := own_formN hw2
      obtain ⟨i0, hi0, hz0, hz1, hz2⟩ := info_parts infoI
      have hks := hk2.size
      have HC2 := Lib.hid hC2
      have HO2 := Lib.hid ho2
      have HL2 := Lib.hid hl2
      have HW2 := Lib.hid hw2
      have HO := Lib.hid (hw2.alloc (.cells #[.int .i64 y] 3))
      have HN := Lib.hid (cell_one_new wr (.int .i64 y) 3)
      have HY := Lib.hid hy
      have HK2 := Lib.hid hk2
      clear hC2 ho2 hl2 hw2 hy hk2 hx
      go_wp2_with (at_builtin; refine wpList_append_own_at _ rfl _ _ 22 rfl W.heap.size 3 i0 (.int .i64 0) 1 8 Try.underlying22 hi0 hz0 hz1 hz2 rfl (by decide) (.slice Aw k cw) k ((l.take k).map (.int .i64)) rfl HO.out ⟨wr.heap.size, 0, none⟩ 1 1 [.int .i64 y] rfl rfl HN.out (by intro u hu; obtain rfl := List.mem_singleton.1 hu; rfl) (by unfold maxLen; omega) (by omega) (by rw [World.size_alloc]; omega) ?_
                   intro v5 W5 hown' hgrow _ hat
                   have hk5 : Kept (fun q => (Value.slice Aw k cw).ownBlock = some q) wr W5 := ((Kept.refl _ _).alloc _).grown hgrow (fun k hk _ => hk)
                   rw [World.size_alloc] at hat
                   have HO5 := Lib.hid hown'
                   have HAT := Lib.hid hat
                   have HK5 := Lib.hid hk5
                   obtain ⟨A', n', c', rfl⟩ := own_form0 hown'
                   clear hown' hat hgrow hk5)
      have hge : ∀ b, (Value.slice Aw k cw).ownBlock = some b → W.heap.size ≤ b := fun b hb => own_ge HW2.out hb
      have hC5 := HC2.out.kept HK5.out (fun e => by have := hge _ e; omega)
      have ho5 := own_kept HO2.out HK5.out (fun b hb e => by rw [HL2.out] at hb; have := HVB.out b hb; have := hge _ e; omega)
      have hk5 := HK2.out.join HK5.out (fun b hb hl => by have := hge _ hb; omega)
      have hv5 : (curC.set i v2)[i]? = some v2 := by rw [List.getElem?_set_self HL0.out]
      have hr5 : W5.ownsRow W.heap.size 3 1 (.slice A' n' c') (k + 1) ((l.take (k + 1)).map (.int .i64)) := by
        have := HO5.out
        rw [List.take_add_one, HY.out]
        simpa using this
      have hg5 : ∀ b, (Value.slice A' n' c').ownBlock = some b → W.heap.size ≤ b := fun b hb => own_ge hr5 hb
      have hln5 : ((l.drop (k + 1)).length) = l.length - (k + 1) := List.length_drop
      have hk6n : Kept (fun q => q = g ∨ v.ownBlock = some q) W5 W5 := Kept.refl _ _
      rcases Nat.lt_or_ge (k + 1) l.length with hk1n | hk1n
      · have hdr : l.drop (k + 1) = l[k + 1] :: l.drop (k + 2) := List.drop_eq_getElem_cons hk1n
        rw [hdr] at ho5
        have hy1 : l[k + 1]? = some l[k + 1] := List.getElem?_eq_getElem hk1n
        obtain ⟨z, hz⟩ : ∃ z, z = l[k + 1] := ⟨_, rfl⟩
        rw [← hz] at ho5 hy1
        have HT5 := Lib.hid (take_some z (l.drop (k + 2)) g i 99 (curC.set i v2) v2 W5 hC5 hv5 ho5 (by rw [HL2.out]; exact HNE.out) (by rw [List.length_drop]; omega))
        have HR5 := Lib.hid hr5
        have HG5 := Lib.hid hg5
        have HK6 := Lib.hid hk5
        have HY1 := Lib.hid hy1
        clear hC5 ho5 hv5 hr5 hg5 hk5 hy1 hz hdr hk6n
        go_wp2_with fail
        refine HT5.out.mono ?_
        rintro e W6 ⟨rfl, v6, hC6, ho6, hl6, hkk6⟩
        rw [List.set_set] at hC6
        have hr6 := own_kept HR5.out hkk6 (fun b hb e => by
          have h1 := HG5.out b hb
          rcases e with e | e
          · omega
          · rw [HL2.out] at e; have := HVB.out b e; omega)
        rw [HL2.out] at hl6
        have hkk7 : Kept (fun q => q = g ∨ v.ownBlock = some q) W W6 := HK6.out.trans (by rw [HL2.out] at hkk6; exact hkk6)
        have HI6 : Hid (AlI W g i curC v l (k + 1) (.slice A' n' c') W6) := Lib.hid ⟨v6, hC6, ho6, hl6, hr6, hkk7⟩
        clear hC6 ho6 hl6 hkk6 hr6 hkk7 HT5
        go_wp2_with fail
        go_roundg (l.length - (k + 1))
        case measure => omega
        case rel => exact ⟨k + 1, rfl, by omega, by rw [decide_eq_true hk1n], fun _ => ⟨z, HY1.out, rfl⟩, HI6.out⟩
      · have hdr : l.drop (k + 1) = [] := List.drop_eq_nil_of_le (by omega)
        have hdr2 : l.drop (k + 1 + 1) = [] := List.drop_eq_nil_of_le (by omega)
        rw [hdr] at ho5
        obtain ⟨A2, c2, rfl, _, _⟩ := own_formN ho5
        have HT5 := Lib.hid (take_nil g i 99 (curC.set i (.slice A2 0 c2)) A2 c2 W5 hC5 hv5)
        have HI6 : Hid (AlI W g i curC v l (k + 1) (.slice A' n' c') W5) := Lib.hid ⟨_, hC5, by rw [hdr2]; exact ho5, HL2.out, hr5, hk5⟩
        clear hC5 ho5 hv5 hr5 hg5 hk5 hdr hdr2 hk6n
        go_wp2_with fail
        refine HT5.out.mono ?_
        rintro e W6 ⟨rfl, hW6⟩
        rw [hW6]
        clear HT5
        go_wp2_with fail
        go_roundg (l.length - (k + 1))
        case measure => omega
        case rel => exact ⟨k + 1, rfl, by omega, by rw [decide_eq_false (by omega : ¬ k + 1 < l.length)], fun hh => absurd hh (by omega), HI6.out⟩
    · rw [decide_eq_false (by omega : ¬ k < l.length)]
      obtain ⟨v2, hC2, ho2, hl2, hw2, hk2⟩ := hAl
      obtain ⟨Aw, cw, rfl, _, _⟩ := own_formN hw2
      obtain rfl : k = l.length := by omega
      have HW2 := Lib.hid hw2
      have hd : l.drop (l.length + 1) = [] := List.drop_eq_nil_of_le (by omega)
      rw [hd] at ho2
      have HZ := Lib.hid (HS.out wr v2 hC2 ho2 (.inl hl2) hk2 (Nat.zero_le _))
      clear hC2 ho2 hl2 hw2 hk2 hx hd
      go_wp2
      go_ret2
      have hw3 := HW2.out
      rw [List.take_length] at hw3
      subst hl
      refine ⟨⟨_, rfl, ?_⟩, HZ.out⟩
      exact hw3
end
end Go.Proofs.Ytehcfahfbdphpaa
