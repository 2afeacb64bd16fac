/- Layer 4: a receiver that is nil: Wait (conditions: none). -/
import Derived.Test.YtehcfahfbdphpaaSy34
namespace Go.Proofs.Ytehcfahfbdphpaa
open Go.RowKit Go.Shelf
attribute [local go_sem] Oper.semAt_some

set_option maxRecDepth 100000 in
set_option maxHeartbeats 1000000 in
theorem waits_raw {W : World} {p gc cc : Nat} {Ac : Option Addr} (cs : List (List Int)) (hb2 : cs.length ≤ 64) (hpl : p < W.heap.size) (cC : W.cell? ⟨p, 2, none⟩ = some (.slice Ac cs.length cc))
    (hq : ∀ i (h : i < cs.length), Ac = some ⟨gc, 0, none⟩ ∧ gc < W.heap.size ∧ ∃ A c, W.cell? ⟨gc, i, none⟩ = some (.slice A cs[i].length c) ∧ RowV W (W.heap.size ≤ ·) (.slice A cs[i].length c) (cs[i].map (D.int .i64)) ∧ cs[i].length ≤ 1000000000) (t : Int) :
    Calls Try.prog 53 #[.pointer (some ⟨p, 0, none⟩), .int .i64 t] W fun e W' => e = .returned (.bool (cs.flatten.any (· == t))) ∧ Kept noX W W' := by
  have HSEQ := Lib.hid (fun base B (hb : base ≤ B) w hB => waiting_seq (w0 := W) (b0 := W.heap.size) (p := p) (gc := gc) (cc := cc) (Ac := Ac) cs hb2 hpl cC hq base B hb w hB)
  generalize hfl : cs.flatten = fl at *
  clear cC hq
  refine (Calls.mono (R := fun e W' => e = .returned (.bool (fl.any (· == t))) ∧ Kept (W.heap.size ≤ ·) W W') ?_ (fun e W' hh => ⟨hh.1, hh.2.mono (fun k hk h => by have h : W.heap.size ≤ k := h; omega)⟩))
  refine (callsIn_wide (n := 0)).1 (callsIn_of_wp_marks Try.func53 rfl trivial ?_ rfl)
  simp only [Try.ntmps53, List.size_toArray, List.length_cons, List.length_nil, Nat.reduceAdd, Nat.reduceSub, Array.replicate_succ, Array.replicate_zero, List.push_toArray, List.append_toArray, List.nil_append, List.cons_append]
  gi_wp2_with fail
  obtain ⟨w0, hw0⟩ : ∃ w0, w0 = (W.alloc (.cells #[.int .i64 t] 3)).alloc (.cells #[.bool false] 4) := ⟨_, rfl⟩
  have hz0 : w0.heap.size = W.heap.size + 2 := by rw [hw0]; simp
  have hk0 : Kept noX W w0 := by rw [hw0]; exact ((Kept.refl _ _).alloc _).alloc _
  have h0 : WaI W t (fun _ => False) false w0 := by
    refine ⟨hk0.any, ?_, ?_, fun h => h, fun h => h⟩
    · rw [hw0]; exact (Cells.fresh W 3 [.int .i64 t]).alloc _
    · rw [hw0]
      have := Cells.fresh (W.alloc (.cells #[.int .i64 t] 3)) 4 [.bool false]
      rw [World.size_alloc] at this
      exact this
  rw [← hw0]
  clear hw0
  refine ⟨trivial, rfl, ?_⟩
  refine (callsIn_wide.2 (waiting_makes p w0)).mono ?_
  rintro e W7 ⟨rfl, hW7⟩
  have hB7 : Cells W7 w0.heap.size 80 [.pointer (some ⟨p, 0, none⟩)] := by rw [hW7]; exact Cells.fresh w0 80 _
  have hk7 : Kept noX w0 W7 := by rw [hW7]; exact (Kept.refl _ _).alloc _
  have hs7 := hB7.lt
  clear hW7
  dsimp only
  gi_wp2_with fail
  refine wpIn_rangeD (gf := 91) (lb := #[.pointer (some ⟨w0.heap.size, 0, none⟩)]) rfl (enters_of Try.func91 (by kernel_rfl) rfl)
    (HSEQ.out w0.heap.size w0.heap.size (Nat.le_refl _) W7 hB7) (by omega) (Kept.refl _ _) (fun _ => rfl)
    (fun O pre W' => WaI W t O false W' ∧ pre.any (· == t) = false)
    (fun c O pre W' => c = .ret ∧ pre.any (· == t) = true ∧ WaI W t O true W')
    (fun O pre x a1 W' => (WaI W t O false W' ∧ pre.any (· == t) = false) ∧ (∀ k, O k → k < W'.heap.size) ∧ ∃ u0 u1 u2 u6 u7 u8 u9 u10 u11 : Value, a1 = { tmps := #[u0, u1, u2, .pointer (some ⟨W.heap.size, 0, none⟩), .pointer (some ⟨W.heap.size + 1, 0, none⟩), .int .i64 x, u6, u7, u8, u9, u10, u11], defers := [] })
    ?hIK ?hI ?hIe ?hIx ?hAx ?h0 ?hassign ?hbody ?hdone ?hstop
  case hIK => intro O pre W1 h; exact h.1.kept
  case hI => intro O pre W1 W2 hO h hk; exact ⟨h.1.stab (fun k hk => by have := hO k hk; omega) hk, h.2⟩
  case hIe => intro O O' pre W1 h hO; exact ⟨h.1.ext hO, h.2⟩
  case hIx =>
    rintro c O pre W1 W2 hO ⟨hc, h1, h4⟩ hk
    exact ⟨hc, h1, h4.stab (fun k hk => by have := hO k hk; omega) hk⟩
  case hAx =>
    rintro O pre x a1 W1 W2 hO ⟨h1, h2, hrest⟩ hk
    exact ⟨⟨h1.1.stab (fun k hk => by have := hO k hk; omega) hk, h1.2⟩, fun k ho => Nat.lt_of_lt_of_le (h2 k ho) hk.size, hrest⟩
  case h0 =>
    have hT2 := h0.stab (fun _ h => h.elim) (hk7.mono (fun _ _ h => h.elim))
    refine ⟨⟨hT2.kept, hT2.box, hT2.flag, fun ho => ?_, fun ho => ?_⟩, rfl⟩
    · omega
    · omega
  case hassign =>
    rintro lq O pre x Wq hO hOs hmq hwi
    simp only [encN]
    gi_wp2
    exact ⟨Kept.refl _ _, hwi, hOs, _, _, _, _, _, _, _, _, _, rfl⟩
  case hbody =>
    rintro lq O pre x a1 Wq hO hmq ⟨⟨hwi, hpre⟩, hOs, u0, u1, u2, u6, u7, u8, u9, u10, u11, rfl⟩
    have cb := hwi.box.cell 0
    have cf := hwi.flag.cell 0
    have ff := hwi.flag.free 0
    simp only [List.getElem?_cons_zero] at cb cf
    have HWI := Lib.hid hwi
    have HPRE := Lib.hid hpre
    clear hwi hpre hmq
    cases hxt : (x == t) with
    | true =>
      have HX := Lib.hid hxt
      gi_wp2
      have hkc : Kept (· = W.heap.size + 1) Wq (Wq.setCell ⟨W.heap.size + 1, 0, none⟩ (.bool true)) := (Kept.refl (· = W.heap.size + 1) Wq).setCell (p := ⟨W.heap.size + 1, 0, none⟩) (fun _ => rfl) _
      have hoff := HWI.out.off2
      refine ⟨hkc.mono (fun k _ h ho => hoff (by have h : k = W.heap.size + 1 := h; rwa [h] at ho)), rfl, ?_, ⟨HWI.out.kept.trans (hkc.mono (fun k _ h => by have h : k = W.heap.size + 1 := h; show _ ≤ _; omega)), HWI.out.box.kept hkc (by omega), HWI.out.flag.put 0 _, HWI.out.off, hoff⟩⟩
      rw [List.any_append, HPRE.out]
      simp [HX.out]
    | false =>
      have HX := Lib.hid hxt
      gi_wp2
      refine ⟨trivial, Kept.refl _ _, HWI.out, ?_⟩
      rw [List.any_append, HPRE.out]
      simp [HX.out]
  case hdone =>
    rintro D xs O W8 hD hO hOD hxs ⟨hT8, hall⟩ hDd
    obtain rfl : xs = fl := hxs
    have hDw : W.heap.size + 1 < D := by omega
    have cf := hT8.flag.cell 0
    have ff := hT8.flag.free 0
    simp only [List.getElem?_cons_zero] at cf
    have HT8 := Lib.hid hT8
    have HDd := Lib.hid hDd
    have HA := Lib.hid hall
    clear hT8 hDd hall
    gi_wp2
    have hkc : Kept (· = W.heap.size + 1) W8 (W8.setCell ⟨W.heap.size + 1, 0, none⟩ (.bool false)) := (Kept.refl (· = W.heap.size + 1) W8).setCell (p := ⟨W.heap.size + 1, 0, none⟩) (fun _ => rfl) _
    refine leave_marks [D] _ ((MarksAt.nil _).cons (hkc.heap HDd.out (fun h => by have h : D = W.heap.size + 1 := h; omega)) (by simp)) (fun W' hk' => ?_)
    have hne : ¬ W.heap.size + 1 ∈ [D] := fun hm => by
      obtain rfl := List.mem_singleton.1 hm
      omega
    have hF9 := HT8.out.flag.put 0 (.bool false)
    refine ⟨_, results_single Try.results53 (resVal.cell rfl (by have h := (hF9.kept hk' hne).cell 0; exact h) Try.underlying4 rfl), ?_, (HT8.out.kept.trans (hkc.mono (fun k _ h => by have h : k = W.heap.size + 1 := h; show _ ≤ _; omega))).trans (hk'.mono (fun k _ hk => by
      obtain rfl := List.mem_singleton.1 hk
      show _ ≤ _; omega))⟩
    rw [HA.out]
  case hstop =>
    rintro D c pre O W8 hD hO hOD hSp ⟨rfl, hbad, hT8⟩ hDd
    have hDw : W.heap.size + 1 < D := by omega
    have HM9 := Lib.hid ((MarksAt.nil W8).cons hDd (by simp))
    have HR : Hid (fl.any (· == t) = true) := Lib.hid (by
      obtain ⟨q, hq⟩ := hSp
      rw [← hq, List.any_append, hbad]
      rfl)
    have HT8 := Lib.hid hT8
    clear hT8 hDd hbad hSp
    gi_wp2
    refine leave_marks [D] W8 HM9.out (fun W' hk' => ?_)
    have hne : ¬ W.heap.size + 1 ∈ [D] := fun hm => by
      obtain rfl := List.mem_singleton.1 hm
      omega
    refine ⟨_, results_single Try.results53 (resVal.cell rfl (by have h := (HT8.out.flag.kept hk' hne).cell 0; exact h) Try.underlying4 rfl), ?_, HT8.out.kept.trans (hk'.mono (fun k _ hk => by
      obtain rfl := List.mem_singleton.1 hk
      show _ ≤ _; omega))⟩
    rw [HR.out]
set_option maxRecDepth 100000 in
set_option maxHeartbeats 1000000 in
theorem wait_none (m t : Int) (W : World) : Calls Try.prog 25 #[.pointer none, .int .i64 m, .int .i64 t] W fun e W' => e = .returned (.int .i64 1) ∧ Kept noX W W' := by
  obtain ⟨wb, hwb⟩ : ∃ wb, wb = false := ⟨_, rfl⟩
  go_enter Try.func25, Try.ntmps25
  go_wp2_with (first
    | (go_at_call 36; refine (whole_nil _).mono ?_; rintro e W0 ⟨rfl, hW0⟩; have hkn : Kept noX W W0 := hW0 ▸ (Kept.refl noX W).alloc _; have hCn : Cells W0 W.heap.size 76 [.bool false, .slice none 0 0, .slice none 0 0, .slice none 0 0] := hW0 ▸ Cells.fresh W 76 _; clear hW0; generalize hpn : W.heap.size = p at *; have c0 := hCn.cell 0; have cM := hCn.cell 1; have cC := hCn.cell 2; have cQ := hCn.cell 3; simp only [List.getElem?_cons_zero, List.getElem?_cons_succ] at c0 cM cC cQ; have hpl := hCn.lt; clear hCn)
    | (go_at_call 52; refine (findC_out none 0 0 m (by omega) (by omega) _).mono ?_; rintro e W1 ⟨g, rfl, hk1, hg, hCg⟩))
  replace c0 := hk1.cell c0
  clear hCg
  have HWA : Hid (∀ W2, Kept noX W0 W2 → Calls Try.prog 53 #[.pointer (some ⟨p, 0, none⟩), .int .i64 t] W2 fun e W' => e = .returned (.bool wb) ∧ Kept noX W2 W') := Lib.hid (by
    intro W2 hk
    rw [hwb]
    exact waits_raw (p := p) (gc := 0) (cc := 0) (Ac := none) [] (by simp) (Nat.lt_of_lt_of_le hpl hk.size) (hk.cell cC) (fun i hi => absurd hi (Nat.not_lt_zero i)) t)
  clear hwb cM cC cQ
  refine wp_region_held_drew (S := (fun w' => w'.cell? ⟨p, 0, none⟩ = some (.bool false))) (by kernel_rfl) c0 (fun hHeld => ?_)
  refine wpAnyH_take (i := 0) (v := ?_) rfl (by kernel_rfl) (by kernel_rfl) (by kernel_rfl) (fun _ _ _ h => h) (Or.inl ⟨by rfl, ?_⟩) (by assumption) ?_
  rotate_left
  · intro wS hSw
    (try dsimp only at hSw)
    go_simp
    (try with_reducible rfl)
  refine wpAnyH_take (i := 1) (v := ?_) rfl (by kernel_rfl) (by kernel_rfl) (by kernel_rfl) (fun _ _ _ h => h) (Or.inl ⟨by rfl, ?_⟩) (by assumption) ?_
  rotate_left
  · intro wS hSw
    (try dsimp only at hSw)
    go_simp
    (try with_reducible rfl)
  refine wpAnyH_take (i := 2) (v := ?_) rfl (by kernel_rfl) (by kernel_rfl) (by kernel_rfl) (fun _ _ _ h => h) (Or.inl ⟨by rfl, ?_⟩) (by assumption) ?_
  rotate_left
  · intro wS hSw
    (try dsimp only at hSw)
    go_simp
    (try with_reducible rfl)
  refine wpAnyH_take (i := 3) (v := ?_) rfl (by kernel_rfl) (by kernel_rfl) (by kernel_rfl) (fun _ _ _ h => h) (Or.inl ⟨by rfl, ?_⟩) (by assumption) ?_
  rotate_left
  · intro wS hSw
    (try dsimp only at hSw)
    go_simp
    (try with_reducible rfl)
  refine wpAnyH_take (i := 4) (v := ?_) rfl (by kernel_rfl) (by kernel_rfl) (by kernel_rfl) (fun _ _ _ h => h) (Or.inl ⟨by rfl, ?_⟩) (by assumption) ?_
  rotate_left
  · intro wS hSw
    (try dsimp only at hSw)
    go_simp
    (try with_reducible rfl)
  refine wpAnyH_take (i := 5) (v := ?_) rfl (by kernel_rfl) (by kernel_rfl) (by kernel_rfl) (fun _ _ _ h => h) (Or.inl ⟨by rfl, ?_⟩) (by assumption) ?_
  rotate_left
  · intro wS hSw
    (try dsimp only at hSw)
    go_simp
    (try with_reducible rfl)
  (try simp only [Act.put, List.getElem_toArray, List.getElem_cons_succ, List.getElem_cons_zero, List.setIfInBounds_toArray, List.set_cons_zero, List.set_cons_succ])
  refine wpAnyH_take (i := 7) (v := ?_) rfl (by kernel_rfl) (by kernel_rfl) (by kernel_rfl) (fun _ _ _ h => h) (Or.inl ⟨by rfl, ?_⟩) (by assumption) ?_
  rotate_left
  · intro wS hSw
    (try dsimp only at hSw)
    go_simp
    (try with_reducible rfl)
  refine wpAnyH_take (i := 8) (v := ?_) rfl (by kernel_rfl) (by kernel_rfl) (by kernel_rfl) (fun _ _ _ h => h) (Or.inl ⟨by rfl, ?_⟩) (by assumption) ?_
  rotate_left
  · intro wS hSw
    (try dsimp only at hSw)
    go_simp
    (try with_reducible rfl)
  (try simp only [Act.put, List.getElem_toArray, List.getElem_cons_succ, List.getElem_cons_zero, List.setIfInBounds_toArray, List.set_cons_zero, List.set_cons_succ])
  refine wpAnyH_ready (rs := [6]) (by kernel_rfl) (by simp) ?_
  refine (AllReadyH.cons rfl (fun K hK => ?_) AllReadyH.nil)
  go_simp
  refine (isThread_any t _).mono ?_
  rintro e W3 ⟨rfl, hk3⟩
  replace hk3 : Kept noX W1 W3 := (Kept.refl noX W1).drew.trans hk3
  replace c0 := hk3.cell c0
  refine hK.out _ _ c0 (fun hHeld => ?_)
  clear hK K
  refine wpAnyH_ready (rs := [9]) (by kernel_rfl) (by simp) ?_
  refine (AllReadyH.cons rfl (fun K hK => ?_) AllReadyH.nil)
  go_simp
  refine (HWA.out _ (hk1.trans hk3)).mono ?_
  rintro e W5 ⟨rfl, hk5⟩
  replace c0 := hk5.cell c0
  refine hK.out _ _ c0 (fun hHeld => ?_)
  clear hK K
  (try simp only [Act.put, List.getElem_toArray, List.getElem_cons_succ, List.getElem_cons_zero, List.setIfInBounds_toArray, List.set_cons_zero, List.set_cons_succ])
  refine wpAnyH_take (i := 10) (v := ?_) rfl (by kernel_rfl) (by kernel_rfl) (by kernel_rfl) (fun _ _ _ h => h) (Or.inl ⟨by rfl, ?_⟩) (by assumption) ?_
  rotate_left
  · intro wS hSw
    (try dsimp only at hSw)
    go_simp
    (try with_reducible rfl)
  refine wpAnyH_take (i := 11) (v := ?_) rfl (by kernel_rfl) (by kernel_rfl) (by kernel_rfl) (fun _ _ _ h => h) (Or.inl ⟨by rfl, ?_⟩) (by assumption) ?_
  rotate_left
  · intro wS hSw
    (try dsimp only at hSw)
    go_simp
    (try with_reducible rfl)
  (try simp only [Act.put, List.getElem_toArray, List.getElem_cons_succ, List.getElem_cons_zero, List.setIfInBounds_toArray, List.set_cons_zero, List.set_cons_succ])
  refine wpAnyH_ready (rs := [12]) (by kernel_rfl) (by simp) ?_
  refine (AllReadyH.cons rfl (fun K hK => ?_) AllReadyH.nil)
  go_simp
  refine (refusal_141 false false (inI 0 7 t) (!wb) W5).mono ?_
  rintro e W4 ⟨rfl, hk4⟩
  replace c0 := hk4.cell c0
  refine hK.out _ _ c0 (fun hHeld => ?_)
  clear hK K
  refine wpAnyH_take (i := 13) (v := ?_) rfl (by kernel_rfl) (by kernel_rfl) (by kernel_rfl) (fun _ _ _ h => h) (Or.inl ⟨by rfl, ?_⟩) (by assumption) ?_
  rotate_left
  · intro wS hSw
    (try dsimp only at hSw)
    go_simp
    (try with_reducible rfl)
  refine wpAnyH_done (by kernel_rfl) ?_ _
  generalize hE : ref141 false false (inI 0 7 t) (!wb) = E
  have e4 : E = 1 := by rw [← hE]; rfl
  rw [e4]
  clear hE e4
  go_wp2
  go_ret
  exact ⟨rfl, (((hkn.trans hk1).trans hk3).trans hk5).trans hk4⟩
end Go.Proofs.Ytehcfahfbdphpaa
