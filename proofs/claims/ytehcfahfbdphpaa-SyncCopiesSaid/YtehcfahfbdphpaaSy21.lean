/- Layer 4: does a thread wait; it waits behind all others (conditions: a state stands; fewer than 10^9 wait). -/
import Derived.Test.YtehcfahfbdphpaaSy20
import Derived.Test.YtehcfahfbdphpaaSy13
namespace Go.Proofs.Ytehcfahfbdphpaa
open Go.RowKit Go.Shelf
attribute [local go_sem] Oper.semAt_some

theorem results_single {P : Program} {fn : Func} {tmps : Array Value} {W : World} {r : ResultVar} {v : Value} (h : fn.results = #[r]) (hv : resVal P W tmps r v) : (results fn tmps).run P W = .ok v W := by
  have e : results fn tmps = (fn.results.mapM (resRead tmps)) >>= fun vs => pure (if h : vs.size = 1 then vs[0] else .tuple vs) := by
    unfold results
    congr 1
  have hm : (([r] : List ResultVar).mapM (resRead tmps)).run P W = .ok [v] W := by
    rw [List.mapM_cons, Sem.run_bind, (show (resRead tmps r).run P W = .ok v W from hv), Result.andThen_ok, List.mapM_nil, Sem.run_bind]
    rfl
  rw [e, h, List.mapM_toArray, Sem.run_bind]
  have hm2 : (List.toArray <$> List.mapM (resRead tmps) [r]).run P W = .ok #[v] W := by
    have e2 : (List.toArray <$> List.mapM (resRead tmps) [r]) = (List.mapM (resRead tmps) [r]) >>= fun l => pure l.toArray := rfl
    rw [e2, Sem.run_bind, hm]
    rfl
  rw [hm2, Result.andThen_ok]
  rfl
set_option maxRecDepth 100000 in
set_option maxHeartbeats 1000000 in
theorem waiting_makes (p : Nat) (w : World) : Calls Try.prog 75 #[.pointer (some ⟨p, 0, none⟩)] w fun e w' => e = .returned (.func (.func 91) #[] #[.pointer (some ⟨w.heap.size, 0, none⟩)]) ∧ w' = w.alloc (.cells #[.pointer (some ⟨p, 0, none⟩)] 80) := by
  go_enter Try.func75, Try.ntmps75
  go_wp2
  go_ret
  exact ⟨rfl, rfl⟩
/-- What the range over all that wait keeps. -/
structure WaI (w : World) (t : Int) (O : Nat → Prop) (b : Bool) (W : World) : Prop where
  kept : Kept (w.heap.size ≤ ·) w W
  box : Cells W w.heap.size 3 [.int .i64 t]
  flag : Cells W (w.heap.size + 1) 4 [.bool b]
  off : ¬ O w.heap.size
  off2 : ¬ O (w.heap.size + 1)
theorem WaI.stab {w W W' : World} {t : Int} {O : Nat → Prop} {b : Bool} (h : WaI w t O b W) (hO : ∀ k, O k → w.heap.size ≤ k) (hk : Kept O W W') : WaI w t O b W' :=
  ⟨h.kept.trans (hk.mono (fun k _ h => hO k h)), h.box.kept hk h.off, h.flag.kept hk h.off2, h.off, h.off2⟩
theorem WaI.ext {w W : World} {t : Int} {O O' : Nat → Prop} {b : Bool} (h : WaI w t O b W) (hO : ∀ k, k < W.heap.size → O' k → O k) : WaI w t O' b W := ⟨h.kept, h.box, h.flag, fun ho => h.off (hO _ h.box.lt ho), fun ho => h.off2 (hO _ h.flag.lt ho)⟩

set_option maxRecDepth 100000 in
set_option maxHeartbeats 1000000 in
theorem waits_any {W : World} {T : Nat → Nat} {p : Nat} {S : SS} (h : SyAt W T p S) (t : Int) : Calls Try.prog 53 #[.pointer (some ⟨p, 0, none⟩), .int .i64 t] W fun e W' => e = .returned (.bool (S.cs.flatten.any (· == t))) ∧ Kept noX W W' := by
  have hpl := h.lt
  obtain ⟨Am, Ac, Aq, cm, cc, cq, curM, curC, curQ, ⟨hp, hTp⟩, ⟨hM, hC, hQ⟩, hos, hcs, hqs, hTl, hb1, hb2, hb3⟩ := h
  have c0 := hp.cell 0
  have cM := hp.cell 1
  have cC := hp.cell 2
  have cQ := hp.cell 3
  simp only [List.getElem?_cons_zero, List.getElem?_cons_succ] at c0 cM cC cQ
  obtain ⟨gc, hq⟩ : ∃ gc, ∀ i (h : i < S.cs.length), Ac = some ⟨gc, 0, none⟩ ∧ gc < W.heap.size ∧ ∃ A c, W.cell? ⟨gc, i, none⟩ = some (.slice A S.cs[i].length c) ∧ RowV W (W.heap.size ≤ ·) (.slice A S.cs[i].length c) (S.cs[i].map (D.int .i64)) ∧ S.cs[i].length ≤ 1000000000 := by
    rcases Nat.eq_zero_or_pos S.cs.length with h0 | h0
    · exact ⟨0, fun i hi => by omega⟩
    · obtain ⟨gc, hA, hMg, _⟩ := hC h0
      refine ⟨gc, fun i hi => ?_⟩
      obtain ⟨v, hv, hq⟩ := hcs i hi
      have hr := own_row (Z := (W.heap.size ≤ ·)) hq.1 (fun g hg h => by have := own_lt hq.1 hg; have h : W.heap.size ≤ g := h; omega)
      have hln := hq.2.2
      obtain ⟨A, c, rfl⟩ := hq.form
      exact ⟨hA, hMg.lt, A, c, by rw [hMg.cell i, hv], hr, hln⟩
  have HSEQ := Lib.hid (fun base B (hb : base ≤ B) w hB => waiting_seq (w0 := W) (b0 := W.heap.size) (p := p) (gc := gc) (cc := cc) (Ac := Ac) S.cs hb2 hpl cC hq base B hb w hB)
  generalize hfl : S.cs.flatten = fl at *
  clear hp hM hC hQ hos hcs hqs hTl c0 cM cC cQ hq hTp
  refine (Calls.mono (R := fun e W' => e = .returned (.bool (fl.any (· == t))) ∧ Kept (W.heap.size ≤ ·) W W') ?_ (fun e W' hh => ⟨hh.1, hh.2.mono (fun k hk h => by have h : W.heap.size ≤ k := h; omega)⟩))
  refine (callsIn_wide (n := 0)).1 (callsIn_of_wp_marks Try.func53 rfl trivial ?_ rfl)
  simp only [Try.ntmps53, List.size_toArray, List.length_cons, List.length_nil, Nat.reduceAdd, Nat.reduceSub, Array.replicate_succ, Array.replicate_zero, List.push_toArray, List.append_toArray, List.nil_append, List.cons_append]
  gi_wp2_with fail
  obtain ⟨w0, hw0⟩ : ∃ w0, w0 = (W.alloc (.cells #[.int .i64 t] 3)).alloc (.cells #[.bool false] 4) := ⟨_, rfl⟩
  have hz0 : w0.heap.size = W.heap.size + 2 := by rw [hw0]; simp
  have hk0 : Kept noX W w0 := by rw [hw0]; exact ((Kept.refl _ _).alloc _).alloc _
  have h0 : WaI W t (fun _ => False) false w0 := by
    refine ⟨hk0.any, ?_, ?_, fun h => h, fun h => h⟩
    · rw [hw0]; exact (Cells.fresh W 3 [.int .i64 t]).alloc _
    · rw [hw0]
      have := Cells.fresh (W.alloc (.cells #[.int .i64 t] 3)) 4 [.bool false]
      rw [World.size_alloc] at this
      exact this
  rw [← hw0]
  clear hw0
  refine ⟨trivial, rfl, ?_⟩
  refine (callsIn_wide.2 (waiting_makes p w0)).mono ?_
  rintro e W7 ⟨rfl, hW7⟩
  have hB7 : Cells W7 w0.heap.size 80 [.pointer (some ⟨p, 0, none⟩)] := by rw [hW7]; exact Cells.fresh w0 80 _
  have hk7 : Kept noX w0 W7 := by rw [hW7]; exact (Kept.refl _ _).alloc _
  have hs7 := hB7.lt
  clear hW7
  dsimp only
  gi_wp2_with fail
  refine wpIn_rangeD (gf := 91) (lb := #[.pointer (some ⟨w0.heap.size, 0, none⟩)]) rfl (enters_of Try.func91 (by kernel_rfl) rfl)
    (HSEQ.out w0.heap.size w0.heap.size (Nat.le_refl _) W7 hB7) (by omega) (Kept.refl _ _) (fun _ => rfl)
    (fun O pre W' => WaI W t O false W' ∧ pre.any (· == t) = false)
    (fun c O pre W' => c = .ret ∧ pre.any (· == t) = true ∧ WaI W t O true W')
    (fun O pre x a1 W' => (WaI W t O false W' ∧ pre.any (· == t) = false) ∧ (∀ k, O k → k < W'.heap.size) ∧ ∃ u0 u1 u2 u6 u7 u8 u9 u10 u11 : Value, a1 = { tmps := #[u0, u1, u2, .pointer (some ⟨W.heap.size, 0, none⟩), .pointer (some ⟨W.heap.size + 1, 0, none⟩), .int .i64 x, u6, u7, u8, u9, u10, u11], defers := [] })
    ?hIK ?hI ?hIe ?hIx ?hAx ?h0 ?hassign ?hbody ?hdone ?hstop
  case hIK => intro O pre W1 h; exact h.1.kept
  case hI => intro O pre W1 W2 hO h hk; exact ⟨h.1.stab (fun k hk => by have := hO k hk; omega) hk, h.2⟩
  case hIe => intro O O' pre W1 h hO; exact ⟨h.1.ext hO, h.2⟩
  case hIx =>
    rintro c O pre W1 W2 hO ⟨hc, h1, h4⟩ hk
    exact ⟨hc, h1, h4.stab (fun k hk => by have := hO k hk; omega) hk⟩
  case hAx =>
    rintro O pre x a1 W1 W2 hO ⟨h1, h2, hrest⟩ hk
    exact ⟨⟨h1.1.stab (fun k hk => by have := hO k hk; omega) hk, h1.2⟩, fun k ho => Nat.lt_of_lt_of_le (h2 k ho) hk.size, hrest⟩
  case h0 =>
    have hT2 := h0.stab (fun _ h => h.elim) (hk7.mono (fun _ _ h => h.elim))
    refine ⟨⟨hT2.kept, hT2.box, hT2.flag, fun ho => ?_, fun ho => ?_⟩, rfl⟩
    · omega
    · omega
  case hassign =>
    rintro lq O pre x Wq hO hOs hmq hwi
    simp only [encN]
    gi_wp2
    exact ⟨Kept.refl _ _, hwi, hOs, _, _, _, _, _, _, _, _, _, rfl⟩
  case hbody =>
    rintro lq O pre x a1 Wq hO hmq ⟨⟨hwi, hpre⟩, hOs, u0, u1, u2, u6, u7, u8, u9, u10, u11, rfl⟩
    have cb := hwi.box.cell 0
    have cf := hwi.flag.cell 0
    have ff := hwi.flag.free 0
    simp only [List.getElem?_cons_zero] at cb cf
    have HWI := Lib.hid hwi
    have HPRE := Lib.hid hpre
    clear hwi hpre hmq
    cases hxt : (x == t) with
    | true =>
      have HX := Lib.hid hxt
      gi_wp2
      have hkc : Kept (· = W.heap.size + 1) Wq (Wq.setCell ⟨W.heap.size + 1, 0, none⟩ (.bool true)) := (Kept.refl (· = W.heap.size + 1) Wq).setCell (p := ⟨W.heap.size + 1, 0, none⟩) (fun _ => rfl) _
      have hoff := HWI.out.off2
      refine ⟨hkc.mono (fun k _ h ho => hoff (by have h : k = W.heap.size + 1 := h; rwa [h] at ho)), rfl, ?_, ⟨HWI.out.kept.trans (hkc.mono (fun k _ h => by have h : k = W.heap.size + 1 := h; show _ ≤ _; omega)), HWI.out.box.kept hkc (by omega), HWI.out.flag.put 0 _, HWI.out.off, hoff⟩⟩
      rw [List.any_append, HPRE.out]
      simp [HX.out]
    | false =>
      have HX := Lib.hid hxt
      gi_wp2
      refine ⟨trivial, Kept.refl _ _, HWI.out, ?_⟩
      rw [List.any_append, HPRE.out]
      simp [HX.out]
  case hdone =>
    rintro D xs O W8 hD hO hOD hxs ⟨hT8, hall⟩ hDd
    obtain rfl : xs = fl := hxs
    have hDw : W.heap.size + 1 < D := by omega
    have cf := hT8.flag.cell 0
    have ff := hT8.flag.free 0
    simp only [List.getElem?_cons_zero] at cf
    have HT8 := Lib.hid hT8
    have HDd := Lib.hid hDd
    have HA := Lib.hid hall
    clear hT8 hDd hall
    gi_wp2
    have hkc : Kept (· = W.heap.size + 1) W8 (W8.setCell ⟨W.heap.size + 1, 0, none⟩ (.bool false)) := (Kept.refl (· = W.heap.size + 1) W8).setCell (p := ⟨W.heap.size + 1, 0, none⟩) (fun _ => rfl) _
    refine leave_marks [D] _ ((MarksAt.nil _).cons (hkc.heap HDd.out (fun h => by have h : D = W.heap.size + 1 := h; omega)) (by simp)) (fun W' hk' => ?_)
    have hne : ¬ W.heap.size + 1 ∈ [D] := fun hm => by
      obtain rfl := List.mem_singleton.1 hm
      omega
    have hF9 := HT8.out.flag.put 0 (.bool false)
    refine ⟨_, results_single Try.results53 (resVal.cell rfl (by have h := (hF9.kept hk' hne).cell 0; exact h) Try.underlying4 rfl), ?_, (HT8.out.kept.trans (hkc.mono (fun k _ h => by have h : k = W.heap.size + 1 := h; show _ ≤ _; omega))).trans (hk'.mono (fun k _ hk => by
      obtain rfl := List.mem_singleton.1 hk
      show _ ≤ _; omega))⟩
    rw [HA.out]
  case hstop =>
    rintro D c pre O W8 hD hO hOD hSp ⟨rfl, hbad, hT8⟩ hDd
    have hDw : W.heap.size + 1 < D := by omega
    have HM9 := Lib.hid ((MarksAt.nil W8).cons hDd (by simp))
    have HR : Hid (fl.any (· == t) = true) := Lib.hid (by
      obtain ⟨q, hq⟩ := hSp
      rw [← hq, List.any_append, hbad]
      rfl)
    have HT8 := Lib.hid hT8
    clear hT8 hDd hbad hSp
    gi_wp2
    refine leave_marks [D] W8 HM9.out (fun W' hk' => ?_)
    have hne : ¬ W.heap.size + 1 ∈ [D] := fun hm => by
      obtain rfl := List.mem_singleton.1 hm
      omega
    refine ⟨_, results_single Try.results53 (resVal.cell rfl (by have h := (HT8.out.flag.kept hk' hne).cell 0; exact h) Try.underlying4 rfl), ?_, HT8.out.kept.trans (hk'.mono (fun k _ hk => by
      obtain rfl := List.mem_singleton.1 hk
      show _ ≤ _; omega))⟩
    rw [HR.out]
end Go.Proofs.Ytehcfahfbdphpaa
