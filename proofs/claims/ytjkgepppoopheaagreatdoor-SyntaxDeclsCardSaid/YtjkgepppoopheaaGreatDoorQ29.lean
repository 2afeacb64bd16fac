/- The project's Check (conditions: the tables of shapes stand; names are of at most 10^6 bytes; at most 2^38 statements in each declaration). -/
import Derived.Test.YtjkgepppoopheaaGreatDoorAbb
import Derived.Test.YtjkgepppoopheaaGreatDoorQ27
import Derived.Test.YtjkgepppoopheaaGreatDoorQ28
set_option maxRecDepth 100000
set_option maxHeartbeats 1000000
namespace Go.Proofs.YtjkgepppoopheaaGreatDoor
open Go.RowKit Go.Shelf
attribute [local go_sem] Oper.semAt_some
theorem results_single {P : Program} {fn : Func} {tmps : Array Value} {W : World} {r : ResultVar} {v : Value} (h : fn.results = #[r]) (hv : resVal P W tmps r v) : (results fn tmps).run P W = .ok v W := by
 have e : results fn tmps = (fn.results.mapM (resRead tmps)) >>= fun vs => pure (if h : vs.size = 1 then vs[0] else .tuple vs) := by
  unfold results
  congr 1
 have hm : (([r] : List ResultVar).mapM (resRead tmps)).run P W = .ok [v] W := by
  rw [List.mapM_cons, Sem.run_bind, (show (resRead tmps r).run P W = .ok v W from hv), Result.andThen_ok, List.mapM_nil, Sem.run_bind]
  rfl
 rw [e, h, List.mapM_toArray, Sem.run_bind]
 have hm2 : (List.toArray <$> List.mapM (resRead tmps) [r]).run P W = .ok #[v] W := by
  have e2 : (List.toArray <$> List.mapM (resRead tmps) [r]) = (List.mapM (resRead tmps) [r]) >>= fun l => pure l.toArray := rfl
  rw [e2, Sem.run_bind, hm]
  rfl
 rw [hm2, Result.andThen_ok]
 rfl
theorem wpListIn_wanted {F : Fence} {n : Nat} {P : Program} {ops : Array Oper} {rest : List Oper} {o : Oper} {a : Act} {w : World} {Q : Exit → Act → World → Prop} (hw : Region.wanted o (yielded ops a.tmps) = true)
  (h : ∀ K : Act → World → Prop, (∀ a w, wpListIn F n P ops Q rest a w → K a w) → o.wpIn F n P a w K Q) : wpListIn F n P ops Q (o :: rest) a w := by
 unfold wpListIn
 rw [if_pos hw]
 exact h _ (fun _ _ h => h)
theorem wpListIn_load_cellsW {P : Program} {F : Fence} {n : Nat} {ops : Array Oper} {rest : List Oper} {o : Oper} {a : Act} {w : World} {Q : Exit → Act → World → Prop} (hw : Region.wanted o (yielded ops a.tmps) = true) (ty : TypeId) (x : Operand) (ho : o.op = .load ty x)
  (g : Nat) (hx : a.eval x = .pointer (some ⟨g, 0, none⟩)) (d : TypeDesc) (hu : P.underlying ty = some d) (hd : aggB d = true)
  {t : TypeId} {cs : List Value} (hc : Cells w g t cs) (hi : (P.info? ty).map (·.size) = some cs.length)
  (h : wpListIn F n P ops Q rest (a.put o.dst (.agg cs.toArray)) w) : wpListIn F n P ops Q (o :: rest) a w := by
 refine wpListIn_wanted hw fun K hK => ?_
 unfold Oper.wpIn
 refine ⟨by simp [Oper.about, ho], ?_⟩
 rw [Oper.semAt_plain F _ _ (by rw [ho]; intro c hc'; cases hc')]
 unfold execOp
 simp only [ho, hx, Instr.loadAt, Instr.sureAddr, Sem.run_bind, Sem.run_pure, Result.andThen_ok, run_loadVar_part w g 0 ty cs d hc.all hu hd hi]
 exact hK _ _ h
def okP (p : Nat × ST) : Bool := decide (p.1 ≤ 24) && mayStP p.2
theorem mayBlock_all {l : List ST} {xs : List (Nat × ST)} (h : xs = seqL 1 l) (ha : ∀ y ∈ xs, okP y = true) : mayBlockP l = true := by
 subst h
 exact List.all_eq_true.2 ha
theorem mayBlock_some {l : List ST} {m : List (Nat × ST)} {x : Nat × ST} (hx : okP x = false) (hp : m ++ [x] <+: seqL 1 l) : mayBlockP l = false := by
 obtain ⟨t, ht⟩ := hp
 unfold mayBlockP
 rw [← ht, List.all_eq_false]
 exact ⟨x, by simp, by rw [show (decide (x.1 ≤ 24) && mayStP x.2) = okP x from rfl, hx]; simp⟩
structure BkI (w : World) (O : Nat → Prop) (b : Bool) (W : World) : Prop where
 kept : Kept (w.heap.size ≤ ·) w W
 flag : Cells W w.heap.size 4 [.bool b]
 off : ¬ O w.heap.size
theorem BkI.stab {w W W' : World} {O : Nat → Prop} {b : Bool} (h : BkI w O b W) (hO : ∀ k, O k → w.heap.size ≤ k) (hk : Kept O W W') : BkI w O b W' :=
 ⟨h.kept.trans (hk.mono (fun k _ h => hO k h)), h.flag.kept hk h.off, h.off⟩
theorem BkI.ext {w W : World} {O O' : Nat → Prop} {b : Bool} (h : BkI w O b W) (hO : ∀ k, k < W.heap.size → O' k → O k) : BkI w O' b W := ⟨h.kept, h.flag, fun ho => h.off (hO _ h.flag.lt ho)⟩
theorem mayBlock_any {l : List ST} {v : Value} {w : World} (hv : RowV w noX v (ST.ds l)) (hT : ExprsAt w) (hTS : StmtsAt w) (hsz : szL l ≤ 274877906944) (hsm : ∀ p ∈ seqL 1 l, smS p.2 = true) :
  Calls Tryz.prog 97 #[v] w fun e w' => e = .returned (.bool (mayBlockP l)) ∧ Kept (w.heap.size ≤ ·) w w' := by
 obtain ⟨A, n, c, rfl, hn, hnc, hcm⟩ := hv.form
 have HVB := aP (show RowV w (w.heap.size ≤ ·) (.slice A n c) (ST.ds l) from hv.mono (fun g hg h => by have h : w.heap.size ≤ g := h; omega))
 have HT := aP hT
 have HTS := aP hTS
 have HSM := aP hsm
 clear hv hT hTS hsm hn
 refine (callsIn_wide (n := 0)).1 (callsIn_of_wp_marks Tryz.func97 rfl trivial ?_ rfl)
 simp only [Tryz.ntmps97, List.size_toArray, List.length_cons, List.length_nil, Nat.reduceAdd, Nat.reduceSub, Array.replicate_succ, Array.replicate_zero, List.push_toArray, List.append_toArray, List.nil_append, List.cons_append]
 gi_wp2_with fail
 obtain ⟨w0, hw0⟩ : ∃ w0, w0 = w.alloc (.cells #[.bool false] 4) := ⟨_, rfl⟩
 have h0 : BkI w (fun _ => False) false w0 := by
  rw [hw0]
  exact ⟨(Kept.refl _ _).alloc _, Cells.fresh w 4 [.bool false], fun h => h⟩
 have hk0 : Kept noX w w0 := by rw [hw0]; exact (Kept.refl _ _).alloc _
 have hz0 : w0.heap.size = w.heap.size + 1 := by rw [hw0]; simp
 rw [← hw0]
 clear hw0
 refine ⟨trivial, rfl, ?_⟩
 refine (callsIn_wide.2 (within_makes A n c 1 w0)).mono ?_
 rintro e W7 ⟨rfl, hT7, hD7, hk7⟩
 dsimp only
 have hs7 := hD7.lt
 gi_wp2_with fail
 refine wpIn_rangeD (gf := 118) (lb := #[.pointer (some ⟨w0.heap.size, 0, none⟩), .pointer (some ⟨w0.heap.size + 1, 0, none⟩)]) rfl (enters_of Tryz.func118 krf rfl)
  (within_seq (w0 := w) (base0 := w.heap.size) (szL l + 1) l 1 A n c (Nat.lt_succ_self _) HVB.out kom w0.heap.size w0.heap.size W7 kom (Nat.le_refl _) hT7 hD7) kom (Kept.refl _ _) (fun _ => rfl)
  (fun O pre W => BkI w O false W ∧ ∀ x ∈ pre, okP x.1 = true)
  (fun c O pre W => c = .ret ∧ ∃ x pre', pre = pre' ++ [x] ∧ okP x.1 = false ∧ BkI w O false W)
  (fun O pre x a1 W => (BkI w O false W ∧ ∀ x ∈ pre, okP x.1 = true) ∧ (∀ k, O k → k < W.heap.size) ∧ ∃ B9, Cells W B9 63 x.2 ∧ ¬ O B9 ∧ w.heap.size < B9 ∧ ∃ u1 u5 u6 u7 u8 u9 u10 u11 u12 u13 u14 u15 : Value, a1 = { tmps := #[.slice A n c, u1, .pointer (some ⟨w.heap.size, 0, none⟩), .int .i64 (x.1.1 : Nat), .pointer (some ⟨B9, 0, none⟩), u5, u6, u7, u8, u9, u10, u11, u12, u13, u14, u15], defers := [] })
  ?hIK ?hI ?hIe ?hIx ?hAx ?h0 ?hassign ?hbody ?hdone ?hstop
 case hIK => intro O pre W1 h; exact h.1.kept
 case hI => intro O pre W1 W2 hO h hk; exact ⟨h.1.stab (fun k hk => by have := hO k hk; omega) hk, h.2⟩
 case hIe => intro O O' pre W1 h hO; exact ⟨h.1.ext hO, h.2⟩
 case hIx =>
  rintro c O pre W1 W2 hO ⟨hc, x, pre', h1, h3, h4⟩ hk
  exact ⟨hc, x, pre', h1, h3, h4.stab (fun k hk => by have := hO k hk; omega) hk⟩
 case hAx => exact k_12
 case h0 =>
  have hT2 := h0.stab (fun _ h => h.elim) hk7
  refine ⟨⟨hT2.kept, hT2.flag, fun ho => ?_⟩, fun _ h => by cases h⟩
  omega
 case hassign =>
  rintro lq O pre x Wq hO hOs hmq hwi
  have HLx := aP hmq.1.len
  have HOx := aP (Rep.one hmq.1)
  have hwq : w.heap.size < Wq.heap.size := hwi.1.flag.lt
  simp only [encS]
  rw [zip2]
  simp only [List.setIfInBounds_toArray, List.set_cons_zero, List.set_cons_succ]
  gi_wp2_with (first
    | ((with_reducible show wpListIn _ _ _ _ _ (Oper.mk none (Op.store _ _ _) _ _ _ _ :: _) _ _); refine wpListIn_store_part rfl rfl 63 (.tmp 4) (.tmp 8) rfl (Wq.heap.size) 0 rfl x.2 rfl (Cells.fresh Wq 63 zeroSt) (by rw [HLx.out]; exact Nat.le_of_ble_eq_true rfl) (by rw [HLx.out]; kernel_rfl) HOx.out ?_; intro W8 hB8 hk8
       have hB8 : Cells W8 Wq.heap.size 63 x.2 := by exact k_14
       have HB8 := aP hB8
       clear hB8))
  have hkq : Kept noX Wq W8 := ((Kept.refl noX Wq).alloc _).own hk8 (Nat.le_refl _)
  refine ⟨hkq, ⟨hwi.1.stab (fun k hk => by have := hO k hk; omega) hkq.any, hwi.2⟩, fun k ho => Nat.lt_of_lt_of_le (hOs k ho) hkq.size, Wq.heap.size, HB8.out, fun ho => Nat.lt_irrefl _ (hOs _ ho), hwq, _, _, _, _, _, _, _, _, _, _, _, _, rfl⟩
 case hbody =>
  rintro lq O pre ⟨⟨dep, s⟩, xcs⟩ a1 Wq hO hmq ⟨⟨hwi, hpre⟩, hOs, B9, hB9, hnB9, hwB9, u1, u5, u6, u7, u8, u9, u10, u11, u12, u13, u14, u15, rfl⟩
  dsimp only at hmq hB9 ⊢
  have hsv : SV w (w.heap.size ≤ ·) xcs s := hmq.1
  have hmem := hmq.2
  obtain ⟨k', n', o', vb', vl', i', sl', ot', lo', e0, e1, e2, e3, e4, e5, e6, x0, x1, x2, x3, x4, x5, x6, rfl, hex', hix'⟩ := hsv.form25
  have hkq : Kept noX w Wq := (Kept.refl noX w).join hwi.kept (fun i hi hlt => by have hi : w.heap.size ≤ i := hi; omega)
  have HS := aP (hsv.kept hwi.kept (fun _ _ h => h)).any
  have HM := aP (fun W (hk : Kept noX Wq W) => mayStmt_any s _ W (HS.out.keep hk) (HT.out.keep (hkq.trans hk)) (HTS.out.keep (hkq.trans hk)) (HSM.out (dep, s) (by
    refine hmem.subset ?_
    simp)))
  have HWI := aP hwi
  have hb9 := hB9.lt
  have HB9 := aP hB9
  clear hB9 hmq hsv hex' hix' hwi hmem
  by_cases hq : 24 < dep
  ·have hdg : decide ((24 : Int) < (dep : Int)) = true := by simp; omega
   have HBAD : Hid (okP (dep, s) = false) := aP (by unfold okP; rw [decide_eq_false (by simpa using hq)] <;> rfl)
   gi_wp2_with fail
   refine ⟨trivial, ?_⟩
   gi_wp2_with ((with_reducible show wpListIn _ _ _ _ _ (Oper.mk none (Op.store _ _ _) _ _ _ _ :: _) _ _); refine wpListIn_store_part rfl rfl 4 (.tmp 2) (.const (.bool false)) rfl (w.heap.size) 0 rfl [.bool false] rfl HWI.out.flag kle krf k1c ?_; intro W9 hF9 hk9)
   simp only [List.take_zero, List.nil_append, List.length_cons, List.length_nil, Nat.zero_add, List.drop_succ_cons, List.append_nil, List.drop_nil] at hF9
   have hoff := HWI.out.off
   exact ⟨hk9.mono (fun k _ h ho => hoff (by have h : k = w.heap.size := h; rwa [h] at ho)), rfl, _, pre, rfl, HBAD.out, ⟨HWI.out.kept.trans (hk9.mono (fun k _ h => by have h : k = w.heap.size := h; show _ ≤ _; omega)), hF9, hoff⟩⟩
  ·have hdg : decide ((24 : Int) < (dep : Int)) = false := by simp; omega
   gi_wp2_with ((with_reducible show wpListIn _ _ _ _ _ (Oper.mk _ (Op.load _ _) _ _ _ _ :: _) _ _); refine wpListIn_load_cellsW rfl 63 (.tmp 4) rfl B9 rfl _ Tryz.underlying63 rfl HB9.out krf ?_)
   refine ⟨trivial, rfl, ?_⟩
   refine ((callsIn_wide.2 (HM.out Wq (Kept.refl _ _))).inRound lq).mono ?_
   rintro e W6 ⟨rfl, hk6⟩
   cases hq2 : mayStP s with
   | false =>
    have HBAD : Hid (okP (dep, s) = false) := aP (by unfold okP; rw [show mayStP (dep, s).2 = false from hq2]; simp)
    have HWJ := aP (HWI.out.stab (fun k hk => by have := hO k hk; omega) hk6.any)
    clear hq2
    gi_wp2_with ((with_reducible show wpListIn _ _ _ _ _ (Oper.mk none (Op.store _ _ _) _ _ _ _ :: _) _ _); refine wpListIn_store_part rfl rfl 4 (.tmp 2) (.const (.bool false)) rfl (w.heap.size) 0 rfl [.bool false] rfl HWJ.out.flag kle krf k1c ?_; intro W9 hF9 hk9)
    simp only [List.take_zero, List.nil_append, List.length_cons, List.length_nil, Nat.zero_add, List.drop_succ_cons, List.append_nil, List.drop_nil] at hF9
    have hoff := HWI.out.off
    exact ⟨(hk6.any).trans (hk9.mono (fun k _ h ho => hoff (by have h : k = w.heap.size := h; rwa [h] at ho))), rfl, _, pre, rfl, HBAD.out, ⟨HWJ.out.kept.trans (hk9.mono (fun k _ h => by have h : k = w.heap.size := h; show _ ≤ _; omega)), hF9, hoff⟩⟩
   | true =>
    have HOK : Hid (okP (dep, s) = true) := aP (by unfold okP; rw [show mayStP (dep, s).2 = true from hq2, Bool.and_true]; exact decide_eq_true (by simpa using hq))
    clear hq2
    gi_wp2
    refine ⟨trivial, hk6.any, HWI.out.stab (fun k hk => by have := hO k hk; omega) hk6.any, fun y hy => ?_⟩
    rcases List.mem_append.1 hy with hy | hy
    ·exact hpre y hy
    ·obtain rfl := List.mem_singleton.1 hy
     exact HOK.out
 case hdone =>
  rintro D xs O W8 hD hO hOD hxs ⟨hT8, hall⟩ hDd
  have hDw : w.heap.size < D := by have := hk7.size; omega
  have HT8 := aP hT8
  have HDd := aP hDd
  have HR := aP (mayBlock_all (l := l) (show xs.map (·.1) = seqL 1 l from hxs) (fun y hy => by
    obtain ⟨z, hz, rfl⟩ := List.mem_map.1 hy
    exact hall z hz))
  clear hT8 hDd hall hxs
  gi_wp2_with ((with_reducible show wpListIn _ _ _ _ _ (Oper.mk none (Op.store _ _ _) _ _ _ _ :: _) _ _); refine wpListIn_store_part rfl rfl 4 (.tmp 2) (.const (.bool true)) rfl (w.heap.size) 0 rfl [.bool true] rfl HT8.out.flag kle krf k1c ?_; intro W9 hF9 hk9)
  simp only [List.take_zero, List.nil_append, List.length_cons, List.length_nil, Nat.zero_add, List.drop_succ_cons, List.append_nil, List.drop_nil] at hF9
  refine leave_marks [D] W9 ((MarksAt.nil W9).cons (hk9.heap HDd.out (fun h => by have h : D = w.heap.size := h; omega)) (by simp)) (fun W' hk' => ?_)
  have hne : ¬ w.heap.size ∈ [D] := fun hm => by
   obtain rfl := List.mem_singleton.1 hm
   omega
  refine ⟨_, results_single Tryz.results97 (resVal.cell rfl (by have h := (hF9.kept hk' hne).cell 0; exact h) Tryz.underlying4 rfl), ?_, (HT8.out.kept.trans (hk9.mono (fun k _ h => by have h : k = w.heap.size := h; show _ ≤ _; omega))).trans (hk'.mono (fun k _ hk => by
    obtain rfl := List.mem_singleton.1 hk
    show _ ≤ _; omega))⟩
  rw [HR.out]
 case hstop =>
  rintro D c pre O W8 hD hO hOD hSp ⟨rfl, x, pre', rfl, hbad, hT8⟩ hDd
  have hDw : w.heap.size < D := by have := hk7.size; omega
  have HR := aP (mayBlock_some (l := l) hbad (m := pre'.map (·.1)) (by
    have hp : (pre' ++ [x]).map (·.1) <+: seqL 1 l := hSp
    rwa [List.map_append] at hp))
  have HM9 := aP ((MarksAt.nil W8).cons hDd (by simp))
  have HT8 := aP hT8
  clear hT8 hDd hbad hSp
  gi_wp2
  refine leave_marks [D] W8 HM9.out (fun W' hk' => ?_)
  have hne : ¬ w.heap.size ∈ [D] := fun hm => by
   obtain rfl := List.mem_singleton.1 hm
   omega
  refine ⟨_, results_single Tryz.results97 (resVal.cell rfl (by have h := (HT8.out.flag.kept hk' hne).cell 0; exact h) Tryz.underlying4 rfl), ?_, HT8.out.kept.trans (hk'.mono (fun k _ hk => by
    obtain rfl := List.mem_singleton.1 hk
    show _ ≤ _; omega))⟩
  rw [HR.out]
end Go.Proofs.YtjkgepppoopheaaGreatDoor
namespace Go.Proofs.YtjkgepppoopheaaGreatDoor
open Go.RowKit Go.Shelf
theorem Kept.older {w W : World} (h : Kept (w.heap.size ≤ ·) w W) : Kept noX w W := (Kept.refl noX w).join h (fun i hi hlt => by have hi : w.heap.size ≤ i := hi; omega)
def smD (d : DT) : Bool := decide (d.name.size ≤ 9223372036854775807) && decide (szL d.body ≤ 274877906944) && (seqL 1 d.body).all fun p => smS p.2
theorem mayDecl_any (d : DT) (cs : List Value) (w : World) (h : DV w noX cs d) (hT : ExprsAt w) (hTS : StmtsAt w) (hsm : smD d = true) : Calls Tryz.prog 49 #[.agg cs.toArray] w (Says w (mayDT d)) := by
 obtain ⟨q, li, co, s, m, l⟩ := d
 obtain ⟨v, rfl, hv⟩ := DV.iff.1 h
 obtain ⟨A, n, c, rfl, hn, hnc, hcm⟩ := hv.form
 rw [ST.ds_length] at hn
 simp only [smD, Bool.and_eq_true, List.all_eq_true] at hsm
 have hs := of_decide_eq_true hsm.1.1
 have hsz := of_decide_eq_true hsm.1.2
 have hss := hsm.2
 dsimp only at hs hsz hss hn
 have HM : Hid (mayDT ⟨q, li, co, s, m, l⟩ = (nameIs s.data.toList && (if q = 1 then decide (-2147483647 ≤ m) && decide (m ≤ 2147483647) && decide (n = 0)
  else if q = 2 ∨ q = 5 then decide (0 ≤ m) && decide (m ≤ 2147483647) && decide (n = 0)
  else if q = 3 ∨ q = 4 then decide (0 ≤ m) && decide (m ≤ 0) && decide (n = 0)
  else if q = 6 then (m == 0) && mayBlockP l
  else false))) := aP (by rw [mayDT, hn, int_beq0])
 obtain ⟨E, hE⟩ : ∃ E, E = mayDT ⟨q, li, co, s, m, l⟩ := ⟨_, rfl⟩
 rw [← hE] at HM ⊢
 clear hE hsm hn
 have HN := aP (name_any s hs)
 have HBL := aP (fun W (hk : Kept noX w W) => (mayBlock_any (hv.keep hk) (hT.keep hk) (hTS.keep hk) hsz hss))
 unfold maxLen at hcm
 clear h hv hT hTS hss hs hsz
 have HE0 := aP (Cells.fresh w 54 [.int .i64 q, .int .i64 li, .int .i64 co, .string s, .int .i64 m, .slice A n c])
 have hk0 : Kept noX w (w.alloc (.cells #[.int .i64 q, .int .i64 li, .int .i64 co, .string s, .int .i64 m, .slice A n c] 54)) := (Kept.refl _ _).alloc _
 have HK0 := aP hk0
 clear hk0
 go_enter Tryz.func49, Tryz.ntmps49
 go_wp2_with fail
 refine (HN.out _).mono ?_
 rintro e W1 ⟨rfl, hk1⟩
 have hkw := HK0.out.trans hk1
 have HE1 := aP (HE0.out.keep hk1)
 have p0 := HE1.out.cell 0; have p4 := HE1.out.cell 4; have p5 := HE1.out.cell 5
 simp only [aZ, aS] at p0 p4 p5
 cases hnm : nameIs s.data.toList with
 | false =>
  have HM2 : Hid (E = false) := aP (by rw [HM.out, hnm] <;> rfl)
  clear hnm
  go_wp2
  go_ret
  exact ⟨by rw [HM2.out] <;> rfl, hkw⟩
 | true =>
 have HM2 := aP (HM.out.trans (by rw [hnm, Bool.true_and]))
 clear hnm HM HN HE0 HK0
 by_cases hq1 : q = 1
 ·subst hq1
  have HM3 := aP (HM2.out.trans (if_pos rfl))
  cases hx : decide (-2147483647 ≤ m) <;> cases hy : decide (m ≤ 2147483647) <;> by_cases hz : n = 0
  all_goals
   have HM4 := HM3.out
   rw [hx, hy] at HM4
   first
    | (rw [decide_eq_true hz] at HM4
       have hz1 : ((n : Int) == 0) = true := by simp [hz]
       have hz2 : (n == 0) = true := by simp [hz]
       have hz3 : decide (n = 0) = true := by simp [hz])
    | (rw [decide_eq_false hz] at HM4
       have hz1 : ((n : Int) == 0) = false := by simp [hz]
       have hz2 : (n == 0) = false := by simp [hz]
       have hz3 : decide (n = 0) = false := by simp [hz])
   clear hz
   have HM5 := aP HM4
   clear HM4
   go_wp2
   go_ret
   exact ⟨by rw [HM5.out] <;> rfl, hkw⟩
 by_cases hq2 : q = 2
 ·subst hq2
  have HM3 := aP (HM2.out.trans ((if_neg (by decide)).trans (if_pos (by decide))))
  cases hx : decide (0 ≤ m) <;> cases hy : decide (m ≤ 2147483647) <;> by_cases hz : n = 0
  all_goals
   have HM4 := HM3.out
   rw [hx, hy] at HM4
   first
    | (rw [decide_eq_true hz] at HM4
       have hz1 : ((n : Int) == 0) = true := by simp [hz]
       have hz2 : (n == 0) = true := by simp [hz]
       have hz3 : decide (n = 0) = true := by simp [hz])
    | (rw [decide_eq_false hz] at HM4
       have hz1 : ((n : Int) == 0) = false := by simp [hz]
       have hz2 : (n == 0) = false := by simp [hz]
       have hz3 : decide (n = 0) = false := by simp [hz])
   clear hz
   have HM5 := aP HM4
   clear HM4
   go_wp2
   go_ret
   exact ⟨by rw [HM5.out] <;> rfl, hkw⟩
 by_cases hq5 : q = 5
 ·subst hq5
  have HM3 := aP (HM2.out.trans ((if_neg (by decide)).trans (if_pos (by decide))))
  cases hx : decide (0 ≤ m) <;> cases hy : decide (m ≤ 2147483647) <;> by_cases hz : n = 0
  all_goals
   have HM4 := HM3.out
   rw [hx, hy] at HM4
   first
    | (rw [decide_eq_true hz] at HM4
       have hz1 : ((n : Int) == 0) = true := by simp [hz]
       have hz2 : (n == 0) = true := by simp [hz]
       have hz3 : decide (n = 0) = true := by simp [hz])
    | (rw [decide_eq_false hz] at HM4
       have hz1 : ((n : Int) == 0) = false := by simp [hz]
       have hz2 : (n == 0) = false := by simp [hz]
       have hz3 : decide (n = 0) = false := by simp [hz])
   clear hz
   have HM5 := aP HM4
   clear HM4
   go_wp2
   go_ret
   exact ⟨by rw [HM5.out] <;> rfl, hkw⟩
 by_cases hq3 : q = 3
 ·subst hq3
  have HM3 := aP (HM2.out.trans ((if_neg (by decide)).trans ((if_neg (by decide)).trans (if_pos (by decide)))))
  cases hx : decide (0 ≤ m) <;> cases hy : decide (m ≤ 0) <;> by_cases hz : n = 0
  all_goals
   have HM4 := HM3.out
   rw [hx, hy] at HM4
   first
    | (rw [decide_eq_true hz] at HM4
       have hz1 : ((n : Int) == 0) = true := by simp [hz]
       have hz2 : (n == 0) = true := by simp [hz]
       have hz3 : decide (n = 0) = true := by simp [hz])
    | (rw [decide_eq_false hz] at HM4
       have hz1 : ((n : Int) == 0) = false := by simp [hz]
       have hz2 : (n == 0) = false := by simp [hz]
       have hz3 : decide (n = 0) = false := by simp [hz])
   clear hz
   have HM5 := aP HM4
   clear HM4
   go_wp2
   go_ret
   exact ⟨by rw [HM5.out] <;> rfl, hkw⟩
 by_cases hq4 : q = 4
 ·subst hq4
  have HM3 := aP (HM2.out.trans ((if_neg (by decide)).trans ((if_neg (by decide)).trans (if_pos (by decide)))))
  cases hx : decide (0 ≤ m) <;> cases hy : decide (m ≤ 0) <;> by_cases hz : n = 0
  all_goals
   have HM4 := HM3.out
   rw [hx, hy] at HM4
   first
    | (rw [decide_eq_true hz] at HM4
       have hz1 : ((n : Int) == 0) = true := by simp [hz]
       have hz2 : (n == 0) = true := by simp [hz]
       have hz3 : decide (n = 0) = true := by simp [hz])
    | (rw [decide_eq_false hz] at HM4
       have hz1 : ((n : Int) == 0) = false := by simp [hz]
       have hz2 : (n == 0) = false := by simp [hz]
       have hz3 : decide (n = 0) = false := by simp [hz])
   clear hz
   have HM5 := aP HM4
   clear HM4
   go_wp2
   go_ret
   exact ⟨by rw [HM5.out] <;> rfl, hkw⟩
 by_cases hq6 : q = 6
 ·subst hq6
  have HM3 := aP (HM2.out.trans ((if_neg (by decide)).trans ((if_neg (by decide)).trans ((if_neg (by decide)).trans (if_pos (by decide))))))
  cases hx : (m == 0) with
  | false =>
   have HM4 := aP (HM3.out.trans (by rw [hx, Bool.false_and]))
   go_wp2
   go_ret
   exact ⟨by rw [HM4.out] <;> rfl, hkw⟩
  | true =>
   have HM4 := aP (HM3.out.trans (by rw [hx, Bool.true_and]))
   go_wp2_with fail
   refine (HBL.out W1 hkw).mono ?_
   rintro e W2 ⟨rfl, hk2⟩
   go_wp2
   go_ret
   exact ⟨by rw [HM4.out] <;> rfl, hkw.trans hk2.older⟩
 have e1 : (q == 1) = false := by simpa using hq1
 have e2 : (q == 2) = false := by simpa using hq2
 have e3 : (q == 3) = false := by simpa using hq3
 have e4 : (q == 4) = false := by simpa using hq4
 have e5 : (q == 5) = false := by simpa using hq5
 have e6 : (q == 6) = false := by simpa using hq6
 have HM3 : Hid (E = false) := aP (HM2.out.trans (by rw [if_neg hq1, if_neg kom, if_neg kom, if_neg hq6]))
 clear hq1 hq2 hq3 hq4 hq5 hq6
 go_wp2
 go_ret
 exact ⟨by rw [HM3.out] <;> rfl, hkw⟩
def checkP (ds : List DT) : Int := if ds.all mayDT then 0 else 2
theorem check_any {ds : List DT} {v : Value} {w : World} (hv : RowV w noX v (ds.map DT.d)) (hT : ExprsAt w) (hTS : StmtsAt w) (hsm : ∀ d ∈ ds, smD d = true) :
  Calls Tryz.prog 23 #[v] w fun e w' => e = .returned (.int .i64 (checkP ds)) ∧ Kept noX w w' := by
 obtain ⟨A, n, c, rfl, hn, hnc, hcm⟩ := hv.form
 rw [List.length_map] at hn
 subst hn
 unfold maxLen at hcm
 have HV := aP hv
 have HT := aP hT
 have HTS := aP hTS
 have HSM := aP hsm
 clear hv hT hTS hsm
 go_enter Tryz.func23, Tryz.ntmps23
 go_wp2
 go_loopw [7] (fun i wr => ∃ k : Nat, k ≤ ds.length ∧ i = .int .i64 k ∧ (ds.take k).all mayDT = true ∧ Kept noX w wr) (fun i _ => ds.length - (intOf i).toNat)
 case atStart => exact ⟨0, Nat.zero_le _, rfl, rfl, Kept.refl _ _⟩
 case round =>
  obtain ⟨k, hk, rfl, hf, hkr⟩ := hrel
  by_cases hlt : k < ds.length
  ·have hdl : decide ((k : Int) < (ds.length : Int)) = true := by simpa using hlt
   have hvr := HV.out.keep hkr
   obtain ⟨g, o', c2, size, cs, hveq, hcl, hrep, hcell⟩ := hvr.at_ (i := k) (by simpa using hlt)
   rw [List.getElem_map] at hrep
   have hdv : DV wr noX cs ds[k] := hrep
   have hlen := hdv.len
   rw [hlen] at hcl
   subst hcl
   injection hveq with hA hlen2 hc2
   subst hA hc2
   clear hlen2
   have hcr : ∀ j u, cs[j]? = some u → wr.cell? ⟨g, (o' + k * 6) + j, none⟩ = some u := fun j u hu => by
    have hj : j < 6 := by rw [← hlen]; exact (List.getElem?_eq_some_iff.1 hu).1
    rw [Nat.add_assoc, hcell j hj, hu]
   have HCR := aP hcr
   have HL := aP hlen
   have HDV := aP hdv
   have HO := aP (Rep.one hdv)
   have HF := aP (all_take (f := mayDT) hlt)
   have HF0 := aP hf
   clear hcell hcr hlen hrep hdv hvr hf
   go_wp2_with (first
     | ((with_reducible refine atl ?_); refine wpList_load_part rfl 54 (.tmp 9) rfl g (o' + k * 6) rfl _ Tryz.underlying54 rfl cs (by rw [HL.out]; kernel_rfl) HCR.out ?_)
     | ((with_reducible refine ats ?_); refine wpList_store_part rfl rfl 54 (.tmp 4) (.tmp 10) rfl (wr.heap.size) 0 rfl cs rfl (Cells.fresh wr 54 zeroD) (by rw [HL.out]; exact Nat.le_of_ble_eq_true rfl) (by rw [HL.out]; kernel_rfl) HO.out ?_; intro W9 hB9 hk9a
        have hB9 : Cells W9 wr.heap.size 54 cs := by
          rw [HL.out, show zeroD.take 0 ++ cs ++ zeroD.drop (0 + 6) = cs from by simp [zeroD]] at hB9
          exact hB9
        have hk9 : Kept noX wr W9 := ((Kept.refl noX wr).alloc _).own hk9a (Nat.le_refl _)
        have HB9 := aP hB9
        clear hB9 hk9a)
     | ((with_reducible refine atl ?_); refine wpList_load_cells rfl 54 (.tmp 4) rfl (wr.heap.size) rfl _ Tryz.underlying54 rfl HB9.out (by rw [HL.out]; kernel_rfl) ?_))
   refine (mayDecl_any ds[k] cs W9 (HDV.out.keep hk9) (HT.out.keep (hkr.trans hk9)) (HTS.out.keep (hkr.trans hk9)) (HSM.out _ (List.getElem_mem hlt))).mono ?_
   rintro e W10 ⟨rfl, hk10⟩
   cases hq : mayDT ds[k] with
   | false =>
    have HQ := aP hq
    clear hq
    go_wp2
    go_ret
    refine ⟨?_, (hkr.trans hk9).trans hk10⟩
    have : ds.all mayDT = false := by
     rw [List.all_eq_false]
     exact ⟨ds[k], List.getElem_mem hlt, by rw [HQ.out]; simp⟩
    rw [checkP, this] <;> rfl
   | true =>
    have HQ := aP hq
    clear hq
    go_wp2
    go_roundw
    case rel => exact ⟨k + 1, by omega, by go_num, by rw [HF.out, HF0.out, HQ.out] <;> rfl, (hkr.trans hk9).trans hk10⟩
    case measure => simp [intOf]; omega
  ·have hdl : decide ((k : Int) < (ds.length : Int)) = false := by simpa using hlt
   have hk2 : k = ds.length := by omega
   have HF0 := aP hf
   clear hf
   go_wp2
   go_ret
   refine ⟨?_, hkr⟩
   have := HF0.out
   rw [hk2, List.take_length] at this
   rw [checkP, this] <;> rfl
end Go.Proofs.YtjkgepppoopheaaGreatDoor
