/- The project's search for the first statement that is too deep (conditions: at most 2^38 statements). -/
import Derived.Test.YtjkgepppoopheaaGreatDoorAbb
import Derived.Test.YtjkgepppoopheaaGreatDoorQ6
import Derived.Test.YtjkgepppoopheaaGreatDoorQ18
import Derived.Test.YtjkgepppoopheaaGreatDoorQ16
set_option maxRecDepth 100000
set_option maxHeartbeats 1000000
namespace Go.Proofs.YtjkgepppoopheaaGreatDoor
open Go.RowKit Go.Shelf
def deepE : Nat → ET → Bool
 | 0, _ => true
 | d + 1, .node _ _ _ _ _ _ l => l.any (deepE d)
theorem any_take {α : Type} {f : α → Bool} {l : List α} {k : Nat} (hk : k < l.length) : (l.take (k + 1)).any f = ((l.take k).any f || f l[k]) := by
 rw [List.take_succ_eq_append_getElem hk, List.any_append]; simp
theorem deeper_any : ∀ (d : Nat), d ≤ 1000 → ∀ (e : ET) (cs : List Value) (w : World), EV w noX cs e → Calls Tryz.prog 79 #[.agg cs.toArray, .int .i64 (d : Nat)] w fun o w' => o = .returned (.bool (deepE d e)) ∧ Kept noX w w' := by
 intro d
 induction d with
 | zero =>
  intro _ e cs w h
  obtain ⟨k, m, s, sl, lo, o, A, N, C, rfl⟩ := h.form
  clear h
  go_enter Tryz.func79, Tryz.ntmps79
  go_wp2
  go_ret
  exact ⟨by rw [deepE] <;> rfl, (Kept.refl _ _).alloc _⟩
 | succ d ih =>
  intro hd e cs w h
  obtain ⟨q, m, s, sl, lo, o, l⟩ := e
  obtain ⟨v, rfl, hv⟩ := EV.iff.1 h
  obtain ⟨A, n, c, rfl, hn, hnc, hcm⟩ := hv.form
  rw [ET.ds_length] at hn
  subst hn
  unfold maxLen at hcm
  obtain ⟨D, hD⟩ : ∃ D : Int, D = ((d + 1 : Nat) : Int) := ⟨_, rfl⟩
  have hd0 : (D == 0) = false := by simp; omega
  have hd1 : wrap64 (D - 1) = (d : Nat) := by unfold wrap64; omega
  rw [← hD]
  have HD := aP hD
  clear hD
  have HV := aP hv
  have HIH := aP (ih kom)
  clear h hv ih
  go_enter Tryz.func79, Tryz.ntmps79
  go_wp2
  obtain ⟨w0, hw0⟩ : ∃ w0, w0 = w.alloc (.cells #[.int .i64 q, .int .i64 m, .string s, .int .i64 sl, .bool lo, .int .i64 o, .slice A l.length c] 44) := ⟨_, rfl⟩
  have hkw : Kept noX w w0 := by rw [hw0]; exact (Kept.refl _ _).alloc _
  rw [← hw0]
  clear hw0
  go_loopw [12] (fun i wr => ∃ k : Nat, k ≤ l.length ∧ i = .int .i64 k ∧ (l.take k).any (deepE d) = false ∧ Kept noX w0 wr) (fun i _ => l.length - (intOf i).toNat)
  case atStart => exact ⟨0, Nat.zero_le _, rfl, rfl, Kept.refl _ _⟩
  case round =>
   obtain ⟨k, hk, rfl, hf, hkr⟩ := hrel
   by_cases hlt : k < l.length
   ·have hdl : decide ((k : Int) < (l.length : Int)) = true := by simpa using hlt
    have hvr := HV.out.keep (hkw.trans hkr)
    obtain ⟨g, o', c2, size, cs, hveq, hcl, hrep, hcell⟩ := hvr.at_ (i := k) (by simpa using hlt)
    rw [ET.ds_get] at hrep
    have hev : EV wr noX cs l[k] := hrep
    have hlen := hev.len
    rw [hlen] at hcl
    subst hcl
    injection hveq with hA hlen2 hc2
    subst hA hc2
    clear hlen2
    have hcr : ∀ j u, cs[j]? = some u → wr.cell? ⟨g, (o' + k * 7) + j, none⟩ = some u := fun j u hu => by
     have hj : j < 7 := by rw [← hlen]; exact (List.getElem?_eq_some_iff.1 hu).1
     rw [Nat.add_assoc, hcell j hj, hu]
    have HCR := aP hcr
    have HL := aP hlen
    have HEV := aP hev
    have HO := aP (Rep.one hev)
    have HF := aP (any_take (f := deepE d) hlt)
    have HF0 := aP hf
    clear hcell hcr hlen hrep hev hvr hf
    go_wp2_with (first
      | ((with_reducible refine atl ?_); refine wpList_load_part rfl 44 (.tmp 14) rfl g (o' + k * 7) rfl _ Tryz.underlying44 rfl cs (by rw [HL.out]; kernel_rfl) HCR.out ?_)
      | ((with_reducible refine ats ?_); refine wpList_store_part rfl rfl 44 (.tmp 6) (.tmp 15) rfl (wr.heap.size) 0 rfl cs rfl (Cells.fresh wr 44 zeroE) (by rw [HL.out]; exact Nat.le_of_ble_eq_true rfl) (by rw [HL.out]; kernel_rfl) HO.out ?_; intro W5 hB5 hk5a
         have hB5 : Cells W5 wr.heap.size 44 cs := by
           rw [HL.out, show zeroE.take 0 ++ cs ++ zeroE.drop (0 + 7) = cs from by simp [zeroE]] at hB5
           exact hB5
         have hk5 : Kept noX wr W5 := ((Kept.refl noX wr).alloc _).own hk5a (Nat.le_refl _)
         have HB5 := aP hB5
         clear hB5 hk5a)
      | ((with_reducible refine atl ?_); refine wpList_load_cells rfl 44 (.tmp 6) rfl (wr.heap.size) rfl _ Tryz.underlying44 rfl HB5.out (by rw [HL.out]; kernel_rfl) ?_))
    refine (HIH.out l[k] cs W5 (HEV.out.keep hk5)).mono ?_
    rintro e W6 ⟨rfl, hk6⟩
    cases hq : deepE d l[k] with
    | true =>
     have HQ := aP hq
     clear hq
     go_wp2
     go_ret
     refine ⟨?_, ((hkw.trans hkr).trans hk5).trans hk6⟩
     have : l.any (deepE d) = true := List.any_eq_true.2 ⟨l[k], List.getElem_mem hlt, HQ.out⟩
     rw [deepE, this] <;> rfl
    | false =>
     have HQ := aP hq
     clear hq
     go_wp2
     go_roundw
     case rel => exact ⟨k + 1, by omega, by go_num, by rw [HF.out, HF0.out, HQ.out] <;> rfl, (hkr.trans hk5).trans hk6⟩
     case measure => simp [intOf]; omega
   ·have hdl : decide ((k : Int) < (l.length : Int)) = false := by simpa using hlt
    have hk2 : k = l.length := by omega
    have HF0 := aP hf
    clear hf
    go_wp2
    go_ret
    refine ⟨?_, hkw.trans hkr⟩
    have := HF0.out
    rw [hk2, List.take_length] at this
    rw [deepE, this] <;> rfl
end Go.Proofs.YtjkgepppoopheaaGreatDoor
namespace Go.Proofs.YtjkgepppoopheaaGreatDoor
open Go.RowKit Go.Shelf
attribute [local go_sem] Oper.semAt_some
def ST.expr : ST → ET
 | .node _ _ _ _ _ e _ _ _ _ _ _ _ => e
def ST.index : ST → ET
 | .node _ _ _ _ _ _ x _ _ _ _ _ _ => x
def ST.line : ST → Int
 | .node _ l _ _ _ _ _ _ _ _ _ _ _ => l
def ST.col : ST → Int
 | .node _ _ c _ _ _ _ _ _ _ _ _ _ => c
def badS (p : Nat × ST) : Bool := decide (24 < p.1) || deepE 24 p.2.expr || deepE 24 p.2.index
def firstBad (l : List (Nat × ST)) : Option (Int × Int) := (l.find? badS).map fun p => (p.2.line, p.2.col)
def tooDeepP : List DT → Option (Int × Int)
 | [] => none
 | d :: l => match firstBad (seqL 1 d.body) with
  | some p => some p
  | none => tooDeepP l
theorem tooDeepP_drop {l : List DT} {i : Nat} (hi : i < l.length) : tooDeepP (l.drop i) = match firstBad (seqL 1 l[i].body) with | some p => some p | none => tooDeepP (l.drop (i + 1)) := by
 rw [List.drop_eq_getElem_cons hi, tooDeepP]
theorem firstBad_none {l : List (Nat × ST)} (h : ∀ x ∈ l, badS x = false) : firstBad l = none := by
 unfold firstBad
 rw [List.find?_eq_none.2 (fun x hx => by simp [h x hx])]
 rfl
theorem firstBad_some {l m : List (Nat × ST)} {x : Nat × ST} (h : ∀ y ∈ m, badS y = false) (hx : badS x = true) (hp : m ++ [x] <+: l) : firstBad l = some (x.2.line, x.2.col) := by
 obtain ⟨t, rfl⟩ := hp
 unfold firstBad
 rw [List.append_assoc, List.find?_append, List.find?_eq_none.2 (fun x hx => by simp [h x hx])]
 simp [hx]
def placeV (p : Option (Int × Int)) : Value := .tuple #[.agg #[.int .i64 (p.getD (0, 0)).1, .int .i64 (p.getD (0, 0)).2], .bool p.isSome]
theorem SV.form25 {W : World} {Z : Nat → Prop} {cs : List Value} {s : ST} (h : SV W Z cs s) : ∃ k n o vb vl i sl ot lo e0 e1 e2 e3 e4 e5 e6 x0 x1 x2 x3 x4 x5 x6,
  cs = [.int .i64 k, .int .i64 s.line, .int .i64 s.col, .string n, .string o, e0, e1, e2, e3, e4, e5, e6, x0, x1, x2, x3, x4, x5, x6, vb, vl, .int .i64 i, .int .i64 sl, .int .i64 ot, .bool lo] ∧
  EV W Z [e0, e1, e2, e3, e4, e5, e6] s.expr ∧ EV W Z [x0, x1, x2, x3, x4, x5, x6] s.index := by
 cases s
 obtain ⟨ce, cx, vb, vl, rfl, h1, h2, h3, h4⟩ := SV.iff.1 h
 have l1 := h1.len
 have l2 := h2.len
 obtain ⟨a1, a2, a3, a4, a5, a6, a7, rfl⟩ : ∃ a1 a2 a3 a4 a5 a6 a7, ce = [a1, a2, a3, a4, a5, a6, a7] := by
  match ce, l1 with
  | [a1, a2, a3, a4, a5, a6, a7], _ => exact ⟨a1, a2, a3, a4, a5, a6, a7, rfl⟩
 obtain ⟨b1, b2, b3, b4, b5, b6, b7, rfl⟩ : ∃ a1 a2 a3 a4 a5 a6 a7, cx = [a1, a2, a3, a4, a5, a6, a7] := by
  match cx, l2 with
  | [a1, a2, a3, a4, a5, a6, a7], _ => exact ⟨a1, a2, a3, a4, a5, a6, a7, rfl⟩
 exact ⟨_, _, _, _, _, _, _, _, _, _, _, _, _, _, _, _, _, _, _, _, _, _, _, rfl, h1, h2⟩
structure TdI (w : World) (Ds : List Nat) (O : Nat → Prop) (c0 c1 : Int) (b : Bool) (W : World) : Prop where
 kept : Kept (w.heap.size ≤ ·) w W
 pos : Cells W w.heap.size 25 [.int .i64 c0, .int .i64 c1]
 flag : Cells W (w.heap.size + 1) 4 [.bool b]
 marks : MarksAt W Ds
 off : ∀ k, (k = w.heap.size ∨ k = w.heap.size + 1 ∨ k ∈ Ds) → ¬ O k
theorem TdI.stab {w W W' : World} {Ds : List Nat} {O : Nat → Prop} {c0 c1 : Int} {b : Bool} (h : TdI w Ds O c0 c1 b W) (hO : ∀ k, O k → w.heap.size ≤ k) (hk : Kept O W W') : TdI w Ds O c0 c1 b W' :=
 ⟨h.kept.trans (hk.mono (fun k _ h => hO k h)), h.pos.kept hk (h.off _ (.inl rfl)), h.flag.kept hk (h.off _ (.inr (.inl rfl))), h.marks.kept hk (fun _ hD => h.off _ (.inr (.inr hD))), h.off⟩
theorem TdI.ext {w W : World} {Ds : List Nat} {O O' : Nat → Prop} {c0 c1 : Int} {b : Bool} (h : TdI w Ds O c0 c1 b W) (hO : ∀ k, k < W.heap.size → O' k → O k) : TdI w Ds O' c0 c1 b W :=
 ⟨h.kept, h.pos, h.flag, h.marks, fun k hk ho => h.off k hk (hO k (by
   rcases hk with rfl | rfl | hk
   · exact h.pos.lt
   · exact h.flag.lt
   · exact h.marks.lt hk) ho)⟩
theorem tooDeep_calls {ds : List DT} {v : Value} {w : World} (hv : RowV w noX v (ds.map DT.d)) (hsz : ∀ d ∈ ds, szL d.body ≤ 274877906944) :
  Calls Tryz.prog 39 #[v] w fun e w' => e = .returned (placeV (tooDeepP ds)) ∧ Kept (w.heap.size ≤ ·) w w' := by
 obtain ⟨A, n, c, rfl, hn, hnc, hcm⟩ := hv.form
 rw [List.length_map] at hn
 subst hn
 have hlm := Nat.le_trans hnc hcm
 unfold maxLen at hlm
 have HV := aP (show RowV w (w.heap.size ≤ ·) (.slice A ds.length c) (ds.map DT.d) from hv.mono (fun g hg h => by have h : w.heap.size ≤ g := h; omega))
 have HSZ := aP hsz
 clear hv hsz
 refine (callsIn_wide (n := 0)).1 (callsIn_of_wp_marks Tryz.func39 rfl trivial ?_ rfl)
 simp only [Tryz.ntmps39, List.size_toArray, List.length_cons, List.length_nil, Nat.reduceAdd, Nat.reduceSub, Array.replicate_succ, Array.replicate_zero, List.push_toArray, List.append_toArray, List.nil_append, List.cons_append]
 gi_wp2_with fail
 obtain ⟨w0, hw0⟩ : ∃ w0, w0 = (w.alloc (.cells #[.int .i64 0, .int .i64 0] 25)).alloc (.cells #[.bool false] 4) := ⟨_, rfl⟩
 have h0 : TdI w [] (fun _ => False) 0 0 false w0 := by
  rw [hw0]
  refine ⟨((Kept.refl _ _).alloc _).alloc _, (Cells.fresh w 25 [.int .i64 0, .int .i64 0]).alloc _, ?_, MarksAt.nil _, fun _ _ h => h⟩
  have h := Cells.fresh (w.alloc (.cells #[.int .i64 0, .int .i64 0] 25)) 4 [.bool false]
  rw [World.size_alloc] at h
  exact h
 rw [← hw0]
 clear hw0
 refine wpIn_loop_ghost_k (fun m a wr => ∃ (i : Nat) (Ds : List Nat), ∃ u1 u4 u5 u6 u7 u11 u12 u13 u14 u15 u16 u17 u18 u19 u20 u21 u22 u23 u24 u25 u26 u27 u28 u29 u30 u31 u32 u33 u34 : Value, (i ≤ ds.length ∧ m = ds.length - i ∧ tooDeepP (ds.drop i) = tooDeepP ds ∧ TdI w Ds (fun _ => False) 0 0 false wr ∧ (∀ D ∈ Ds, w.heap.size + 1 < D)) ∧ a = { tmps := #[.slice A ds.length c, u1, .pointer (some ⟨w.heap.size, 0, none⟩), .pointer (some ⟨w.heap.size + 1, 0, none⟩), u4, u5, u6, u7, .slice A ds.length c, .int .i64 (ds.length : Nat), .int .i64 (i : Nat), u11, u12, u13, u14, u15, u16, u17, u18, u19, u20, u21, u22, u23, u24, u25, u26, u27, u28, u29, u30, u31, u32, u33, u34], defers := marks Ds }) (ds.length) ⟨0, [], _, _, _, _, _, _, _, _, _, _, _, _, _, _, _, _, _, _, _, _, _, _, _, _, _, _, _, _, _, ?atStart9, rfl⟩ ?_
 rotate_left
 ·rintro m a wr ⟨i, Ds, u1, u4, u5, u6, u7, u11, u12, u13, u14, u15, u16, u17, u18, u19, u20, u21, u22, u23, u24, u25, u26, u27, u28, u29, u30, u31, u32, u33, u34, hrel, rfl⟩ J9 K9 hJ9 hK9
  obtain ⟨hi, rfl, hfd, hT, hDs⟩ := hrel
  by_cases hlt : i < ds.length
  ·have hdl : decide ((i : Int) < (ds.length : Int)) = true := by simpa using hlt
   obtain ⟨g, o, c2, size, cs, hveq, hcl, hrep, hcell, hgz⟩ := HV.out.at_z (i := i) (by simpa using hlt)
   rw [List.getElem_map] at hrep
   have hdv : DV w (w.heap.size ≤ ·) cs ds[i] := hrep
   have hlen := hdv.len
   rw [hlen] at hcl
   subst hcl
   injection hveq with hA hlen2 hc2
   subst hA hc2
   clear hlen2
   have hcr : ∀ j u, cs[j]? = some u → wr.cell? ⟨g, (o + i * 6) + j, none⟩ = some u := fun j u hu => by
    have hj : j < 6 := by rw [← hlen]; exact (List.getElem?_eq_some_iff.1 hu).1
    rw [Nat.add_assoc, World.cell?_of_block (hT.kept.block g (block_lt_of (hcell 0 kom |>.trans (by rw [List.getElem?_eq_getElem kom]))) hgz), hcell j hj, hu]
   obtain ⟨vb, hcs, hvb⟩ := DV.iff.1 hdv
   have hc5 : cs[5]? = some vb := by rw [hcs] <;> rfl
   obtain ⟨Ab, nb, cb, rfl, hnb, hnbc, hcbm⟩ := hvb.form
   have hszb := HSZ.out _ (List.getElem_mem hlt)
   have hfd1 := tooDeepP_drop hlt
   rw [hfd] at hfd1
   have HFD := aP hfd1
   have HCR := aP hcr
   have HL := aP hlen
   have HO := aP (Rep.one hdv)
   have HVB := aP hvb
   have HT := aP hT
   have HDS := aP hDs
   have hwr : w.heap.size + 1 < wr.heap.size := hT.flag.lt
   clear hcell hcr hlen hrep hdv hcs hvb hfd hfd1 hT hDs hnb
   gi_wp2_with (first
     | ((with_reducible show wpListIn _ _ _ _ _ (Oper.mk _ (Op.load _ _) _ _ _ _ :: _) _ _); refine wpListIn_load_part rfl 54 (.tmp 12) rfl g (o + i * 6) rfl _ Tryz.underlying54 rfl cs (by rw [HL.out]; kernel_rfl) HCR.out ?_)
     | ((with_reducible show wpListIn _ _ _ _ _ (Oper.mk none (Op.store _ _ _) _ _ _ _ :: _) _ _); refine wpListIn_store_part rfl rfl 54 (.tmp 5) (.tmp 13) rfl (wr.heap.size) 0 rfl cs rfl (Cells.fresh wr 54 zeroD) (by rw [HL.out]; exact Nat.le_of_ble_eq_true rfl) (by rw [HL.out]; kernel_rfl) HO.out ?_; intro W5 hB5 hk5a
        have hB5 : Cells W5 wr.heap.size 54 cs := by
          rw [HL.out, show zeroD.take 0 ++ cs ++ zeroD.drop (0 + 6) = cs from by simp [zeroD]] at hB5
          exact hB5
        have hk5 : Kept noX wr W5 := ((Kept.refl noX wr).alloc _).own hk5a (Nat.le_refl _)
        have cb5 := (hB5.cell 5).trans hc5
        have hl5 := hB5.lt
        clear hB5 hk5a))
   refine ⟨trivial, rfl, ?_⟩
   refine (callsIn_wide.2 (within_makes Ab nb cb 1 W5)).mono ?_
   rintro e W7 ⟨rfl, hT7, hD7, hk7⟩
   dsimp only
   have hs7 := hD7.lt
   have hb7 : wr.heap.size < W5.heap.size := hl5
   clear cb5 hc5
   gi_wp2_with fail
   refine wpIn_rangeD (gf := 118) (lb := #[.pointer (some ⟨W5.heap.size, 0, none⟩), .pointer (some ⟨W5.heap.size + 1, 0, none⟩)]) rfl (enters_of Tryz.func118 krf rfl)
    (within_seq (w0 := w) (base0 := w.heap.size) (szL ds[i].body + 1) ds[i].body 1 Ab nb cb (Nat.lt_succ_self _) HVB.out kom W5.heap.size W5.heap.size W7 kom (Nat.le_refl _) hT7 hD7) kom (Kept.refl _ _) (fun _ => rfl)
    (fun O pre W => TdI w Ds O 0 0 false W ∧ ∀ x ∈ pre, badS x.1 = false)
    (fun c O pre W => c = .ret ∧ ∃ x pre', pre = pre' ++ [x] ∧ (∀ y ∈ pre', badS y.1 = false) ∧ badS x.1 = true ∧ TdI w Ds O x.1.2.line x.1.2.col true W)
    (fun O pre x a1 W => (TdI w Ds O 0 0 false W ∧ ∀ x ∈ pre, badS x.1 = false) ∧ (∀ k, O k → k < W.heap.size) ∧ ∃ B9, Cells W B9 63 x.2 ∧ ¬ O B9 ∧ w.heap.size + 1 < B9 ∧ ∃ u1 u4 u5 u8 u9 u10 u11 u12 u13 u14 u15 u16 u17 u18 u19 u20 u21 u22 u23 u24 u25 u26 u27 u28 u29 u30 u31 u32 u33 u34 : Value, a1 = { tmps := #[.slice (some ⟨g, o, none⟩) ds.length c, u1, .pointer (some ⟨w.heap.size, 0, none⟩), .pointer (some ⟨w.heap.size + 1, 0, none⟩), u4, u5, .int .i64 (x.1.1 : Nat), .pointer (some ⟨B9, 0, none⟩), u8, u9, u10, u11, u12, u13, u14, u15, u16, u17, u18, u19, u20, u21, u22, u23, u24, u25, u26, u27, u28, u29, u30, u31, u32, u33, u34], defers := [] })
    ?hIK ?hI ?hIe ?hIx ?hAx ?h0 ?hassign ?hbody ?hdone ?hstop
   case hIK => intro O pre W1 h; exact h.1.kept
   case hI => intro O pre W1 W2 hO h hk; exact ⟨h.1.stab (fun k hk => by have := hO k hk; omega) hk, h.2⟩
   case hIe => intro O O' pre W1 h hO; exact ⟨h.1.ext hO, h.2⟩
   case hIx =>
    rintro c O pre W1 W2 hO ⟨hc, x, pre', h1, h2, h3, h4⟩ hk
    exact ⟨hc, x, pre', h1, h2, h3, h4.stab (fun k hk => by have := hO k hk; omega) hk⟩
   case hAx => exact k_12
   case h0 =>
    have hT2 := (HT.out.stab (fun _ h => h.elim) hk5).stab (fun _ h => h.elim) hk7
    refine ⟨⟨hT2.kept, hT2.pos, hT2.flag, hT2.marks, fun k hk ho => ?_⟩, fun _ h => by cases h⟩
    rcases hk with rfl | rfl | hk
    ·omega
    ·omega
    ·have := HT.out.marks.lt hk; omega
   case hassign =>
    rintro lq O pre x Wq hO hOs hmq hwi
    have HLx := aP hmq.1.len
    have HOx := aP (Rep.one hmq.1)
    have hwq : w.heap.size + 1 < Wq.heap.size := hwi.1.flag.lt
    simp only [encS]
    rw [zip2]
    simp only [List.setIfInBounds_toArray, List.set_cons_zero, List.set_cons_succ]
    gi_wp2_with (first
      | ((with_reducible show wpListIn _ _ _ _ _ (Oper.mk none (Op.store _ _ _) _ _ _ _ :: _) _ _); refine wpListIn_store_part rfl rfl 63 (.tmp 7) (.tmp 18) rfl (Wq.heap.size) 0 rfl x.2 rfl (Cells.fresh Wq 63 zeroSt) (by rw [HLx.out]; exact Nat.le_of_ble_eq_true rfl) (by rw [HLx.out]; kernel_rfl) HOx.out ?_; intro W8 hB8 hk8
         have hB8 : Cells W8 Wq.heap.size 63 x.2 := by exact k_14
         have HB8 := aP hB8
         clear hB8))
    have hkq : Kept noX Wq W8 := ((Kept.refl noX Wq).alloc _).own hk8 (Nat.le_refl _)
    refine ⟨hkq, ⟨hwi.1.stab (fun k hk => by have := hO k hk; omega) hkq.any, hwi.2⟩, fun k ho => Nat.lt_of_lt_of_le (hOs k ho) hkq.size, Wq.heap.size, HB8.out, fun ho => Nat.lt_irrefl _ (hOs _ ho), hwq, _, _, _, _, _, _, _, _, _, _, _, _, _, _, _, _, _, _, _, _, _, _, _, _, _, _, _, _, _, _, rfl⟩
   case hbody =>
    rintro lq O pre ⟨⟨dep, s⟩, xcs⟩ a1 Wq hO hmq ⟨⟨hwi, hpre⟩, hOs, B9, hB9, hnB9, hwB9, u1, u4, u5, u8, u9, u10, u11, u12, u13, u14, u15, u16, u17, u18, u19, u20, u21, u22, u23, u24, u25, u26, u27, u28, u29, u30, u31, u32, u33, u34, rfl⟩
    dsimp only at hmq hB9 ⊢
    have hsv : SV w (w.heap.size ≤ ·) xcs s := hmq.1
    obtain ⟨k', n', o', vb', vl', i', sl', ot', lo', e0, e1, e2, e3, e4, e5, e6, x0, x1, x2, x3, x4, x5, x6, rfl, hex', hix'⟩ := hsv.form25
    have hE : EV Wq noX [e0, e1, e2, e3, e4, e5, e6] s.expr := (hex'.kept hwi.kept (fun _ _ h => h)).any
    have hX : EV Wq noX [x0, x1, x2, x3, x4, x5, x6] s.index := (hix'.kept hwi.kept (fun _ _ h => h)).any
    have HE := aP hE
    have HX := aP hX
    have HWI := aP hwi
    have HB9 := aP hB9
    have HB9p : Hid (∀ W, Kept noX Wq W → ∀ j v, [Value.int .i64 s.line, .int .i64 s.col][j]? = some v → W.cell? ⟨B9, 1 + j, none⟩ = some v) := aP (fun W hk j v hj => by
      have hc := hB9.kept hk (fun h => h)
      rcases j with _ | _ | j
      · exact (hc.cell 1).trans hj
      · exact (hc.cell 2).trans hj
      · simp at hj)
    have hb9 := hB9.lt
    have p5 := hB9.cell 5; have p6 := hB9.cell 6; have p7 := hB9.cell 7; have p8 := hB9.cell 8; have p9 := hB9.cell 9; have p10 := hB9.cell 10; have p11 := hB9.cell 11
    simp only [aZ, aS] at p5 p6 p7 p8 p9 p10 p11
    have hdE := aP (fun W (hk : Kept noX Wq W) => deeper_any 24 (by decide) s.expr _ W (HE.out.keep hk))
    have hdX := aP (fun W (hk : Kept noX Wq W) => deeper_any 24 (by decide) s.index _ W (HX.out.keep hk))
    clear hE hX hwi hB9 hmq hsv hex' hix'
    by_cases hq : 24 < dep
    ·have hdg : decide ((24 : Int) < (dep : Int)) = true := by simp; omega
     clear p5 p6 p7 p8 p9 p10 p11
     gi_wp2_with fail
     refine ⟨trivial, ?_⟩
     gi_wp2_with fail
     refine ⟨trivial, ?_⟩
     have HPc := aP (show ∀ j v, [Value.int .i64 s.line, .int .i64 s.col][j]? = some v → Wq.cell? ⟨B9, 1 + j, none⟩ = some v from HB9p.out Wq (Kept.refl noX Wq))
     have HTW := aP (HWI.out.stab (fun k hk => by have := hO k hk; omega) ((Kept.refl noX Wq)).any)
     gi_wp2_with (first
       | ((with_reducible show wpListIn _ _ _ _ _ (Oper.mk _ (Op.load _ _) _ _ _ _ :: _) _ _); refine wpListIn_load_part rfl 25 (.tmp 31) rfl B9 1 rfl _ Tryz.underlying25 rfl [.int .i64 s.line, .int .i64 s.col] krf HPc.out ?_)
       | ((with_reducible show wpListIn _ _ _ _ _ (Oper.mk none (Op.store _ _ _) _ _ _ _ :: _) _ _); refine wpListIn_store_part rfl rfl 25 (.tmp 2) (.tmp 32) rfl (w.heap.size) 0 rfl [.int .i64 s.line, .int .i64 s.col] rfl HTW.out.pos kle krf k1c ?_; intro W8 hP8 hk8; (have hF8 := HTW.out.flag.kept hk8 (fun h => by have h : w.heap.size + 1 = w.heap.size := h; omega)))
       | ((with_reducible show wpListIn _ _ _ _ _ (Oper.mk none (Op.store _ _ _) _ _ _ _ :: _) _ _); refine wpListIn_store_part rfl rfl 4 (.tmp 3) (.const (.bool true)) rfl (w.heap.size + 1) 0 rfl [.bool true] rfl hF8 kle krf k1c ?_; intro W9 hF9 hk9))
     have hP9 := hP8.kept hk9 (fun h => by have h : w.heap.size = w.heap.size + 1 := h; omega)
     simp only [List.take_zero, List.nil_append, List.length_cons, List.length_nil, Nat.zero_add, List.drop_succ_cons, List.append_nil, List.drop_nil] at hP9 hF9
     have hk19 : Kept (fun k => k = w.heap.size ∨ k = w.heap.size + 1) Wq W9 := (hk8.mono (fun k _ h => .inl h)).trans (hk9.mono (fun k _ h => .inr h))
     have hoff := HTW.out.off
     refine ⟨(((Kept.refl noX Wq)).any).trans (hk19.mono (fun k _ h ho => hoff k (h.elim .inl (fun h => .inr (.inl h))) ho)), rfl, _, pre, rfl, hpre, (by simp [badS, hq]), ⟨HTW.out.kept.trans (hk19.mono (fun k _ h => by show _ ≤ _; omega)), hP9, hF9, HTW.out.marks.kept hk19 (fun D hD h => by have := HDS.out D hD; omega), hoff⟩⟩
    ·have hdg : decide ((24 : Int) < (dep : Int)) = false := by simp; omega
     gi_wp2_with fail
     refine ⟨trivial, rfl, ?_⟩
     refine ((callsIn_wide.2 (hdE.out Wq (Kept.refl _ _))).inRound lq).mono ?_
     rintro e W6 ⟨rfl, hk6⟩
     clear p5 p6 p7 p8 p9 p10 p11
     have HBa := aP (HB9.out.keep hk6)
     have p12 := HBa.out.cell 12; have p13 := HBa.out.cell 13; have p14 := HBa.out.cell 14; have p15 := HBa.out.cell 15; have p16 := HBa.out.cell 16; have p17 := HBa.out.cell 17; have p18 := HBa.out.cell 18
     simp only [aZ, aS] at p12 p13 p14 p15 p16 p17 p18
     have hb9b := HBa.out.lt
     cases hq2 : deepE 24 s.expr with
     | true =>
      have HQ2 := aP hq2
      clear hq2 p12 p13 p14 p15 p16 p17 p18
      gi_wp2_with fail
      refine ⟨trivial, ?_⟩
      have HPc := aP (show ∀ j v, [Value.int .i64 s.line, .int .i64 s.col][j]? = some v → W6.cell? ⟨B9, 1 + j, none⟩ = some v from HB9p.out W6 hk6)
      have HTW := aP (HWI.out.stab (fun k hk => by have := hO k hk; omega) (hk6).any)
      gi_wp2_with (first
        | ((with_reducible show wpListIn _ _ _ _ _ (Oper.mk _ (Op.load _ _) _ _ _ _ :: _) _ _); refine wpListIn_load_part rfl 25 (.tmp 31) rfl B9 1 rfl _ Tryz.underlying25 rfl [.int .i64 s.line, .int .i64 s.col] krf HPc.out ?_)
        | ((with_reducible show wpListIn _ _ _ _ _ (Oper.mk none (Op.store _ _ _) _ _ _ _ :: _) _ _); refine wpListIn_store_part rfl rfl 25 (.tmp 2) (.tmp 32) rfl (w.heap.size) 0 rfl [.int .i64 s.line, .int .i64 s.col] rfl HTW.out.pos kle krf k1c ?_; intro W8 hP8 hk8; (have hF8 := HTW.out.flag.kept hk8 (fun h => by have h : w.heap.size + 1 = w.heap.size := h; omega)))
        | ((with_reducible show wpListIn _ _ _ _ _ (Oper.mk none (Op.store _ _ _) _ _ _ _ :: _) _ _); refine wpListIn_store_part rfl rfl 4 (.tmp 3) (.const (.bool true)) rfl (w.heap.size + 1) 0 rfl [.bool true] rfl hF8 kle krf k1c ?_; intro W9 hF9 hk9))
      have hP9 := hP8.kept hk9 (fun h => by have h : w.heap.size = w.heap.size + 1 := h; omega)
      simp only [List.take_zero, List.nil_append, List.length_cons, List.length_nil, Nat.zero_add, List.drop_succ_cons, List.append_nil, List.drop_nil] at hP9 hF9
      have hk19 : Kept (fun k => k = w.heap.size ∨ k = w.heap.size + 1) W6 W9 := (hk8.mono (fun k _ h => .inl h)).trans (hk9.mono (fun k _ h => .inr h))
      have hoff := HTW.out.off
      refine ⟨((hk6).any).trans (hk19.mono (fun k _ h ho => hoff k (h.elim .inl (fun h => .inr (.inl h))) ho)), rfl, _, pre, rfl, hpre, (by simp [badS, HQ2.out]), ⟨HTW.out.kept.trans (hk19.mono (fun k _ h => by show _ ≤ _; omega)), hP9, hF9, HTW.out.marks.kept hk19 (fun D hD h => by have := HDS.out D hD; omega), hoff⟩⟩
     | false =>
      have HQ2 := aP hq2
      clear hq2
      gi_wp2_with fail
      refine ⟨trivial, rfl, ?_⟩
      refine ((callsIn_wide.2 (hdX.out W6 hk6)).inRound lq).mono ?_
      rintro e W7b ⟨rfl, hk7b⟩
      clear p12 p13 p14 p15 p16 p17 p18
      have hk67 := hk6.trans hk7b
      cases hq3 : deepE 24 s.index with
      | true =>
       have HQ3 := aP hq3
       clear hq3
       have HPc := aP (show ∀ j v, [Value.int .i64 s.line, .int .i64 s.col][j]? = some v → W7b.cell? ⟨B9, 1 + j, none⟩ = some v from HB9p.out W7b hk67)
       have HTW := aP (HWI.out.stab (fun k hk => by have := hO k hk; omega) (hk67).any)
       gi_wp2_with (first
         | ((with_reducible show wpListIn _ _ _ _ _ (Oper.mk _ (Op.load _ _) _ _ _ _ :: _) _ _); refine wpListIn_load_part rfl 25 (.tmp 31) rfl B9 1 rfl _ Tryz.underlying25 rfl [.int .i64 s.line, .int .i64 s.col] krf HPc.out ?_)
         | ((with_reducible show wpListIn _ _ _ _ _ (Oper.mk none (Op.store _ _ _) _ _ _ _ :: _) _ _); refine wpListIn_store_part rfl rfl 25 (.tmp 2) (.tmp 32) rfl (w.heap.size) 0 rfl [.int .i64 s.line, .int .i64 s.col] rfl HTW.out.pos kle krf k1c ?_; intro W8 hP8 hk8; (have hF8 := HTW.out.flag.kept hk8 (fun h => by have h : w.heap.size + 1 = w.heap.size := h; omega)))
         | ((with_reducible show wpListIn _ _ _ _ _ (Oper.mk none (Op.store _ _ _) _ _ _ _ :: _) _ _); refine wpListIn_store_part rfl rfl 4 (.tmp 3) (.const (.bool true)) rfl (w.heap.size + 1) 0 rfl [.bool true] rfl hF8 kle krf k1c ?_; intro W9 hF9 hk9))
       have hP9 := hP8.kept hk9 (fun h => by have h : w.heap.size = w.heap.size + 1 := h; omega)
       simp only [List.take_zero, List.nil_append, List.length_cons, List.length_nil, Nat.zero_add, List.drop_succ_cons, List.append_nil, List.drop_nil] at hP9 hF9
       have hk19 : Kept (fun k => k = w.heap.size ∨ k = w.heap.size + 1) W7b W9 := (hk8.mono (fun k _ h => .inl h)).trans (hk9.mono (fun k _ h => .inr h))
       have hoff := HTW.out.off
       refine ⟨((hk67).any).trans (hk19.mono (fun k _ h ho => hoff k (h.elim .inl (fun h => .inr (.inl h))) ho)), rfl, _, pre, rfl, hpre, (by simp [badS, HQ3.out]), ⟨HTW.out.kept.trans (hk19.mono (fun k _ h => by show _ ≤ _; omega)), hP9, hF9, HTW.out.marks.kept hk19 (fun D hD h => by have := HDS.out D hD; omega), hoff⟩⟩
      | false =>
       have HQ3 := aP hq3
       clear hq3
       gi_wp2
       refine ⟨trivial, hk67.any, HWI.out.stab (fun k hk => by have := hO k hk; omega) hk67.any, fun y hy => ?_⟩
       rcases List.mem_append.1 hy with hy | hy
       ·exact hpre y hy
       ·obtain rfl := List.mem_singleton.1 hy
        simp [badS, hq, HQ2.out, HQ3.out]
   case hdone =>
    rintro D xs O W8 hD hO hOD hxs ⟨hT8, hall⟩ hDd
    have hDw : w.heap.size + 1 < D := by have := hk7.size; omega
    have HT8 := aP hT8
    have HDd := aP hDd
    have hfb : firstBad (seqL 1 ds[i].body) = none := firstBad_none (fun y hy => by
      rw [← (show xs.map (·.1) = seqL 1 ds[i].body from hxs)] at hy
      obtain ⟨z, hz, rfl⟩ := List.mem_map.1 hy
      exact hall z hz)
    have HF2 := aP (HFD.out.trans (by rw [hfb]))
    clear hT8 hDd hall hxs hfb
    gi_wp2
    refine Handed.intro (ds.length - (i + 1)) kom ?_
    refine hJ9 _ _ _ ⟨i + 1, D :: Ds, _, _, _, _, _, _, _, _, _, _, _, _, _, _, _, _, _, _, _, _, _, _, _, _, _, _, _, _, _, ⟨by omega, rfl, HF2.out.symm, ⟨HT8.out.kept, HT8.out.pos, HT8.out.flag, HT8.out.marks.cons HDd.out (fun h => HT8.out.off D (.inr (.inr h)) hOD), fun _ _ h => h⟩, ?_⟩, rfl⟩
    intro E hE
    rcases List.mem_cons.1 hE with rfl | hE
    ·exact hDw
    ·exact HDS.out E hE
   case hstop =>
    rintro D c pre O W8 hD hO hOD hSp ⟨rfl, x, pre', rfl, hgood, hbad, hT8⟩ hDd
    have hDw : w.heap.size + 1 < D := by have := hk7.size; omega
    have hfb : firstBad (seqL 1 ds[i].body) = some (x.1.2.line, x.1.2.col) := by
     have hp : (pre' ++ [x]).map (·.1) <+: seqL 1 ds[i].body := hSp
     rw [List.map_append] at hp
     refine firstBad_some (m := pre'.map (·.1)) (fun y hy => ?_) hbad hp
     obtain ⟨z, hz, rfl⟩ := List.mem_map.1 hy
     exact hgood z hz
    have HF2 := aP (HFD.out.trans (by rw [hfb]))
    have HM9 := aP (hT8.marks.cons hDd (fun h => hT8.off D (.inr (.inr h)) hOD))
    have HT8 := aP hT8
    clear hT8 hDd hgood hbad hfb hSp
    gi_wp2
    refine leave_marks (D :: Ds) W8 HM9.out (fun W' hk' => ?_)
    have hne : ∀ k, k ≤ w.heap.size + 1 → ¬ k ∈ D :: Ds := fun k hk hm => by
     rcases List.mem_cons.1 hm with rfl | hm
     ·omega
     ·have := HDS.out k hm; omega
    refine ⟨_, results_multi [.cell 2 25, .cell 3 4] [.agg #[.int .i64 x.1.2.line, .int .i64 x.1.2.col], .bool true] Tryz.results39 (by simp) rfl (fun j hj => ?_), ?_, HT8.out.kept.trans (hk'.mono (fun k _ hk => by
      show _ ≤ _
      by_cases hle : k ≤ w.heap.size + 1
      · exact absurd hk (hne k hle)
      · omega))⟩
    ·match j, hj with
     | 0, _ => exact resVal.box rfl (HT8.out.pos.kept hk' (hne _ kom)) Tryz.underlying25 rfl krf
     | 1, _ => exact resVal.cell rfl (by have h := (HT8.out.flag.kept hk' (hne _ kom)).cell 0; exact h) Tryz.underlying4 rfl
    ·rw [HF2.out]
     rfl
  ·have hil : i = ds.length := by omega
   have hdl : decide ((i : Int) < (ds.length : Int)) = false := by simp; omega
   have HF2 := aP hfd
   have HTW := aP hT
   have HDS := aP hDs
   clear hfd hT hDs
   gi_wp2_with (first
     | ((with_reducible show wpListIn _ _ _ _ _ (Oper.mk none (Op.store _ _ _) _ _ _ _ :: _) _ _); refine wpListIn_store_part rfl rfl 25 (.tmp 2) (.tmp 34) rfl (w.heap.size) 0 rfl [.int .i64 0, .int .i64 0] rfl HTW.out.pos kle krf k1c ?_; intro W8 hP8 hk8; (have hF8 := HTW.out.flag.kept hk8 (fun h => by have h : w.heap.size + 1 = w.heap.size := h; omega)))
     | ((with_reducible show wpListIn _ _ _ _ _ (Oper.mk none (Op.store _ _ _) _ _ _ _ :: _) _ _); refine wpListIn_store_part rfl rfl 4 (.tmp 3) (.const (.bool false)) rfl (w.heap.size + 1) 0 rfl [.bool false] rfl hF8 kle krf k1c ?_; intro W9 hF9 hk9))
   have hP9 := hP8.kept hk9 (fun h => by have h : w.heap.size = w.heap.size + 1 := h; omega)
   simp only [List.take_zero, List.nil_append, List.length_cons, List.length_nil, Nat.zero_add, List.drop_succ_cons, List.append_nil, List.drop_nil] at hP9 hF9
   have hk19 : Kept (fun k => k = w.heap.size ∨ k = w.heap.size + 1) wr W9 := (hk8.mono (fun k _ h => .inl h)).trans (hk9.mono (fun k _ h => .inr h))
   refine leave_marks Ds W9 (HTW.out.marks.kept hk19 (fun D hD h => by have := HDS.out D hD; omega)) (fun W' hk' => ?_)
   have hne : ∀ k, k ≤ w.heap.size + 1 → ¬ k ∈ Ds := fun k hk hm => by have := HDS.out k hm; omega
   refine ⟨_, results_multi [.cell 2 25, .cell 3 4] [.agg #[.int .i64 0, .int .i64 0], .bool false] Tryz.results39 (by simp) rfl (fun j hj => ?_), ?_, (HTW.out.kept.trans (hk19.mono (fun k _ h => by show _ ≤ _; omega))).trans (hk'.mono (fun k _ hk => by
     show _ ≤ _
     by_cases hle : k ≤ w.heap.size + 1
     · exact absurd hk (hne k hle)
     · omega))⟩
   ·match j, hj with
    | 0, _ => exact resVal.box rfl (hP9.kept hk' (hne _ kom)) Tryz.underlying25 rfl krf
    | 1, _ => exact resVal.cell rfl (by have h := (hF9.kept hk' (hne _ kom)).cell 0; exact h) Tryz.underlying4 rfl
   ·rw [← HF2.out, hil, List.drop_length]
    rfl
 case atStart9 => exact ⟨Nat.zero_le _, rfl, rfl, h0, fun _ h => by cases h⟩
end Go.Proofs.YtjkgepppoopheaaGreatDoor
