/- What the laws of a text's trees answer: true (conditions: the tables stand). -/
import Derived.Test.YtjkgepppoopheaaGreatDoorAbb
import Derived.Test.YtjkgepppoopheaaGreatDoorQ27
import Derived.Test.YtjkgepppoopheaaGreatDoorQ31
import Derived.Test.YtjkgepppoopheaaGreatDoorQ36
import Derived.Test.YtjkgepppoopheaaGreatDoorQ30
set_option maxRecDepth 100000
set_option maxHeartbeats 1000000
namespace Go.Proofs.YtjkgepppoopheaaGreatDoor
open Go.RowKit Go.Shelf
def SmE (e : ET) : Prop := ∀ d, smE d e = true
theorem SmE.node {k m : Int} {s : ByteArray} {sl : Int} {lo : Bool} {o : Int} {l : List ET} (hs : s.size ≤ 9223372036854775807) (hl : ∀ e ∈ l, SmE e) : SmE (.node k m s sl lo o l) := by
 intro d
 cases d with
 | zero => rfl
 | succ d =>
  rw [smE, decide_eq_true hs, Bool.true_and, List.all_eq_true]
  exact fun e he => hl e he d
theorem SmE.name {k m : Int} {s : ByteArray} {sl : Int} {lo : Bool} {o : Int} {l : List ET} (h : SmE (.node k m s sl lo o l)) : s.size ≤ 9223372036854775807 := by
 have := h 1
 rw [smE, Bool.and_eq_true] at this
 exact of_decide_eq_true this.1
theorem SmE.arg {k m : Int} {s : ByteArray} {sl : Int} {lo : Bool} {o : Int} {l : List ET} (h : SmE (.node k m s sl lo o l)) {e : ET} (he : e ∈ l) : SmE e := by
 intro d
 have := h (d + 1)
 rw [smE, Bool.and_eq_true, List.all_eq_true] at this
 exact this.2 e he
def Counts (w : World) (e : Ending) (w' : World) : Prop := (∃ m, e = .returned (.int .i64 m)) ∧ Kept noX w w'
theorem ET.arg_lt {k m : Int} {s : ByteArray} {sl : Int} {lo : Bool} {o : Int} {l : List ET} {x : ET} (h : x ∈ l) : SizeOf.sizeOf x < SizeOf.sizeOf (ET.node k m s sl lo o l) := by
 have := List.sizeOf_lt_of_mem h
 simp
 omega
mutual
def sameE : ET → ET → Bool
 | .node k m s _ _ o l, .node k' m' s' _ _ o' l' => (k == k') && (m == m') && (s.toList == s'.toList) && (o == o') && sameL l l'
def sameL : List ET → List ET → Bool
 | [], [] => true
 | e :: l, e' :: l' => sameE e e' && sameL l l'
 | _, _ => false
end
theorem sameL_len : ∀ (l l' : List ET), l.length ≠ l'.length → sameL l l' = false
 | [], [], h => absurd rfl h
 | [], _ :: _, _ => by rw [sameL] <;> simp
 | _ :: _, [], _ => by rw [sameL] <;> simp
 | e :: l, e' :: l', h => by
  rw [sameL, sameL_len l l' (fun h2 => h (by simp [h2])), Bool.and_false]
theorem sameL_drop {l l' : List ET} {k : Nat} (h : k < l.length) (h' : k < l'.length) : sameL (l.drop k) (l'.drop k) = (sameE l[k] l'[k] && sameL (l.drop (k + 1)) (l'.drop (k + 1))) := by
 rw [List.drop_eq_getElem_cons h, List.drop_eq_getElem_cons h', sameL]
mutual
theorem sameE_refl : ∀ e : ET, sameE e e = true
 | .node k m s sl lo o l => by rw [sameE, sameL_refl l]; simp
theorem sameL_refl : ∀ l : List ET, sameL l l = true
 | [] => by rw [sameL]
 | e :: l => by rw [sameL, sameE_refl e, sameL_refl l] <;> rfl
end
theorem rsameE_any : ∀ (z : Nat) (e f : ET), SizeOf.sizeOf e ≤ z → ∀ (cs ds : List Value) (w : World), EV w noX cs e → EV w noX ds f → Calls Tryz.prog 64 #[.agg cs.toArray, .agg ds.toArray] w (Says w (sameE e f)) := by
 intro z
 induction z with
 | zero => intro e f hz; cases e; simp at hz
 | succ z ih =>
  intro e f hz cs ds w he hf
  obtain ⟨q, m, s, sl, lo, o, l⟩ := e
  obtain ⟨q', m', s', sl', lo', o', l'⟩ := f
  obtain ⟨v, rfl, hv⟩ := EV.iff.1 he
  obtain ⟨v', rfl, hv'⟩ := EV.iff.1 hf
  obtain ⟨A, n, c, rfl, hn, hnc, hcm⟩ := hv.form
  obtain ⟨A', n', c', rfl, hn', hnc', hcm'⟩ := hv'.form
  rw [ET.ds_length] at hn hn'
  subst hn hn'
  unfold maxLen at hcm hcm'
  have HZ := aP (fun (x : ET) (hx : x ∈ l) => (show SizeOf.sizeOf x ≤ z from by have := ET.arg_lt (k := q) (m := m) (s := s) (sl := sl) (lo := lo) (o := o) hx; omega))
  have HV := aP hv
  have HV' := aP hv'
  have HIH := aP ih
  have HE : Hid (sameE (.node q m s sl lo o l) (.node q' m' s' sl' lo' o' l') = ((q == q') && (m == m') && (s.toList == s'.toList) && (o == o') && sameL l l')) := aP (by rw [sameE])
  generalize sameE (.node q m s sl lo o l) (.node q' m' s' sl' lo' o' l') = E at HE ⊢
  clear he hf hv hv' ih hz
  obtain ⟨w0, hw0⟩ : ∃ w0, w0 = (w.alloc (.cells #[.int .i64 q, .int .i64 m, .string s, .int .i64 sl, .bool lo, .int .i64 o, .slice A l.length c] 44)).alloc (.cells #[.int .i64 q', .int .i64 m', .string s', .int .i64 sl', .bool lo', .int .i64 o', .slice A' l'.length c'] 44) := ⟨_, rfl⟩
  have hkw : Kept noX w w0 := by rw [hw0]; exact ((Kept.refl _ _).alloc _).alloc _
  have HB := aP (show Cells w0 w.heap.size 44 [.int .i64 q, .int .i64 m, .string s, .int .i64 sl, .bool lo, .int .i64 o, .slice A l.length c] from by rw [hw0]; exact (Cells.fresh w 44 _).alloc _)
  have HB' := aP (show Cells w0 (w.heap.size + 1) 44 [.int .i64 q', .int .i64 m', .string s', .int .i64 sl', .bool lo', .int .i64 o', .slice A' l'.length c'] from by
    rw [hw0]
    have h := Cells.fresh (w.alloc (.cells #[.int .i64 q, .int .i64 m, .string s, .int .i64 sl, .bool lo, .int .i64 o, .slice A l.length c] 44)) 44 [.int .i64 q', .int .i64 m', .string s', .int .i64 sl', .bool lo', .int .i64 o', .slice A' l'.length c']
    rw [World.size_alloc] at h
    exact h)
  have e0 := HB.out.cell 0; have e1 := HB.out.cell 1; have e2 := HB.out.cell 2; have e5 := HB.out.cell 5; have e6 := HB.out.cell 6
  have f0 := HB'.out.cell 0; have f1 := HB'.out.cell 1; have f2 := HB'.out.cell 2; have f5 := HB'.out.cell 5; have f6 := HB'.out.cell 6
  simp only [aZ, aS] at e0 e1 e2 e5 e6 f0 f1 f2 f5 f6
  have HKW := aP hkw
  cases hqx : (q == q') with
  | false =>
   have t_q : (q != q') = true := by rw [bne, hqx] <;> rfl
   have HF : Hid (E = false) := aP (HE.out.trans (by rw [hqx] <;> simp))
   clear HE
   go_enter Tryz.func64, Tryz.ntmps64
   go_wp2_with fail
   rw [← hw0]
   clear hw0
   go_wp2
   go_ret
   exact ⟨by rw [HF.out] <;> rfl, HKW.out⟩
  | true =>
  have t_q : (q != q') = false := by rw [bne, hqx] <;> rfl
  cases hmx : (m == m') with
  | false =>
   have t_m : (m != m') = true := by rw [bne, hmx] <;> rfl
   have HF : Hid (E = false) := aP (HE.out.trans (by rw [hqx, hmx] <;> simp))
   clear HE
   go_enter Tryz.func64, Tryz.ntmps64
   go_wp2_with fail
   rw [← hw0]
   clear hw0
   go_wp2
   go_ret
   exact ⟨by rw [HF.out] <;> rfl, HKW.out⟩
  | true =>
  have t_m : (m != m') = false := by rw [bne, hmx] <;> rfl
  cases hsx : (s.toList == s'.toList) with
  | false =>
   have t_s : (s.toList != s'.toList) = true := by rw [bne, hsx] <;> rfl
   have HF : Hid (E = false) := aP (HE.out.trans (by rw [hqx, hmx, hsx] <;> simp))
   clear HE
   go_enter Tryz.func64, Tryz.ntmps64
   go_wp2_with fail
   rw [← hw0]
   clear hw0
   go_wp2
   go_ret
   exact ⟨by rw [HF.out] <;> rfl, HKW.out⟩
  | true =>
  have t_s : (s.toList != s'.toList) = false := by rw [bne, hsx] <;> rfl
  cases hox : (o == o') with
  | false =>
   have t_o : (o != o') = true := by rw [bne, hox] <;> rfl
   have HF : Hid (E = false) := aP (HE.out.trans (by rw [hqx, hmx, hsx, hox] <;> simp))
   clear HE
   go_enter Tryz.func64, Tryz.ntmps64
   go_wp2_with fail
   rw [← hw0]
   clear hw0
   go_wp2
   go_ret
   exact ⟨by rw [HF.out] <;> rfl, HKW.out⟩
  | true =>
  have t_o : (o != o') = false := by rw [bne, hox] <;> rfl
  by_cases hln : l.length = l'.length
  ·have t_l : ((l.length : Int) != (l'.length : Int)) = false := by rw [hln]; simp
   have t_m2 : (l.length != l'.length) = false := by rw [hln]; simp
   have HEL : Hid (E = sameL l l') := aP (HE.out.trans (by rw [hqx, hmx, hsx, hox] <;> simp))
   have HLN := aP hln
   clear HE hln
   go_enter Tryz.func64, Tryz.ntmps64
   go_wp2_with fail
   rw [← hw0]
   clear hw0
   go_wp2_with fail
   clear e0 e1 e2 e5 e6 f0 f1 f2 f5 f6
   go_loopw [5] (fun i wr => ∃ k : Nat, k ≤ l.length ∧ i = .int .i64 k ∧ sameL (l.drop k) (l'.drop k) = sameL l l' ∧ Kept noX w0 wr) (fun i _ => l.length - (intOf i).toNat)
   case atStart => exact ⟨0, Nat.zero_le _, rfl, rfl, Kept.refl _ _⟩
   case round =>
    obtain ⟨k, hk, rfl, hf, hkr⟩ := hrel
    have hsr := hkr.size
    have e6 := (HB.out.keep hkr).cell 6
    have f6 := (HB'.out.keep hkr).cell 6
    simp only [aZ, aS] at e6 f6
    by_cases hlt : k < l.length
    ·have hdl : decide ((k : Int) < (l.length : Int)) = true := by simpa using hlt
     have hlt' : k < l'.length := by rw [← HLN.out]; exact hlt
     have hdr := sameL_drop hlt hlt'
     rw [hf] at hdr
     have hvr := HV.out.keep (HKW.out.trans hkr)
     have hvr' := HV'.out.keep (HKW.out.trans hkr)
     obtain ⟨g, og, c2, size, cs, hveq, hcl, hrep, hcell⟩ := hvr.at_ (i := k) (by simpa using hlt)
     rw [ET.ds_get] at hrep
     have hev : EV wr noX cs l[k] := hrep
     rw [hev.len] at hcl
     subst hcl
     injection hveq with hA hlen2 hc2
     subst hA hc2
     clear hlen2
     obtain ⟨g', og', c2', size', ds, hveq', hcl', hrep', hcell'⟩ := hvr'.at_ (i := k) (by simpa using hlt')
     rw [ET.ds_get] at hrep'
     have hev' : EV wr noX ds l'[k] := hrep'
     rw [hev'.len] at hcl'
     subst hcl'
     injection hveq' with hA hlen2 hc2
     subst hA hc2
     clear hlen2
     have hi1 : (k : Int) < ((l'.length : Nat) : Int) := by omega
     have HC := aP (fun W (hk : Kept noX wr W) => HIH.out l[k] l'[k] (HZ.out _ (List.getElem_mem hlt)) cs ds W (hev.keep hk) (hev'.keep hk))
     obtain ⟨ke, me, se, sle, loe, oe, Ae, Ne, Ce, rfl⟩ := hev.form
     obtain ⟨kx, mx, sx, slx, lox, ox, Ax, Nx, Cx, rfl⟩ := hev'.form
     have a0 := hcell 0 (by decide); have a1 := hcell 1 (by decide); have a2 := hcell 2 (by decide); have a3 := hcell 3 (by decide); have a4 := hcell 4 (by decide); have a5 := hcell 5 (by decide); have a6 := hcell 6 (by decide)
     have b0 := hcell' 0 (by decide); have b1 := hcell' 1 (by decide); have b2 := hcell' 2 (by decide); have b3 := hcell' 3 (by decide); have b4 := hcell' 4 (by decide); have b5 := hcell' 5 (by decide); have b6 := hcell' 6 (by decide)
     simp only [aZ, aS, ← Nat.add_assoc, Nat.add_zero] at a0 a1 a2 a3 a4 a5 a6 b0 b1 b2 b3 b4 b5 b6
     generalize sameE l[k] l'[k] = b at hdr HC
     clear hcell hcell' hrep hrep' hev hev' hvr hvr'
     have HK := aP (HKW.out.trans hkr)
     cases b with
     | false =>
      have HF : Hid (E = false) := aP (by rw [HEL.out, hdr] <;> rfl)
      have HC2 : Hid (∀ W, Kept noX wr W → Calls Tryz.prog 64 #[.agg #[.int .i64 ke, .int .i64 me, .string se, .int .i64 sle, .bool loe, .int .i64 oe, .slice Ae Ne Ce], .agg #[.int .i64 kx, .int .i64 mx, .string sx, .int .i64 slx, .bool lox, .int .i64 ox, .slice Ax Nx Cx]] W (Says W false)) := aP (fun W h => HC.out W h)
      clear HC
      go_wp2_with fail
      go_region_with (first | (go_at_call 64; (refine (HC2.out _ (by first | exact (Kept.refl _ _).drew | exact (Kept.refl _ _).drewN _ | exact Kept.refl _ _)).mono ?_; rintro e W6 ⟨rfl, hk6⟩)))
      all_goals
       go_wp2
       go_ret
       exact ⟨by rw [HF.out] <;> rfl, (HK.out.drew).trans hk6⟩
     | true =>
      have HC2 : Hid (∀ W, Kept noX wr W → Calls Tryz.prog 64 #[.agg #[.int .i64 ke, .int .i64 me, .string se, .int .i64 sle, .bool loe, .int .i64 oe, .slice Ae Ne Ce], .agg #[.int .i64 kx, .int .i64 mx, .string sx, .int .i64 slx, .bool lox, .int .i64 ox, .slice Ax Nx Cx]] W (Says W true)) := aP (fun W h => HC.out W h)
      clear HC
      go_wp2_with fail
      go_region_with (first | (go_at_call 64; (refine (HC2.out _ (by first | exact (Kept.refl _ _).drew | exact (Kept.refl _ _).drewN _ | exact Kept.refl _ _)).mono ?_; rintro e W6 ⟨rfl, hk6⟩)))
      all_goals
       go_wp2
       go_roundw
       case rel => exact ⟨k + 1, by omega, by go_num, (by rw [hdr] <;> rfl), (hkr.drew).trans hk6⟩
       case measure => simp [intOf]; omega
    ·have hdl : decide ((k : Int) < (l.length : Int)) = false := by simpa using hlt
     have hk2 : k = l.length := by omega
     have HF : Hid (E = true) := aP (by rw [HEL.out, ← hf, hk2, List.drop_length, HLN.out, List.drop_length, sameL])
     go_wp2
     go_ret
     exact ⟨by rw [HF.out] <;> rfl, HKW.out.trans hkr⟩
  ·have t_l : ((l.length : Int) != (l'.length : Int)) = true := by rw [bne_iff_ne]; omega
   have t_m2 : (l.length != l'.length) = true := by rw [bne_iff_ne]; exact hln
   have hsl := sameL_len l l' hln
   clear hln
   have HF : Hid (E = false) := aP (HE.out.trans (by rw [hqx, hmx, hsx, hox, hsl] <;> simp))
   clear HE
   go_enter Tryz.func64, Tryz.ntmps64
   go_wp2_with fail
   rw [← hw0]
   clear hw0
   go_wp2
   go_ret
   exact ⟨by rw [HF.out] <;> rfl, HKW.out⟩
mutual
def sameS (pl : Bool) : ST → ST → Bool
 | .node k li co s t e x b l _ _ _ _, .node k' li' co' s' t' e' x' b' l' _ _ _ _ =>
  (k == k') && (s.toList == s'.toList) && (t.toList == t'.toList) && !(pl && !((li == li') && (co == co'))) && sameE e e' && sameE x x' && sameSL pl b b' && sameSL pl l l'
def sameSL (pl : Bool) : List ST → List ST → Bool
 | [], [] => true
 | s :: l, s' :: l' => sameS pl s s' && sameSL pl l l'
 | _, _ => false
end
theorem sameSL_len (pl : Bool) : ∀ (l l' : List ST), l.length ≠ l'.length → sameSL pl l l' = false
 | [], [], h => absurd rfl h
 | [], _ :: _, _ => by rw [sameSL] <;> simp
 | _ :: _, [], _ => by rw [sameSL] <;> simp
 | e :: l, e' :: l', h => by
  rw [sameSL, sameSL_len pl l l' (fun h2 => h (by simp [h2])), Bool.and_false]
theorem sameSL_drop {pl : Bool} {l l' : List ST} {k : Nat} (h : k < l.length) (h' : k < l'.length) : sameSL pl (l.drop k) (l'.drop k) = (sameS pl l[k] l'[k] && sameSL pl (l.drop (k + 1)) (l'.drop (k + 1))) := by
 rw [List.drop_eq_getElem_cons h, List.drop_eq_getElem_cons h', sameSL]
mutual
theorem sameS_refl (pl : Bool) : ∀ s : ST, sameS pl s s = true
 | .node k li co s t e x b l _ _ _ _ => by rw [sameS, sameE_refl, sameE_refl, sameSL_refl pl b, sameSL_refl pl l]; simp
theorem sameSL_refl (pl : Bool) : ∀ l : List ST, sameSL pl l l = true
 | [] => by rw [sameSL]
 | e :: l => by rw [sameSL, sameS_refl pl e, sameSL_refl pl l] <;> rfl
end
def sameD (pl : Bool) (a b : DT) : Bool := (a.kind == b.kind) && (a.name.toList == b.name.toList) && (a.num == b.num) && !(pl && !((a.line == b.line) && (a.col == b.col))) && sameSL pl a.body b.body
def sameDL (pl : Bool) : List DT → List DT → Bool
 | [], [] => true
 | s :: l, s' :: l' => sameD pl s s' && sameDL pl l l'
 | _, _ => false
theorem sameDL_len (pl : Bool) : ∀ (l l' : List DT), l.length ≠ l'.length → sameDL pl l l' = false
 | [], [], h => absurd rfl h
 | [], _ :: _, _ => by rw [sameDL] <;> simp
 | _ :: _, [], _ => by rw [sameDL] <;> simp
 | e :: l, e' :: l', h => by
  rw [sameDL, sameDL_len pl l l' (fun h2 => h (by simp [h2])), Bool.and_false]
theorem sameDL_drop {pl : Bool} {l l' : List DT} {k : Nat} (h : k < l.length) (h' : k < l'.length) : sameDL pl (l.drop k) (l'.drop k) = (sameD pl l[k] l'[k] && sameDL pl (l.drop (k + 1)) (l'.drop (k + 1))) := by
 rw [List.drop_eq_getElem_cons h, List.drop_eq_getElem_cons h', sameDL]
theorem sameDL_refl (pl : Bool) : ∀ l : List DT, sameDL pl l l = true
 | [] => by rw [sameDL]
 | e :: l => by rw [sameDL, sameDL_refl pl l]; unfold sameD; rw [sameSL_refl]; simp
abbrev SameLC (z : Nat) : Prop := ∀ (pl : Bool) (l l' : List ST), szL l ≤ z → ∀ (v v' : Value) (w : World), RowV w noX v (ST.ds l) → RowV w noX v' (ST.ds l') → Calls Tryz.prog 32 #[v, v', .bool pl] w (Says w (sameSL pl l l'))
set_option linter.unusedSectionVars false
theorem bridge {wr : World} {cs ds : List Value} {P : World → Nat → Nat → Prop} {G : Prop}
  (h1 : (∀ W X Y, Cells W X 63 cs → Cells W Y 63 ds → Kept noX wr W → P W X Y) → G)
  (h2 : ∀ W X Y, Cells W X 63 cs → Cells W Y 63 ds → Kept noX wr W → P W X Y) : G := h1 h2
theorem Kept.cell_some {w W : World} {a : Addr} {v : Value} (hk : Kept noX w W) (h : w.cell? a = some v) : W.cell? a = some v :=
 (World.cell?_of_block (hk.block _ (block_lt_of_cell h) (fun h => h))).trans h
theorem exec_load_part {P : Program} {w : World} {ev : Operand → Value} {o : Oper} (ty : TypeId) (x : Operand) (ho : o.op = .load ty x) (g off : Nat) (hx : ev x = .pointer (some ⟨g, off, none⟩)) (d : TypeDesc) (hu : P.underlying ty = some d) (hd : aggB d = true)
  (cs : List Value) (hi : (P.info? ty).map (·.size) = some cs.length) (hc : ∀ j v, cs[j]? = some v → w.cell? ⟨g, off + j, none⟩ = some v) :
  (execOp ev o).run P w = .ok (.value (.agg cs.toArray)) w := by
 unfold execOp
 simp only [ho, hx, Instr.loadAt, Instr.sureAddr, Sem.run_bind, Sem.run_pure, Result.andThen_ok, run_loadVar_part w g off ty cs d hc hu hd hi]
def SameB (pl : Bool) (b : List ST) : Prop := ∀ (l' : List ST) (v v' : Value) (w : World), RowV w noX v (ST.ds b) → RowV w noX v' (ST.ds l') → Calls Tryz.prog 32 #[v, v', .bool pl] w (Says w (sameSL pl b l'))
set_option maxHeartbeats 8000000 in
theorem rsame_true (l : List ST) (ih : ∀ st ∈ l, SameB true st.body ∧ SameB true st.els) : SameB true l := by
 intro l' v v' w hv hv'
 obtain ⟨A, n, c, rfl, hn, hnc, hcm⟩ := hv.form
 obtain ⟨A', n', c', rfl, hn', hnc', hcm'⟩ := hv'.form
 rw [ST.ds_length] at hn hn'
 subst hn hn'
 unfold maxLen at hcm hcm'
 have HV := aP hv
 have HV' := aP hv'
 have HIH := aP ih
 clear hv hv' ih
 by_cases hln : l.length = l'.length
 ·have t_l : ((l.length : Int) != (l'.length : Int)) = false := by rw [hln]; simp
  have t_m2 : (l.length != l'.length) = false := by rw [hln]; simp
  have HLN := aP hln
  clear hln
  go_enter Tryz.func32, Tryz.ntmps32
  go_wp2_with fail
  go_loopw [7] (fun i wr => ∃ k : Nat, k ≤ l.length ∧ i = .int .i64 k ∧ sameSL true (l.drop k) (l'.drop k) = sameSL true l l' ∧ Kept noX w wr) (fun i _ => l.length - (intOf i).toNat)
  case atStart => exact ⟨0, Nat.zero_le _, rfl, rfl, Kept.refl _ _⟩
  case round =>
   obtain ⟨k, hk, rfl, hf, hkr⟩ := hrel
   by_cases hlt : k < l.length
   ·have hdl : decide ((k : Int) < (l.length : Int)) = true := by simpa using hlt
    have hlt' : k < l'.length := by rw [← HLN.out]; exact hlt
    have hdr := sameSL_drop (pl := true) hlt hlt'
    rw [hf] at hdr
    have hvr := HV.out.keep hkr
    have hvr' := HV'.out.keep hkr
    obtain ⟨g, og, c2, size, cs, hveq, hcl, hrep, hcell⟩ := hvr.at_ (i := k) (by simpa using hlt)
    rw [ST.ds_get] at hrep
    have hsv : SV wr noX cs l[k] := hrep
    have hl25 := hsv.len
    rw [hl25] at hcl
    subst hcl
    injection hveq with hA hlen2 hc2
    subst hA hc2
    clear hlen2
    obtain ⟨g', og', c2', size', ds, hveq', hcl', hrep', hcell'⟩ := hvr'.at_ (i := k) (by simpa using hlt')
    rw [ST.ds_get] at hrep'
    have hsv' : SV wr noX ds l'[k] := hrep'
    have hl25' := hsv'.len
    rw [hl25'] at hcl'
    subst hcl'
    injection hveq' with hA hlen2 hc2
    subst hA hc2
    clear hlen2
    have hi1 : (k : Int) < ((l'.length : Nat) : Int) := by omega
    have hc1 : ∀ j v, cs[j]? = some v → wr.cell? ⟨g, og + k * 25 + j, none⟩ = some v := fun j u hu => by
     rw [Nat.add_assoc, hcell j (by rw [← hl25]; exact (List.getElem?_eq_some_iff.1 hu).1), hu]
    have hc1' : ∀ j v, ds[j]? = some v → wr.cell? ⟨g', og' + k * 25 + j, none⟩ = some v := fun j u hu => by
     rw [Nat.add_assoc, hcell' j (by rw [← hl25']; exact (List.getElem?_eq_some_iff.1 hu).1), hu]
    have HIB := aP (HIH.out l[k] (List.getElem_mem hlt))
    have HSV := aP hsv
    have HSV' := aP hsv'
    have HC1 := aP (And.intro hc1 hc1')
    have HL25 := aP (And.intro hl25 hl25')
    have HDR := aP hdr
    have HKR := aP hkr
    generalize l[k] = st at HIB HSV HDR
    generalize l'[k] = st' at HSV' HDR
    clear hcell hcell' hrep hrep' hsv hsv' hvr hvr' hdr hc1 hc1' hl25 hl25' hf hkr
    go_wp2_with fail
    have HZ1 : Hid (zeroSt.drop cs.length = []) := aP (by rw [HL25.out.1] <;> rfl)
    have HZ2 : Hid (zeroSt.drop ds.length = []) := aP (by rw [HL25.out.2] <;> rfl)
    apply bridge (wr := wr) (cs := cs) (ds := ds)
    ·intro HP
     refine wp_region_held_drew (S := (Kept noX wr)) krf ((Kept.refl _ _).drew) (fun hHeld => ?_)
     refine wpAnyH_take (i := 0) (v := ?_) rfl krf krf krf (fun _ _ _ h => h) (Or.inl ⟨by rfl, ?_⟩) (by assumption) ?_
     rotate_left
     ·intro wS hSw
      (try dsimp only at hSw)
      go_simp
      (try with_reducible rfl)
     refine wpAnyH_take (i := 1) (v := ?_) rfl krf krf krf (fun _ _ _ h => h) (Or.inl ⟨by rfl, ?_⟩) (by assumption) ?_
     rotate_left
     ·intro wS hSw
      (try dsimp only at hSw)
      go_simp
      (try with_reducible rfl)
     refine wpAnyH_take (i := 2) (v := ?_) rfl krf krf krf (fun _ _ _ h => h) (Or.inl ⟨by rfl, ?_⟩) (by assumption) ?_
     rotate_left
     ·intro wS hSw
      (try dsimp only at hSw)
      go_simp
      (try with_reducible rfl)
     refine wpAnyH_take (i := 3) (v := .agg cs.toArray) rfl krf krf krf (fun _ _ _ h => h) (Or.inl ⟨by rfl, fun wS hSw => exec_load_part 63 (.tmp 23) rfl g (og + k * 25) rfl _ Tryz.underlying63 rfl cs (by rw [HL25.out.1]; kernel_rfl) (fun j u hu => (Kept.cell_some hSw (HC1.out.1 j u hu)))⟩) (by assumption) ?_
     refine wpAnyH_take (i := 4) (v := ?_) rfl krf krf krf (fun _ _ _ h => h) (Or.inl ⟨by rfl, ?_⟩) (by assumption) ?_
     rotate_left
     ·intro wS hSw
      (try dsimp only at hSw)
      go_simp
      (try with_reducible rfl)
     refine wpAnyH_take (i := 5) (v := ?_) rfl krf krf krf (fun _ _ _ h => h) (Or.inl ⟨by rfl, ?_⟩) (by assumption) ?_
     rotate_left
     ·intro wS hSw
      (try dsimp only at hSw)
      go_simp
      (try with_reducible rfl)
     refine wpAnyH_take (i := 6) (v := ?_) rfl krf krf krf (fun _ _ _ h => h) (Or.inl ⟨by rfl, ?_⟩) (by assumption) ?_
     rotate_left
     ·intro wS hSw
      (try dsimp only at hSw)
      go_simp
      (try with_reducible rfl)
     refine wpAnyH_take (i := 7) (v := .agg ds.toArray) rfl krf krf krf (fun _ _ _ h => h) (Or.inl ⟨by rfl, fun wS hSw => exec_load_part 63 (.tmp 27) rfl g' (og' + k * 25) rfl _ Tryz.underlying63 rfl ds (by rw [HL25.out.2]; kernel_rfl) (fun j u hu => (Kept.cell_some hSw (HC1.out.2 j u hu)))⟩) (by assumption) ?_
     have k0 := (Kept.refl noX wr).drew
     refine wpAnyH_ready (rs := [8, 9]) krf (by simp) ?_
     refine (AllReadyH.cons rfl (fun K hK => ?_) (AllReadyH.cons rfl (fun K hK => ?_) AllReadyH.nil))
     ·go_simp
      have k1 : Kept noX wr (wr.drew.alloc (.cells zeroSt.toArray 63)) := k0.alloc _
      have c8_1 : Cells (wr.drew.alloc (.cells zeroSt.toArray 63)) wr.heap.size 63 zeroSt := Cells.fresh wr.drew 63 zeroSt
      refine hK.out _ _ k1 (fun hHeld => ?_)
      clear hK K
      refine wpAnyH_ready (rs := [9]) krf (by simp) ?_
      refine (AllReadyH.cons rfl (fun K hK => ?_) AllReadyH.nil)
      go_simp
      have k2 : Kept noX wr ((wr.drew.alloc (.cells zeroSt.toArray 63)).alloc (.cells zeroSt.toArray 63)) := k1.alloc _
      have c9_2 : Cells ((wr.drew.alloc (.cells zeroSt.toArray 63)).alloc (.cells zeroSt.toArray 63)) (wr.heap.size + 1) 63 zeroSt := by have h := Cells.fresh (wr.drew.alloc (.cells zeroSt.toArray 63)) 63 zeroSt; rw [World.size_alloc] at h; exact h
      have c8_2 := c8_1.alloc (.cells zeroSt.toArray 63)
      have n2 : wr.heap.size < (wr.heap.size + 1) := by omega
      refine hK.out _ _ k2 (fun hHeld => ?_)
      clear hK K
      refine wpAnyH_ready (rs := [10]) krf (by simp) ?_
      refine (AllReadyH.cons rfl (fun K hK => ?_) AllReadyH.nil)
      rw [if_pos (by rfl)]
      refine wp_store_part rfl 63 (.tmp 8) (.tmp 24) rfl wr.heap.size 0 rfl cs rfl c8_2 (by rw [HL25.out.1]; decide) (by rw [HL25.out.1]; kernel_rfl) HSV.out.one1 ?_
      intro W3 b3 q3
      replace b3 : Cells W3 wr.heap.size 63 cs := by simpa [HZ1.out] using b3
      have k3 : Kept noX wr W3 := k2.own q3 kom
      have c9_3 := c9_2.kept q3 (show ¬ ((wr.heap.size + 1) = wr.heap.size) by omega)
      refine hK.out _ _ k3 (fun hHeld => ?_)
      clear hK K
      refine wpAnyH_ready (rs := [11]) krf (by simp) ?_
      refine (AllReadyH.cons rfl (fun K hK => ?_) AllReadyH.nil)
      rw [if_pos (by rfl)]
      refine wp_store_part rfl 63 (.tmp 9) (.tmp 28) rfl (wr.heap.size + 1) 0 rfl ds rfl c9_3 (by rw [HL25.out.2]; decide) (by rw [HL25.out.2]; kernel_rfl) HSV'.out.one1 ?_
      intro W4 b4 q4
      replace b4 : Cells W4 (wr.heap.size + 1) 63 ds := by simpa [HZ2.out] using b4
      have k4 : Kept noX wr W4 := k3.own q4 kom
      have c8_4 := b3.kept q4 (show ¬ (wr.heap.size = (wr.heap.size + 1)) by omega)
      refine hK.out _ _ k4 (fun hHeld => ?_)
      clear hK K
      refine wpAnyH_done krf ?_ _
      have HPf := aP (And.intro c8_4 (And.intro b4 k4))
      clear b4 c8_4 k4
      generalize (wr.heap.size + 1) = Y at HPf ⊢
      generalize wr.heap.size = X at HPf ⊢
      exact HP _ _ _ HPf.out.1 HPf.out.2.1 HPf.out.2.2
     ·go_simp
      have k1 : Kept noX wr (wr.drew.alloc (.cells zeroSt.toArray 63)) := k0.alloc _
      have c9_1 : Cells (wr.drew.alloc (.cells zeroSt.toArray 63)) wr.heap.size 63 zeroSt := Cells.fresh wr.drew 63 zeroSt
      refine hK.out _ _ k1 (fun hHeld => ?_)
      clear hK K
      refine wpAnyH_ready (rs := [8]) krf (by simp) ?_
      refine (AllReadyH.cons rfl (fun K hK => ?_) AllReadyH.nil)
      go_simp
      have k2 : Kept noX wr ((wr.drew.alloc (.cells zeroSt.toArray 63)).alloc (.cells zeroSt.toArray 63)) := k1.alloc _
      have c8_2 : Cells ((wr.drew.alloc (.cells zeroSt.toArray 63)).alloc (.cells zeroSt.toArray 63)) (wr.heap.size + 1) 63 zeroSt := by have h := Cells.fresh (wr.drew.alloc (.cells zeroSt.toArray 63)) 63 zeroSt; rw [World.size_alloc] at h; exact h
      have c9_2 := c9_1.alloc (.cells zeroSt.toArray 63)
      have n2 : wr.heap.size < (wr.heap.size + 1) := by omega
      refine hK.out _ _ k2 (fun hHeld => ?_)
      clear hK K
      refine wpAnyH_ready (rs := [10]) krf (by simp) ?_
      refine (AllReadyH.cons rfl (fun K hK => ?_) AllReadyH.nil)
      rw [if_pos (by rfl)]
      refine wp_store_part rfl 63 (.tmp 8) (.tmp 24) rfl (wr.heap.size + 1) 0 rfl cs rfl c8_2 (by rw [HL25.out.1]; decide) (by rw [HL25.out.1]; kernel_rfl) HSV.out.one1 ?_
      intro W3 b3 q3
      replace b3 : Cells W3 (wr.heap.size + 1) 63 cs := by simpa [HZ1.out] using b3
      have k3 : Kept noX wr W3 := k2.own q3 kom
      have c9_3 := c9_2.kept q3 (show ¬ (wr.heap.size = (wr.heap.size + 1)) by omega)
      refine hK.out _ _ k3 (fun hHeld => ?_)
      clear hK K
      refine wpAnyH_ready (rs := [11]) krf (by simp) ?_
      refine (AllReadyH.cons rfl (fun K hK => ?_) AllReadyH.nil)
      rw [if_pos (by rfl)]
      refine wp_store_part rfl 63 (.tmp 9) (.tmp 28) rfl wr.heap.size 0 rfl ds rfl c9_3 (by rw [HL25.out.2]; decide) (by rw [HL25.out.2]; kernel_rfl) HSV'.out.one1 ?_
      intro W4 b4 q4
      replace b4 : Cells W4 wr.heap.size 63 ds := by simpa [HZ2.out] using b4
      have k4 : Kept noX wr W4 := k3.own q4 kom
      have c8_4 := b3.kept q4 (show ¬ ((wr.heap.size + 1) = wr.heap.size) by omega)
      refine hK.out _ _ k4 (fun hHeld => ?_)
      clear hK K
      refine wpAnyH_done krf ?_ _
      exact HP _ _ _ c8_4 b4 k4
    ·intro W X Y hX hY hkW
     obtain ⟨q, li, co, s, t, e, x, b, lb, i0, sl0, ot0, lo0⟩ := st
     obtain ⟨q', li', co', s', t', e', x', b', lb', i0', sl0', ot0', lo0'⟩ := st'
     obtain ⟨ce, cx, vb, vl, rfl, he, hx, hb, hl⟩ := SV.iff.1 HSV.out
     obtain ⟨ce', cx', vb', vl', rfl, he', hx', hb', hl'⟩ := SV.iff.1 HSV'.out
     have HCE := aP (fun W' (hk : Kept noX W W') => rsameE_any _ e e' (Nat.le_refl _) ce ce' W' ((he.keep hkW).keep hk) ((he'.keep hkW).keep hk))
     have HCX := aP (fun W' (hk : Kept noX W W') => rsameE_any _ x x' (Nat.le_refl _) cx cx' W' ((hx.keep hkW).keep hk) ((hx'.keep hkW).keep hk))
     have HCB := aP (fun W' (hk : Kept noX W W') => HIB.out.1 b' vb vb' W' ((hb.keep hkW).keep hk) ((hb'.keep hkW).keep hk))
     have HCL := aP (fun W' (hk : Kept noX W W') => HIB.out.2 lb' vl vl' W' ((hl.keep hkW).keep hk) ((hl'.keep hkW).keep hk))
     have HE := HDR.out
     rw [sameS] at HE
     replace HE := aP HE
     obtain ⟨ke, me, se, sle, loe, oe, Ae, Ne, Ce, rfl⟩ := he.form
     obtain ⟨kx, mx, sx, slx, lox, ox, Ax, Nx, Cx, rfl⟩ := hx.form
     obtain ⟨ke', me', se', sle', loe', oe', Ae', Ne', Ce', rfl⟩ := he'.form
     obtain ⟨kx', mx', sx', slx', lox', ox', Ax', Nx', Cx', rfl⟩ := hx'.form
     obtain ⟨Ab, Nb, Cb, rfl, z1, z2, z3⟩ := hb.form
     clear z1 z2 z3
     obtain ⟨Al, Nl, Cl, rfl, z1, z2, z3⟩ := hl.form
     clear z1 z2 z3
     obtain ⟨Ab', Nb', Cb', rfl, z1, z2, z3⟩ := hb'.form
     clear z1 z2 z3
     obtain ⟨Al', Nl', Cl', rfl, z1, z2, z3⟩ := hl'.form
     clear z1 z2 z3
     change Hid (∀ W', _ → Calls _ _ _ _ (Says W' (sameSL true b b'))) at HCB
     change Hid (∀ W', _ → Calls _ _ _ _ (Says W' (sameSL true lb lb'))) at HCL
     generalize sameE e e' = bE at HCE HE
     generalize sameE x x' = bX at HCX HE
     generalize sameSL true b b' = bB at HCB HE
     generalize sameSL true lb lb' = bL at HCL HE
     have HX := aP hX
     have HY := aP hY
     have HKW := aP (HKR.out.trans hkW)
     clear he hx hb hl he' hx' hb' hl' hX hY HSV HSV' HDR HIB HC1 HL25 HZ1 HZ2 hkW
     have hw := HX.out.lt
     have a0 := (HX.out).cell 0
     have a1 := (HX.out).cell 1
     have a2 := (HX.out).cell 2
     have a3 := (HX.out).cell 3
     have a4 := (HX.out).cell 4
     have a5 := (HX.out).cell 5
     have a6 := (HX.out).cell 6
     have a7 := (HX.out).cell 7
     have a8 := (HX.out).cell 8
     have a9 := (HX.out).cell 9
     have a10 := (HX.out).cell 10
     have a11 := (HX.out).cell 11
     simp only [List.cons_append, List.nil_append, aZ, aS] at a0 a1 a2 a3 a4 a5 a6 a7 a8 a9 a10 a11
     have b0 := (HY.out).cell 0
     have b1 := (HY.out).cell 1
     have b2 := (HY.out).cell 2
     have b3 := (HY.out).cell 3
     have b4 := (HY.out).cell 4
     have b5 := (HY.out).cell 5
     have b6 := (HY.out).cell 6
     have b7 := (HY.out).cell 7
     have b8 := (HY.out).cell 8
     have b9 := (HY.out).cell 9
     have b10 := (HY.out).cell 10
     have b11 := (HY.out).cell 11
     simp only [List.cons_append, List.nil_append, aZ, aS] at b0 b1 b2 b3 b4 b5 b6 b7 b8 b9 b10 b11
     cases hq : (q == q') with
     | false =>
      have t_hq : (q != q') = true := by rw [bne, hq] <;> rfl
      have HF : Hid (sameSL true l l' = false) := aP (HE.out.trans (by rw [hq] <;> simp))
      clear HE
      go_wp2
      go_ret
      exact ⟨by rw [HF.out] <;> rfl, HKW.out⟩
     | true =>
     have t_hq : (q != q') = false := by rw [bne, hq] <;> rfl
     cases hs : (s.toList == s'.toList) with
     | false =>
      have t_hs : (s.toList != s'.toList) = true := by rw [bne, hs] <;> rfl
      have HF : Hid (sameSL true l l' = false) := aP (HE.out.trans (by rw [hq,hs] <;> simp))
      clear HE
      go_wp2
      go_ret
      exact ⟨by rw [HF.out] <;> rfl, HKW.out⟩
     | true =>
     have t_hs : (s.toList != s'.toList) = false := by rw [bne, hs] <;> rfl
     cases ht : (t.toList == t'.toList) with
     | false =>
      have t_ht : (t.toList != t'.toList) = true := by rw [bne, ht] <;> rfl
      have HF : Hid (sameSL true l l' = false) := aP (HE.out.trans (by rw [hq, hs,ht] <;> simp))
      clear HE
      go_wp2
      go_ret
      exact ⟨by rw [HF.out] <;> rfl, HKW.out⟩
     | true =>
     have t_ht : (t.toList != t'.toList) = false := by rw [bne, ht] <;> rfl
     cases hli : (li == li') with
     | false =>
      have t_li : (li != li') = true := by rw [bne, hli] <;> rfl
      have HF : Hid (sameSL true l l' = false) := aP (HE.out.trans (by rw [hq, hs, ht, hli] <;> simp))
      clear HE
      go_wp2
      go_ret
      exact ⟨by rw [HF.out] <;> rfl, HKW.out⟩
     | true =>
     have t_li : (li != li') = false := by rw [bne, hli] <;> rfl
     cases hco : (co == co') with
     | false =>
      have t_co : (co != co') = true := by rw [bne, hco] <;> rfl
      have HF : Hid (sameSL true l l' = false) := aP (HE.out.trans (by rw [hq, hs, ht, hli, hco] <;> simp))
      clear HE
      go_wp2
      go_ret
      exact ⟨by rw [HF.out] <;> rfl, HKW.out⟩
     | true =>
     have t_co : (co != co') = false := by rw [bne, hco] <;> rfl
     replace HE : Hid (sameSL true l l' = (bE && bX && bB && bL && sameSL true (l.drop (k + 1)) (l'.drop (k + 1)))) := aP (HE.out.trans (by rw [hq, hs, ht, hli, hco] <;> simp))
     go_wp2_with fail
     refine (HCE.out _ (Kept.refl noX W)).mono ?_
     rintro e1 W1 ⟨rfl, hk1⟩
     have K1 := aP (((Kept.refl noX W)).trans hk1)
     clear hk1 a0 b0 a1 b1 a2 b2 a3 b3 a4 b4 a5 b5 a6 b6 a7 b7 a8 b8 a9 b9 a10 b10 a11 b11
     cases bE with
     | false =>
      have HF : Hid (sameSL true l l' = false) := aP (HE.out.trans (by simp))
      clear HE
      go_wp2
      go_ret
      exact ⟨by rw [HF.out] <;> rfl, (HKW.out.trans K1.out)⟩
     | true =>
     have a12 := ((HX.out.keep K1.out)).cell 12
     have a13 := ((HX.out.keep K1.out)).cell 13
     have a14 := ((HX.out.keep K1.out)).cell 14
     have a15 := ((HX.out.keep K1.out)).cell 15
     have a16 := ((HX.out.keep K1.out)).cell 16
     have a17 := ((HX.out.keep K1.out)).cell 17
     have a18 := ((HX.out.keep K1.out)).cell 18
     simp only [List.cons_append, List.nil_append, aZ, aS] at a12 a13 a14 a15 a16 a17 a18
     have b12 := ((HY.out.keep K1.out)).cell 12
     have b13 := ((HY.out.keep K1.out)).cell 13
     have b14 := ((HY.out.keep K1.out)).cell 14
     have b15 := ((HY.out.keep K1.out)).cell 15
     have b16 := ((HY.out.keep K1.out)).cell 16
     have b17 := ((HY.out.keep K1.out)).cell 17
     have b18 := ((HY.out.keep K1.out)).cell 18
     simp only [List.cons_append, List.nil_append, aZ, aS] at b12 b13 b14 b15 b16 b17 b18
     go_wp2_with fail
     refine (HCX.out _ K1.out).mono ?_
     rintro e2 W2 ⟨rfl, hk2⟩
     have K2 := aP ((K1.out).trans hk2)
     clear hk2 a12 b12 a13 b13 a14 b14 a15 b15 a16 b16 a17 b17 a18 b18
     cases bX with
     | false =>
      have HF : Hid (sameSL true l l' = false) := aP (HE.out.trans (by simp))
      clear HE
      go_wp2
      go_ret
      exact ⟨by rw [HF.out] <;> rfl, (HKW.out.trans K2.out)⟩
     | true =>
     have a19 := ((HX.out.keep K2.out)).cell 19
     simp only [List.cons_append, List.nil_append, aZ, aS] at a19
     have b19 := ((HY.out.keep K2.out)).cell 19
     simp only [List.cons_append, List.nil_append, aZ, aS] at b19
     go_wp2_with fail
     refine (HCB.out _ K2.out).mono ?_
     rintro e3 W3 ⟨rfl, hk3⟩
     have K3 := aP ((K2.out).trans hk3)
     clear hk3 a19 b19
     cases bB with
     | false =>
      have HF : Hid (sameSL true l l' = false) := aP (HE.out.trans (by simp))
      clear HE
      go_wp2
      go_ret
      exact ⟨by rw [HF.out] <;> rfl, (HKW.out.trans K3.out)⟩
     | true =>
     have a20 := ((HX.out.keep K3.out)).cell 20
     simp only [List.cons_append, List.nil_append, aZ, aS] at a20
     have b20 := ((HY.out.keep K3.out)).cell 20
     simp only [List.cons_append, List.nil_append, aZ, aS] at b20
     go_wp2_with fail
     refine (HCL.out _ K3.out).mono ?_
     rintro e4 W4 ⟨rfl, hk4⟩
     have K4 := aP ((K3.out).trans hk4)
     clear hk4 a20 b20
     cases bL with
     | false =>
      have HF : Hid (sameSL true l l' = false) := aP (HE.out.trans (by simp))
      clear HE
      go_wp2
      go_ret
      exact ⟨by rw [HF.out] <;> rfl, (HKW.out.trans K4.out)⟩
     | true =>
     have HF : Hid (sameSL true (l.drop (k + 1)) (l'.drop (k + 1)) = sameSL true l l') := aP (HE.out.trans (by simp)).symm
     clear HE
     go_wp2
     go_roundw
     case rel => exact ⟨k + 1, by omega, by go_num, HF.out, HKW.out.trans K4.out⟩
     case measure => simp [intOf]; omega
   ·have hdl : decide ((k : Int) < (l.length : Int)) = false := by simpa using hlt
    have hk2 : k = l.length := by omega
    have HF : Hid (sameSL true l l' = true) := aP (by rw [← hf, hk2, List.drop_length, HLN.out, List.drop_length, sameSL])
    go_wp2
    go_ret
    exact ⟨by rw [HF.out] <;> rfl, hkr⟩
 ·have t_l : ((l.length : Int) != (l'.length : Int)) = true := by rw [bne_iff_ne]; omega
  have t_m2 : (l.length != l'.length) = true := by rw [bne_iff_ne]; exact hln
  have HF : Hid (sameSL true l l' = false) := aP (sameSL_len true l l' hln)
  clear hln
  go_enter Tryz.func32, Tryz.ntmps32
  go_wp2
  go_ret
  exact ⟨by rw [HF.out] <;> rfl, Kept.refl _ _⟩
theorem ba_same {s t : ByteArray} (h : (s.toList == t.toList) = true) : s = t := by
 have hl : s.toList = t.toList := by simpa using h
 rw [ByteArray.toList_eq, ByteArray.toList_eq] at hl
 exact ByteArray.ext (Array.toList_inj.1 hl)
theorem rsameStmts_true : ∀ (z : Nat) (l : List ST), szL l ≤ z → SameB true l := by
 intro z
 induction z with
 | zero =>
  intro l hl
  refine rsame_true l (fun st hst => ?_)
  have h1 := szL_mem hst
  have h2 := ST.sz_eq st
  omega
 | succ z ih =>
  intro l hl
  refine rsame_true l (fun st hst => ?_)
  have h1 := szL_mem hst
  have h2 := ST.sz_eq st
  exact ⟨ih _ kom, ih _ kom⟩
set_option maxHeartbeats 16000000 in
theorem rsameD_true (l l' : List DT) (v v' : Value) (w : World) (hv : RowV w noX v (l.map DT.d)) (hv' : RowV w noX v' (l'.map DT.d)) :
  Calls Tryz.prog 18 #[v, v', .bool true] w (Says w (sameDL true l l')) := by
 obtain ⟨A, n, c, rfl, hn, hnc, hcm⟩ := hv.form
 obtain ⟨A', n', c', rfl, hn', hnc', hcm'⟩ := hv'.form
 rw [List.length_map] at hn hn'
 subst hn hn'
 unfold maxLen at hcm hcm'
 have HV := aP hv
 have HV' := aP hv'
 clear hv hv'
 by_cases hln : l.length = l'.length
 ·have t_l : ((l.length : Int) != (l'.length : Int)) = false := by rw [hln]; simp
  have t_m2 : (l.length != l'.length) = false := by rw [hln]; simp
  have HLN := aP hln
  clear hln
  go_enter Tryz.func18, Tryz.ntmps18
  go_wp2_with fail
  go_loopw [7] (fun i wr => ∃ k : Nat, k ≤ l.length ∧ i = .int .i64 k ∧ sameDL true (l.drop k) (l'.drop k) = sameDL true l l' ∧ Kept noX w wr) (fun i _ => l.length - (intOf i).toNat)
  case atStart => exact ⟨0, Nat.zero_le _, rfl, rfl, Kept.refl _ _⟩
  case round =>
   obtain ⟨k, hk, rfl, hf, hkr⟩ := hrel
   by_cases hlt : k < l.length
   ·have hdl : decide ((k : Int) < (l.length : Int)) = true := by simpa using hlt
    have hlt' : k < l'.length := by rw [← HLN.out]; exact hlt
    have hdr := sameDL_drop (pl := true) hlt hlt'
    rw [hf, sameD] at hdr
    have HE := aP hdr
    have hvr := HV.out.keep hkr
    have hvr' := HV'.out.keep hkr
    obtain ⟨g, og, c2, size, cs, hveq, hcl, hrep, hcell⟩ := hvr.at_ (i := k) (by simpa using hlt)
    rw [List.getElem_map] at hrep
    have hdv : DV wr noX cs l[k] := hrep
    rw [hdv.len] at hcl
    subst hcl
    injection hveq with hA hlen2 hc2
    subst hA hc2
    clear hlen2
    obtain ⟨g', og', c2', size', ds, hveq', hcl', hrep', hcell'⟩ := hvr'.at_ (i := k) (by simpa using hlt')
    rw [List.getElem_map] at hrep'
    have hdv' : DV wr noX ds l'[k] := hrep'
    rw [hdv'.len] at hcl'
    subst hcl'
    injection hveq' with hA hlen2 hc2
    subst hA hc2
    clear hlen2
    have hi1 : (k : Int) < ((l'.length : Nat) : Int) := by omega
    obtain ⟨vb, rfl, hb⟩ := DV.iff.1 hdv
    obtain ⟨vb', rfl, hb'⟩ := DV.iff.1 hdv'
    have HCB := aP (fun W (hkW : Kept noX wr W) => rsameStmts_true _ l[k].body (Nat.le_refl _) l'[k].body vb vb' W (hb.keep hkW) (hb'.keep hkW))
    obtain ⟨Ab, Nb, Cb, rfl, z1, z2, z3⟩ := hb.form
    clear z1 z2 z3
    obtain ⟨Ab', Nb', Cb', rfl, z1, z2, z3⟩ := hb'.form
    clear z1 z2 z3
    have a0 := hcell 0 (by decide); have a1 := hcell 1 (by decide); have a2 := hcell 2 (by decide); have a3 := hcell 3 (by decide); have a4 := hcell 4 (by decide); have a5 := hcell 5 (by decide)
    have b0 := hcell' 0 (by decide); have b1 := hcell' 1 (by decide); have b2 := hcell' 2 (by decide); have b3 := hcell' 3 (by decide); have b4 := hcell' 4 (by decide); have b5 := hcell' 5 (by decide)
    simp only [aZ, aS, ← Nat.add_assoc, Nat.add_zero] at a0 a1 a2 a3 a4 a5 b0 b1 b2 b3 b4 b5
    have HKR := aP hkr
    clear hcell hcell' hrep hrep' hdv hdv' hvr hvr' hb hb' hkr hdr
    generalize sameSL true l[k].body l'[k].body = bB at HE HCB
    generalize l[k] = x at *
    generalize l'[k] = y at *
    obtain ⟨q, li, co, s, m, bo⟩ := x
    obtain ⟨q', li', co', s', m', bo'⟩ := y
    dsimp only at HE a0 a1 a2 a3 a4 a5 b0 b1 b2 b3 b4 b5
    cases hq : (q == q') with
    | false =>
     have t_hq : (q != q') = true := by rw [bne, hq] <;> rfl
     have HF : Hid (sameDL true l l' = false) := aP (HE.out.trans (by rw [hq] <;> simp))
     clear HE
     go_wp2_with fail
     simp only [List.append_eq, List.cons_append, List.nil_append]
     go_quiet (fail)
     go_wp2
     go_ret
     exact ⟨by rw [HF.out] <;> rfl, HKR.out.drewN _⟩
    | true =>
    have t_hq : (q != q') = false := by rw [bne, hq] <;> rfl
    cases hs : (s.toList == s'.toList) with
    | false =>
     have t_hs : (s.toList != s'.toList) = true := by rw [bne, hs] <;> rfl
     have HF : Hid (sameDL true l l' = false) := aP (HE.out.trans (by rw [hq,hs] <;> simp))
     clear HE
     go_wp2_with fail
     simp only [List.append_eq, List.cons_append, List.nil_append]
     go_quiet (fail)
     go_wp2
     go_ret
     exact ⟨by rw [HF.out] <;> rfl, HKR.out.drewN _⟩
    | true =>
    have t_hs : (s.toList != s'.toList) = false := by rw [bne, hs] <;> rfl
    cases hm : (m == m') with
    | false =>
     have t_hm : (m != m') = true := by rw [bne, hm] <;> rfl
     have HF : Hid (sameDL true l l' = false) := aP (HE.out.trans (by rw [hq, hs,hm] <;> simp))
     clear HE
     go_wp2_with fail
     simp only [List.append_eq, List.cons_append, List.nil_append]
     go_quiet (fail)
     go_wp2
     go_ret
     exact ⟨by rw [HF.out] <;> rfl, HKR.out.drewN _⟩
    | true =>
    have t_hm : (m != m') = false := by rw [bne, hm] <;> rfl
    cases hli : (li == li') with
    | false =>
     have t_hli : (li != li') = true := by rw [bne, hli] <;> rfl
     have HF : Hid (sameDL true l l' = false) := aP (HE.out.trans (by rw [hq, hs, hm,hli] <;> simp))
     clear HE
     go_wp2_with fail
     simp only [List.append_eq, List.cons_append, List.nil_append]
     go_quiet (fail)
     go_wp2
     go_ret
     exact ⟨by rw [HF.out] <;> rfl, HKR.out.drewN _⟩
    | true =>
    have t_hli : (li != li') = false := by rw [bne, hli] <;> rfl
    cases hco : (co == co') with
    | false =>
     have t_hco : (co != co') = true := by rw [bne, hco] <;> rfl
     have HF : Hid (sameDL true l l' = false) := aP (HE.out.trans (by rw [hq, hs, hm, hli,hco] <;> simp))
     clear HE
     go_wp2_with fail
     simp only [List.append_eq, List.cons_append, List.nil_append]
     go_quiet (fail)
     go_wp2
     go_ret
     exact ⟨by rw [HF.out] <;> rfl, HKR.out.drewN _⟩
    | true =>
    have t_hco : (co != co') = false := by rw [bne, hco] <;> rfl
    replace HE : Hid (sameDL true l l' = (bB && sameDL true (l.drop (k + 1)) (l'.drop (k + 1)))) := aP (HE.out.trans (by rw [hq, hs, hm, hli, hco] <;> simp))
    go_wp2_with fail
    simp only [List.append_eq, List.cons_append, List.nil_append]
    obtain rfl : q = q' := by simpa using hq
    obtain rfl : s = s' := ba_same hs
    obtain rfl : m = m' := by simpa using hm
    clear hf hq hs hm t_hq t_hs t_hm
    go_still_tail 65, krf
    go_wp2_with fail
    refine (HCB.out _ (Kept.refl noX wr).drew).mono ?_
    rintro e W6 ⟨rfl, hk6⟩
    cases bB with
    | false =>
     have HF : Hid (sameDL true l l' = false) := aP (HE.out.trans (by simp))
     clear HE
     go_wp2
     go_ret
     exact ⟨by rw [HF.out] <;> rfl, (HKR.out.drew).trans hk6⟩
    | true =>
    have HF : Hid (sameDL true (l.drop (k + 1)) (l'.drop (k + 1)) = sameDL true l l') := aP (HE.out.trans (by simp)).symm
    clear HE
    go_wp2
    go_roundw
    case rel => exact ⟨k + 1, by omega, by go_num, HF.out, (HKR.out.drew).trans hk6⟩
    case measure => simp [intOf]; omega
   ·have hdl : decide ((k : Int) < (l.length : Int)) = false := by simpa using hlt
    have hk2 : k = l.length := by omega
    have HF : Hid (sameDL true l l' = true) := aP (by rw [← hf, hk2, List.drop_length, HLN.out, List.drop_length, sameDL])
    go_wp2
    go_ret
    exact ⟨by rw [HF.out] <;> rfl, hkr⟩
 ·have t_l : ((l.length : Int) != (l'.length : Int)) = true := by rw [bne_iff_ne]; omega
  have t_m2 : (l.length != l'.length) = true := by rw [bne_iff_ne]; exact hln
  have HF : Hid (sameDL true l l' = false) := aP (sameDL_len true l l' hln)
  clear hln
  go_enter Tryz.func18, Tryz.ntmps18
  go_wp2
  go_ret
  exact ⟨by rw [HF.out] <;> rfl, Kept.refl _ _⟩
theorem IsParse.unique {s : ByteArray} {r r' : Except (Int × Int × Int) (List DT)} (h : IsParse s r) (h' : IsParse s r') : r = r' := by
 rcases h with ⟨n, hg, he, hr⟩ | ⟨n, hg, hlt, hbad, hr⟩
 ·exact hr.trans (h'.all hg he).symm
 ·rcases h' with ⟨m, hgm, hem, hr'⟩ | ⟨m, hgm, hlt', hbad', hr'⟩
  ·exact (not_both hgm hem hg hlt hbad).elim
  ·obtain rfl := bad_unique hg hbad hgm hbad'
   exact hr.trans hr'.symm
def flatR : Except (Int × Int × Int) (List DT) → Int × Int × Int × List DT
 | .error q => (q.1, q.2.1, q.2.2, [])
 | .ok l => (0, 0, 0, l)
theorem ParseV.flat {w w' : World} {r : Except (Int × Int × Int) (List DT)} {e : Ending} (h : ParseV w r e w') :
  ∃ (v : Value) (a b c : Int) (l : List DT), flatR r = (a, b, c, l) ∧ e = .returned (.tuple #[v, .agg #[.int .i64 a, .int .i64 b], .int .i64 c]) ∧ RowV w' noX v (l.map DT.d) := by
 cases r with
 | error q => exact ⟨_, q.1, q.2.1, q.2.2, [], rfl, h, RowV.nil _ _⟩
 | ok l =>
  obtain ⟨v, he, hr⟩ := h
  exact ⟨v, 0, 0, 0, l, rfl, he, hr.mono (fun _ _ h => h.elim)⟩
theorem syntaxTexts_any (s : ByteArray) (w : World) (hT : Tabs w) : Calls Tryz.prog 3 #[.string s] w fun e w' => e = .returned (.bool true) ∧ Kept noX w w' := by
 have HT := aP hT
 clear hT
 by_cases hs : s.size ≤ 4000
 ·have hd : decide ((4000 : Int) < (s.size : Int)) = false := by simp; omega
  obtain ⟨T, hTT⟩ : ∃ T : ByteArray, T = s := ⟨_, rfl⟩
  have hTs : T.size ≤ 65536 := by rw [hTT]; omega
  have HTT := aP hTT
  have HTS := aP hTs
  clear hTT hTs
  go_enter Tryz.func3, Tryz.ntmps3
  go_wp2_with fail
  rw [← HTT.out]
  refine (parse_calls T HTS.out w HT.out.ops HT.out.decls).mono ?_
  rintro e W1 ⟨r, hr, hv, hk1⟩
  obtain ⟨v, a, b, c, l, hf, rfl, hrow⟩ := hv.flat
  have HR := aP hr
  have HF := aP hf
  clear hr hv hf
  go_wp2_with fail
  refine (rparse_any T HTS.out _).mono ?_
  rintro e W2 ⟨r', hr', hv', hk2⟩
  obtain rfl := HR.out.unique hr'
  obtain ⟨v', a', b', c', l', hf', rfl, hrow'⟩ := hv'.flat
  have hf2 := HF.out.symm.trans hf'
  injection hf2 with h1 h2
  injection h2 with h2 h3
  injection h3 with h3 h4
  subst h1 h2 h3 h4
  have hp1 := (Cells.fresh W1 25 [.int .i64 a, .int .i64 b]).kept hk2 (fun h => h)
  have hr1 := (hrow.keep ((Kept.refl noX W1).alloc (.cells #[.int .i64 a, .int .i64 b] 25))).keep hk2
  have hkw := (hk1.alloc (.cells #[.int .i64 a, .int .i64 b] 25)).trans hk2
  have HT2 := aP (HT.out.keep hkw)
  clear hf' hv' hr' hrow hk1 hk2
  go_wp2_with fail
  have hp2 := Cells.fresh W2 25 [.int .i64 a, .int .i64 b]
  have hp1' := hp1.alloc (.cells #[.int .i64 a, .int .i64 b] 25)
  have hkk := (Kept.refl noX W2).alloc (.cells #[.int .i64 a, .int .i64 b] 25)
  refine (rsameD_true l l v v' _ (hr1.keep hkk) (hrow'.keep hkk)).mono ?_
  rintro e W3 ⟨rfl, hk3⟩
  rw [sameDL_refl]
  have hq1 := hp1'.kept hk3 (fun h => h)
  have hq2 := hp2.kept hk3 (fun h => h)
  have hkw3 := (hkw.alloc (.cells #[.int .i64 a, .int .i64 b] 25)).trans hk3
  have p0 := hq1.cell 0; have p1 := hq1.cell 1; have p2 := hq2.cell 0; have p3 := hq2.cell 1
  simp only [aZ, aS] at p0 p1 p2 p3
  have HK := aP hkw3
  have HT3 := aP (HT.out.keep hkw3)
  clear hp1 hp1' hp2 hq1 hq2 hk3 hkw hr1 hrow' hkw3 HT2 hkk
  go_wp2_with (first | (go_at_call 19; refine (num2_any _ _).mono ?_; rintro e W3' ⟨rfl, rfl⟩) | (go_at_call 15; refine (works2_any _ HT3.out).mono ?_; rintro e W4 ⟨rfl, hk4⟩))
  go_ret
  exact ⟨rfl, HK.out.trans hk4⟩
 ·have hd : decide ((4000 : Int) < (s.size : Int)) = true := by simp; omega
  go_enter Tryz.func3, Tryz.ntmps3
  go_wp2_with (go_at_call 15; refine (works2_any _ HT.out).mono ?_; rintro e W3 ⟨rfl, hk3⟩)
  go_ret
  exact ⟨rfl, hk3⟩
end Go.Proofs.YtjkgepppoopheaaGreatDoor
