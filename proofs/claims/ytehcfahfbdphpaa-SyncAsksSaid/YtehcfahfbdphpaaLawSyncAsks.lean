/- The law SyncAsks: what there is by any number, of any form that may be, behind any calls (conditions: none). -/
import Derived.Test.YtehcfahfbdphpaaTl1
import Derived.Test.YtehcfahfbdphpaaTl4
import Derived.Test.YtehcfahfbdphpaaPost
namespace Go.Proofs.Ytehcfahfbdphpaa
section
open Go.RowKit Go.Shelf

/-- An answer of a question by number: there is none, and all is zero; or it is there. -/
def AskI (n : Int) (len : Nat) (e : Int) (z : Prop) : Prop := (e = 4 ∧ z ∧ (n < 0 ∨ (len : Int) ≤ n)) ∨ (e = 0 ∧ 0 ≤ n ∧ n < (len : Int))
section
variable {W : World} {T : Nat → Nat} {p : Nat} {S : SS} (h : SyAt W T p S) (n : Int)
include h
theorem owner_ask : Calls Try.prog 14 #[.pointer (some ⟨p, 0, none⟩), .int .i64 n] W fun e W' => ∃ o eo, e = .returned (.tuple #[.int .i64 o, .int .i64 eo]) ∧ AskI n S.os.length eo (o = 0) ∧ Kept noX W W' := by
  by_cases hn : n < 0 ∨ (S.os.length : Int) ≤ n
  · exact (owner_out h n hn).mono fun e W' he => ⟨0, 4, he.1, .inl ⟨rfl, rfl, hn⟩, he.2⟩
  · obtain ⟨k, rfl⟩ : ∃ k : Nat, n = k := ⟨n.toNat, by omega⟩
    exact (owner_in h k (by omega)).mono fun e W' he => ⟨_, 0, he.1, .inr ⟨rfl, by omega, by omega⟩, he.2⟩
theorem waits_ask : Calls Try.prog 16 #[.pointer (some ⟨p, 0, none⟩), .int .i64 n] W fun e W' => ∃ A m c eo, e = .returned (.tuple #[.slice A m c, .int .i64 eo]) ∧ AskI n S.cs.length eo (m = 0) ∧ Kept noX W W' := by
  by_cases hn : n < 0 ∨ (S.cs.length : Int) ≤ n
  · refine (waits_out h n hn).mono fun e W' he => ?_
    obtain ⟨⟨v, rfl, ho⟩, hk⟩ := he
    obtain ⟨A, c, rfl, -⟩ := own_formN0 ho
    exact ⟨A, 0, c, 4, rfl, .inl ⟨rfl, rfl, hn⟩, hk⟩
  · obtain ⟨k, rfl⟩ : ∃ k : Nat, n = k := ⟨n.toNat, by omega⟩
    refine (waits_in h k (by omega)).mono fun e W' he => ?_
    obtain ⟨⟨v, rfl, ho⟩, hk⟩ := he
    obtain ⟨A, c, rfl, -⟩ := own_formN0 ho
    exact ⟨A, _, c, 0, rfl, .inr ⟨rfl, by omega, by omega⟩, hk⟩
theorem values_ask : Calls Try.prog 21 #[.pointer (some ⟨p, 0, none⟩), .int .i64 n] W fun e W' => ∃ A m c eo, e = .returned (.tuple #[.slice A m c, .int .i64 eo]) ∧ AskI n S.qs.length eo (m = 0) ∧ Kept noX W W' := by
  by_cases hn : n < 0 ∨ (S.qs.length : Int) ≤ n
  · refine (values_out h n hn).mono fun e W' he => ?_
    obtain ⟨⟨v, rfl, ho⟩, hk⟩ := he
    obtain ⟨A, c, rfl, -⟩ := own_formN0 ho
    exact ⟨A, 0, c, 4, rfl, .inl ⟨rfl, rfl, hn⟩, hk⟩
  · obtain ⟨k, rfl⟩ : ∃ k : Nat, n = k := ⟨n.toNat, by omega⟩
    refine (values_in h k (by omega)).mono fun e W' he => ?_
    obtain ⟨⟨v, rfl, ho⟩, hk⟩ := he
    obtain ⟨A, c, rfl, -⟩ := own_formN0 ho
    exact ⟨A, _, c, 0, rfl, .inr ⟨rfl, by omega, by omega⟩, hk⟩
theorem room_ask : Calls Try.prog 22 #[.pointer (some ⟨p, 0, none⟩), .int .i64 n] W fun e W' => ∃ o eo, e = .returned (.tuple #[.int .i64 o, .int .i64 eo]) ∧ AskI n S.qs.length eo (o = 0) ∧ Kept noX W W' := by
  by_cases hn : n < 0 ∨ (S.qs.length : Int) ≤ n
  · exact (room_out h n hn).mono fun e W' he => ⟨0, 4, he.1, .inl ⟨rfl, rfl, hn⟩, he.2⟩
  · obtain ⟨k, rfl⟩ : ∃ k : Nat, n = k := ⟨n.toNat, by omega⟩
    exact (room_in h k (by omega)).mono fun e W' he => ⟨_, 0, he.1, .inr ⟨rfl, by omega, by omega⟩, he.2⟩
end
/-- The same, as a walk asks it. -/
theorem AskI.cases {n : Int} {len : Nat} {e : Int} {z : Prop} (h : AskI n len e z) (hn : decide (n < 0) = false) : (e = 4 ∧ z ∧ decide ((len : Int) ≤ n) = true) ∨ (e = 0 ∧ decide ((len : Int) ≤ n) = false) := by
  have hn' : ¬ n < 0 := by simpa using hn
  rcases h with ⟨a, b, c⟩ | ⟨a, b, c⟩
  · exact .inl ⟨a, b, by simp; omega⟩
  · exact .inr ⟨a, by simp; omega⟩
theorem AskI.low {n : Int} {len : Nat} {e : Int} {z : Prop} (h : AskI n len e z) (hn : decide (n < 0) = true) : e = 4 ∧ z := by
  have hn' : n < 0 := by simpa using hn
  rcases h with ⟨a, b, c⟩ | ⟨a, b, c⟩
  · exact ⟨a, b⟩
  · omega
theorem AskI.two {n : Int} {len : Nat} {e e' : Int} {z z' : Prop} (h : AskI n len e z) (h' : AskI n len e' z') (hn : decide (n < 0) = false) : (e = 4 ∧ e' = 4 ∧ z ∧ z' ∧ decide ((len : Int) ≤ n) = true) ∨ (e = 0 ∧ e' = 0 ∧ decide ((len : Int) ≤ n) = false) := by
  have hn' : ¬ n < 0 := by simpa using hn
  rcases h with ⟨a, b, c⟩ | ⟨a, b, c⟩
  · rcases h' with ⟨a', b', c'⟩ | ⟨a', b', c'⟩
    · exact .inl ⟨a, a', b, b', by simp; omega⟩
    · omega
  · rcases h' with ⟨a', b', c'⟩ | ⟨a', b', c'⟩
    · omega
    · exact .inr ⟨a, a', by simp; omega⟩
set_option maxRecDepth 100000 in
set_option maxHeartbeats 8000000 in
theorem asks_any (m c : Int) (A B : Option Addr) (rc bc : Nat) (rooms : List Int) (l : List AC) (n : Int) (w : World) (hv : RowV w noX (.slice A rooms.length rc) (dI rooms)) (ha : ActsAt w B l) :
    Calls Try.prog 7 #[.agg #[.int .i64 m, .int .i64 c, .slice A rooms.length rc], .slice B l.length bc, .int .i64 n] w fun e W' => e = .returned (.bool true) ∧ Kept noX w W' := by
  have HS := Lib.hid (small_any m c A rc rooms B l.length bc)
  have HV := Lib.hid hv
  have HA := Lib.hid ha
  have HW := Lib.hid works_any
  cases hb : (okN m c rooms && decide (l.length ≤ 100)) with
  | false =>
    rw [hb] at HS
    clear hb hv ha
    go_enter Try.func7, Try.ntmps7
    go_wp2_with fail
    refine (HS.out _ (Rep.keep HV.out (by first | exact Kept.refl _ _ | exact (Kept.refl _ _).alloc _))).mono ?_
    rintro e W1 ⟨rfl, hk1⟩
    go_wp2_with (go_at_call 11; refine (HW.out _).mono ?_; rintro e W2 ⟨rfl, hk2⟩)
    go_ret
    exact ⟨rfl, by first | exact hk1.trans hk2 | exact (((Kept.refl _ _).alloc _).trans hk1).trans hk2⟩
  | true =>
    rw [hb] at HS
    rw [Bool.and_eq_true, decide_eq_true_eq] at hb
    have HP := Lib.hid (fun w' (hk : Kept noX w w') => played_any m c A B rc bc rooms l w' (Rep.keep hv hk) (ha.keep hk) hb.1 hb.2)
    clear hb hv ha
    go_enter Try.func7, Try.ntmps7
    go_wp2_with fail
    refine (HS.out _ (Rep.keep HV.out (by first | exact Kept.refl _ _ | exact (Kept.refl _ _).alloc _))).mono ?_
    rintro e W1 ⟨rfl, hk1⟩
    have hF := (Cells.fresh w 24 [.int .i64 m, .int .i64 c, .slice A rooms.length rc]).keep hk1
    have f0 := hF.cell 0
    have f1 := hF.cell 1
    have f2 := hF.cell 2
    simp only [List.getElem?_cons_zero, List.getElem?_cons_succ] at f0 f1 f2
    have HK1 := Lib.hid (((Kept.refl noX w).alloc _).trans hk1)
    clear hF hk1
    go_wp2_with fail
    refine (HP.out _ HK1.out).mono ?_
    rintro e W2 ⟨vs', p, T, S, R, rfl, hS, hR, hL, -, hk2⟩
    obtain ⟨q0', q1', q2', q3', q4', hvs, r0', r1', r2', r3', r4'⟩ := hR
    obtain ⟨D0, n0', d0, rfl, hn0', -⟩ := r0'.form
    obtain ⟨D1, n1', d1, rfl, hn1', -⟩ := r1'.form
    obtain ⟨D2, n2', d2, rfl, hn2', -⟩ := r2'.form
    obtain ⟨D3, n3', d3, rfl, hn3', -⟩ := r3'.form
    obtain ⟨D4, n4', d4, rfl, hn4', -⟩ := r4'.form
    rw [List.length_map] at hn0' hn1' hn2' hn3' hn4'
    subst hn0' hn1' hn2' hn3' hn4'
    subst hvs
    clear r0' r1' r2' r3' r4'
    have HO := Lib.hid (fun W' (hk : Kept noX W2 W') => owner_ask (hS.keep hk) n)
    have HWt := Lib.hid (fun W' (hk : Kept noX W2 W') => waits_ask (hS.keep hk) n)
    have HVl := Lib.hid (fun W' (hk : Kept noX W2 W') => values_ask (hS.keep hk) n)
    have HRm := Lib.hid (fun W' (hk : Kept noX W2 W') => room_ask (hS.keep hk) n)
    rw [hL.1.os] at HO
    rw [hL.1.cs] at HWt
    rw [hL.1.qs] at HVl HRm
    have HK2 := Lib.hid (HK1.out.trans hk2)
    clear hS hL hk2 HP HS HV HA f0 f1 f2
    obtain ⟨W3, hW3⟩ : ∃ W3, W3 = W2.alloc (.cells #[.slice D0 R.ow.length d0, .slice D1 R.cs.length d1, .slice D2 R.rm.length d2, .slice D3 R.st.length d3, .slice D4 R.tk.length d4] 33) := ⟨_, rfl⟩
    have HC3 : Hid (Cells W3 W2.heap.size 33 [.slice D0 R.ow.length d0, .slice D1 R.cs.length d1, .slice D2 R.rm.length d2, .slice D3 R.st.length d3, .slice D4 R.tk.length d4]) := Lib.hid (by rw [hW3]; exact Cells.fresh W2 33 _)
    have HK3 : Hid (Kept noX W2 W3) := Lib.hid (by rw [hW3]; exact (Kept.refl _ _).alloc _)
    have z0 := HC3.out.cell 0
    have z1 := HC3.out.cell 1
    have z2 := HC3.out.cell 2
    simp only [List.getElem?_cons_zero, List.getElem?_cons_succ] at z0 z1 z2
    have Z0 := Lib.hid z0
    have Z1 := Lib.hid z1
    have Z2 := Lib.hid z2
    clear z0 z1 z2
    go_wp2_with fail
    rw [← hW3]
    clear hW3
    refine (HO.out _ HK3.out).mono ?_
    rintro e W4 ⟨o, eo, rfl, hA0, hk4⟩
    have HA0 := Lib.hid hA0
    have HK4 := Lib.hid (HK3.out.trans hk4)
    replace Z0 := Lib.hid (hk4.cell Z0.out)
    replace Z1 := Lib.hid (hk4.cell Z1.out)
    replace Z2 := Lib.hid (hk4.cell Z2.out)
    clear hA0 hk4
    go_wp2_with fail
    refine (HWt.out _ HK4.out).mono ?_
    rintro e W5 ⟨Aw, mw, cw, ew, rfl, hA1, hk5⟩
    have HA1 := Lib.hid hA1
    have HK5 := Lib.hid (HK4.out.trans hk5)
    replace Z0 := Lib.hid (hk5.cell Z0.out)
    replace Z1 := Lib.hid (hk5.cell Z1.out)
    replace Z2 := Lib.hid (hk5.cell Z2.out)
    clear hA1 hk5
    go_wp2_with fail
    refine (HVl.out _ HK5.out).mono ?_
    rintro e W6 ⟨Av, mv, cv, ev, rfl, hA2, hk6⟩
    have HA2 := Lib.hid hA2
    have HK6 := Lib.hid (HK5.out.trans hk6)
    replace Z0 := Lib.hid (hk6.cell Z0.out)
    replace Z1 := Lib.hid (hk6.cell Z1.out)
    replace Z2 := Lib.hid (hk6.cell Z2.out)
    clear hA2 hk6
    go_wp2_with fail
    refine (HRm.out _ HK6.out).mono ?_
    rintro e W7 ⟨o2, er, rfl, hA3, hk7⟩
    have HA3 := Lib.hid hA3
    have HK7 := Lib.hid (HK2.out.trans (HK6.out.trans hk7))
    have z0 := hk7.cell Z0.out
    have z1 := hk7.cell Z1.out
    have z2 := hk7.cell Z2.out
    clear hA3 hk7 HO HWt HVl HRm HK1 HK2 HK3 HK4 HK5 HK6 HC3 Z0 Z1 Z2
    cases hn : decide (n < 0) with
    | true =>
      obtain ⟨rfl, rfl⟩ := HA0.out.low hn
      obtain ⟨rfl, rfl⟩ := HA1.out.low hn
      obtain ⟨rfl, rfl⟩ := HA2.out.low hn
      obtain ⟨rfl, rfl⟩ := HA3.out.low hn
      clear HA0 HA1 HA2 HA3
      go_wp2_with (first
        | (go_at_call 23; refine (num_any _ _).mono ?_; rintro e Wn ⟨rfl, rfl⟩)
        | (go_at_call 11; refine (HW.out _).mono ?_; rintro e W8 ⟨rfl, hk8⟩))
      go_ret
      exact ⟨rfl, HK7.out.trans hk8⟩
    | false =>
      rcases HA0.out.cases hn with ⟨rfl, rfl, g0⟩ | ⟨rfl, g0⟩ <;> rcases HA1.out.cases hn with ⟨rfl, rfl, g1⟩ | ⟨rfl, g1⟩ <;> rcases HA2.out.two HA3.out hn with ⟨rfl, rfl, rfl, rfl, g2⟩ | ⟨rfl, rfl, g2⟩
      all_goals
        clear HA0 HA1 HA2 HA3
        go_wp2_with (first
          | (go_at_call 23; refine (num_any _ _).mono ?_; rintro e Wn ⟨rfl, rfl⟩)
          | (go_at_call 11; refine (HW.out _).mono ?_; rintro e W8 ⟨rfl, hk8⟩))
        go_ret
        exact ⟨rfl, HK7.out.trans hk8⟩
end
end Go.Proofs.Ytehcfahfbdphpaa
namespace Go.Proofs.Ytehcfahfbdphpaa.syncAsks
open Go.ChangeShapes Go.WideShapes Go.ChangeAt Go.RowKit

theorem own : ownKnob Try.prog.godebug = none := by kernel_rfl

set_option maxRecDepth 100000 in
theorem lifted (os : Os) (started : os.Started) (H : Type) (enc : TypeId × Value → H) :
    ReturnsInHanded {} Try.checked os 7 .any (Rows.syncAsksSpec.pre6 enc Try.prog Try.f7 Rows.syncAsksRow.domain false) (Rows.syncAsksSpec.post enc Try.prog Try.f7 false true false false) := by
  refine returnsInHanded_of_change (C := Try.checked) own started (by kernel_rfl) Try.func7
    (ChangeSpec.witness6 (enc := enc) (C := Try.checked) false ⟨#[], #[.agg #[.int .i64 0, .int .i64 0, .slice none 0 0], .slice none 0 0, .int .i64 0], []⟩ 8 (by kernel_rfl) (by kernel_rfl) (by kernel_rfl) (by kernel_rfl)) ?_
  intro W base args ds gs before hval0 hW _ _
  have hval : ∀ (j : Nat) t v, Try.f7.params[j]? = some t → args[j]? = some v → Value.okWide Try.prog W .any base t v := hval0
  have hW' := hW
  obtain ⟨p, q, hA0, hV, rfl, hfz, hnd⟩ := hW
  have hA : DataW.TrodAll enc Try.prog W 0 (fun _ => true) true Try.f7.params.toList args.toList ds p := hA0
  rw [Try.params7] at hA hval
  obtain ⟨v0, vs0, d0, ds0, p0, q0, hargs, rfl, rfl, h0, r0⟩ := trodAll_cons hA
  obtain ⟨v1, vs1, d1, ds1, p1, q1, rfl, rfl, rfl, h1, r1⟩ := trodAll_cons r0
  obtain ⟨v2, vs2, d2, ds2, p2, q2, rfl, rfl, rfl, h2, r2⟩ := trodAll_cons r1
  obtain ⟨rfl, rfl, rfl⟩ := trodAll_nil r2
  obtain rfl : args = #[v0, v1, v2] := by cases args; simp_all
  obtain ⟨rfl, rfl⟩ := trodVars_none hV
  obtain ⟨cs0, rfl, _⟩ := okWide_struct Try.underlying24 (hval 0 24 v0 rfl rfl)
  obtain ⟨fuel0, hf0⟩ := h0
  obtain ⟨m0, c0, A0, rc0, rooms0, hcs0, hr0⟩ := form_of_trod (cs := cs0.toList) hf0
  obtain rfl : cs0 = #[.int .i64 m0, .int .i64 c0, .slice A0 rooms0.length rc0] := Array.toList_inj.1 hcs0
  clear hcs0
  obtain ⟨A1, n1, c1, rfl⟩ := okWide_slice Try.underlying57 (hval 1 57 v1 rfl rfl)
  obtain ⟨fuel1, hf1⟩ := h1
  obtain ⟨l1, rfl, ha1⟩ := acts_of_trod hf1
  obtain ⟨a2, rfl, rfl, rfl, w2⟩ := open_int Try.underlying3 (hval 2 3 v2 rfl rfl) h2
  clear hA0 hval0 hval
  have hlt0 : ∀ x ∈ p0, x.block < W.heap.size := fun x hx => hW'.lt x (by simp [hx])
  have hlt1 : ∀ x ∈ p1, x.block < W.heap.size := fun x hx => hW'.lt x (by simp [hx])
  refine (asks_any m0 c0 A0 A1 rc0 c1 rooms0 l1 a2 W hr0 ha1).mono fun e W' ⟨he, hg⟩ => ?_
  subst he
  have hb : Below W.heap.size W W' := hg.below (Nat.le_refl _) (fun _ h => h.elim)
  exact ⟨_, rfl, post_kept (pa := (p0 ++ (p1 ++ ([] ++ [])))) (pv := []) hW' (fun _ _ _ => (trodAll_cons_mk (shut_bool Try.underlying4 _) trodAll_mk0)) (fun sp hsp => (trodAll_cons_mk (WideElems.Trod_stays (by kernel_rfl) (by kernel_rfl) (of_decide_eq_true (by kernel_rfl)) ⟨fuel0, hf0⟩ (fun x hx => hb.same (hlt0 x hx)) (fun x hx => hsp x (by simp [hx]))) (trodAll_cons_mk (WideElems.Trod_stays (by kernel_rfl) (by kernel_rfl) (of_decide_eq_true (by kernel_rfl)) ⟨fuel1, hf1⟩ (fun x hx => hb.same (hlt1 x hx)) (fun x hx => hsp x (by simp [hx]))) (trodAll_cons_mk (shut_int Try.underlying3 w2) trodAll_mk0)))) (fun _ _ => rfl) (by simp)
    hg (ok_one (by kernel_rfl) rfl (okWide_bool_mk Try.underlying4 _))⟩

theorem over : Rows.syncAsksRow.holds Try.pinned (OpenSpec.ofChange Rows.syncAsksSpec) :=
  OpenClaim.holds_of_wide 7 Try.f7 rfl rfl rfl rfl rfl rfl rfl ⟨rfl, rfl, rfl, rfl, rfl⟩ rfl rfl rfl rfl rfl (by kernel_rfl) Try.func7 (by kernel_rfl)
    (of_decide_eq_true (by kernel_rfl)) (by unfold Func.isWrapper; first | (rw [if_pos (by decide +kernel)]; kernel_rfl) | (rw [if_neg (by decide +kernel)]; exact ⟨rfl, rfl⟩))
    (fun os started H enc _ => lifted os started H enc)

theorem proved : Rows.SyncAsksSaid := over
#print axioms proved
end Go.Proofs.Ytehcfahfbdphpaa.syncAsks
