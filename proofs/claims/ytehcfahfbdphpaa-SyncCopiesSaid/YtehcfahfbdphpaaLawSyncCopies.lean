/- The law SyncCopies: a copy stands alike and goes on apart, and which are the same, of any form that may be, behind any calls (conditions: none). -/
import Derived.Test.YtehcfahfbdphpaaTl1
import Derived.Test.YtehcfahfbdphpaaTl6
import Derived.Test.YtehcfahfbdphpaaTl7
namespace Go.Proofs.Ytehcfahfbdphpaa
open Go.RowKit Go.Shelf

theorem zok_of {S : SS} {R : RS} {n : Nat} (hL : Like S R) (hO : OkR R n) (hn : n ≤ 1000000) : ZOk R :=
  ⟨hO.sz, fun i hi => by have := hO.cs i hi; omega, fun i hi => by have := hO.st i hi; omega, fun i h h1 => (hL.q i (by have := hO.sz; omega)).2.1⟩
theorem same_iff {S S' : SS} {R R' : RS} (hL : Like S R) (hL' : Like S' R') : sameS S S' = true ↔ SameR R R' := by
  unfold sameS SameR
  rw [Bool.and_eq_true, Bool.and_eq_true, decide_eq_true_eq, decide_eq_true_eq, decide_eq_true_eq, hL.os, hL.cs, hL'.os, hL'.cs]
  have key : S.qs = S'.qs ↔ R.rm = R'.rm ∧ ∀ q, q < R.rm.length → sameV R R' q := by
    have g : ∀ q (h : q < R.rm.length) (h' : q < R'.rm.length), S.qs[q]'(hL.qs ▸ h) = S'.qs[q]'(hL'.qs ▸ h') ↔ R.rm[q] = R'.rm[q] ∧ sameV R R' q := fun q h h' => by
      rw [(hL.q q h).1, (hL'.q q h').1, CH.mk.injEq]
      unfold sameV
      simp only [List.getD_eq_getElem?_getD, List.getElem?_eq_getElem (show q < R.st.length from hL.st ▸ h), List.getElem?_eq_getElem (show q < R'.st.length from hL'.st ▸ h'), List.getElem?_eq_getElem (show q < R.tk.length from hL.tk ▸ h), List.getElem?_eq_getElem (show q < R'.tk.length from hL'.tk ▸ h'), Option.getD_some]
      constructor
      · rintro ⟨a, b, c⟩; exact ⟨b, a, by omega⟩
      · rintro ⟨b, a, c⟩; exact ⟨a, b, by omega⟩
    constructor
    · intro e
      have el : R.rm.length = R'.rm.length := by rw [← hL.qs, ← hL'.qs, e]
      have hg : ∀ q (h : q < R.rm.length), R.rm[q] = R'.rm[q]'(el ▸ h) ∧ sameV R R' q := fun q h => (g q h (el ▸ h)).1 (by simp only [e])
      exact ⟨List.ext_getElem el (fun q h1 _ => (hg q h1).1), fun q h => (hg q h).2⟩
    · rintro ⟨e, hv⟩
      have el : R.rm.length = R'.rm.length := by rw [e]
      refine List.ext_getElem (by rw [hL.qs, hL'.qs, el]) (fun q h1 h2 => ?_)
      have h1' : q < R.rm.length := hL.qs ▸ h1
      exact (g q h1' (el ▸ h1')).2 ⟨by simp only [e], hv q h1'⟩
  rw [key]
  constructor
  · rintro ⟨⟨a, b⟩, c, d⟩; exact ⟨a, b, c, d⟩
  · rintro ⟨a, b, c, d⟩; exact ⟨⟨a, b⟩, c, d⟩
theorem same_b {S S' : SS} {R R' : RS} {b : Bool} (hL : Like S R) (hL' : Like S' R') (hb : b = true ↔ SameR R R') : sameS S S' = b := by
  have h := same_iff hL hL'
  cases hs : sameS S S' <;> cases b <;> simp_all
theorem same_comm (S S' : SS) : sameS S S' = sameS S' S := by
  unfold sameS
  simp only [eq_comm (a := S.os), eq_comm (a := S.cs), eq_comm (a := S.qs)]
theorem waits_own {W : World} {T : Nat → Nat} {p : Nat} {S : SS} (h : SyAt W T p S) (n : Int) : Calls Try.prog 16 #[.pointer (some ⟨p, 0, none⟩), .int .i64 n] W fun e W' => ∃ A k c eo xs, e = .returned (.tuple #[.slice A k c, .int .i64 eo]) ∧ W'.ownsRow W.heap.size 3 1 (.slice A k c) k xs ∧ Kept noX W W' := by
  by_cases hn : n < 0 ∨ (S.cs.length : Int) ≤ n
  · refine (waits_out h n hn).mono fun e W' he => ?_
    obtain ⟨⟨v, rfl, ho⟩, hk⟩ := he
    obtain ⟨A, c, rfl, -⟩ := own_formN0 ho
    exact ⟨A, 0, c, 4, [], rfl, ho, hk⟩
  · obtain ⟨k, rfl⟩ : ∃ k : Nat, n = k := ⟨n.toNat, by omega⟩
    refine (waits_in h k (by omega)).mono fun e W' he => ?_
    obtain ⟨⟨v, rfl, ho⟩, hk⟩ := he
    obtain ⟨A, c, rfl, -⟩ := own_formN0 ho
    exact ⟨A, _, c, 0, _, rfl, ho, hk⟩
end Go.Proofs.Ytehcfahfbdphpaa
namespace Go.Proofs.Ytehcfahfbdphpaa
open Go.RowKit Go.Shelf

set_option maxRecDepth 100000 in
set_option maxHeartbeats 16000000 in
theorem copies_any (m c : Int) (A B : Option Addr) (rc bc : Nat) (rooms : List Int) (l : List AC) (q n t v : Int) (w : World) (hv : RowV w noX (.slice A rooms.length rc) (dI rooms)) (ha : ActsAt w B l) :
    Calls Try.prog 8 #[.agg #[.int .i64 m, .int .i64 c, .slice A rooms.length rc], .slice B l.length bc, .agg #[.int .i64 q, .int .i64 n, .int .i64 t, .int .i64 v]] w fun e W' => e = .returned (.bool true) ∧ Kept noX w W' := by
  have HS := Lib.hid (small_any m c A rc rooms B l.length bc)
  have HV := Lib.hid hv
  have HW := Lib.hid works_any
  obtain ⟨W0, hW0⟩ : ∃ W0, W0 = (w.alloc (.cells #[.int .i64 m, .int .i64 c, .slice A rooms.length rc] 24)).alloc (.cells #[.int .i64 q, .int .i64 n, .int .i64 t, .int .i64 v] 62) := ⟨_, rfl⟩
  have hk0 : Kept noX w W0 := hW0 ▸ ((Kept.refl _ _).alloc _).alloc _
  have hF0 : Cells W0 w.heap.size 24 [.int .i64 m, .int .i64 c, .slice A rooms.length rc] := hW0 ▸ (Cells.fresh w 24 _).alloc _
  have hA0 : Cells W0 (w.heap.size + 1) 62 [.int .i64 q, .int .i64 n, .int .i64 t, .int .i64 v] := by
    have h := Cells.fresh (w.alloc (.cells #[.int .i64 m, .int .i64 c, .slice A rooms.length rc] 24)) 62 [.int .i64 q, .int .i64 n, .int .i64 t, .int .i64 v]
    rw [World.size_alloc] at h
    exact hW0 ▸ h
  have f0 := hF0.cell 0
  have f1 := hF0.cell 1
  have f2 := hF0.cell 2
  simp only [List.getElem?_cons_zero, List.getElem?_cons_succ] at f0 f1 f2
  have HK0 := Lib.hid hk0
  have HA0 := Lib.hid hA0
  have hs0 : W0.heap.size = w.heap.size + 2 := by rw [hW0, World.size_alloc, World.size_alloc]
  have HSZ0 := Lib.hid hs0
  clear hA0 hF0 hs0
  cases hb : (okN m c rooms && decide (l.length ≤ 100)) with
  | false =>
    rw [hb] at HS
    clear hb hv ha
    go_enter Try.func8, Try.ntmps8
    go_wp2_with fail
    rw [← hW0]
    clear hW0
    refine (HS.out _ (Rep.keep HV.out HK0.out)).mono ?_
    rintro e W1 ⟨rfl, hk1⟩
    go_wp2_with (go_at_call 11; refine (HW.out _).mono ?_; rintro e W2 ⟨rfl, hk2⟩)
    go_ret
    exact ⟨rfl, (HK0.out.trans hk1).trans hk2⟩
  | true =>
    rw [hb] at HS
    rw [Bool.and_eq_true, decide_eq_true_eq] at hb
    have HP := Lib.hid (fun w' (hk : Kept noX w w') => played_any m c A B rc bc rooms l w' (Rep.keep hv hk) (ha.keep hk) hb.1 hb.2)
    have hll : l.length ≤ 100 := hb.2
    clear hb hv ha
    go_enter Try.func8, Try.ntmps8
    go_wp2_with fail
    rw [← hW0]
    clear hW0
    refine (HS.out _ (Rep.keep HV.out HK0.out)).mono ?_
    rintro e W1 ⟨rfl, hk1⟩
    have f0 := hk1.cell f0
    have f1 := hk1.cell f1
    have f2 := hk1.cell f2
    have HK1 := Lib.hid (HK0.out.trans hk1)
    have HA1 := Lib.hid (HA0.out.keep hk1)
    have HSZ1 := Lib.hid hk1.size
    clear hk1
    go_wp2_with fail
    refine (HP.out _ HK1.out).mono ?_
    rintro e W2 ⟨vs', p, T, S, R, rfl, hS, hR, hL, hTg, hk2⟩
    have HR0 := Lib.hid hR
    obtain ⟨q0', q1', q2', q3', q4', hvs, r0', r1', r2', r3', r4'⟩ := hR
    obtain ⟨D0, n0', d0, rfl, hn0', -⟩ := r0'.form
    obtain ⟨D1, n1', d1, rfl, hn1', -⟩ := r1'.form
    obtain ⟨D2, n2', d2, rfl, hn2', -⟩ := r2'.form
    obtain ⟨D3, n3', d3, rfl, hn3', -⟩ := r3'.form
    obtain ⟨D4, n4', d4, rfl, hn4', -⟩ := r4'.form
    rw [List.length_map] at hn0' hn1' hn2' hn3' hn4'
    subst hn0' hn1' hn2' hn3' hn4'
    subst hvs
    clear r0' r1' r2' r3' r4'
    obtain ⟨W3, hW3⟩ : ∃ W3, W3 = W2.alloc (.cells #[.slice D0 R.ow.length d0, .slice D1 R.cs.length d1, .slice D2 R.rm.length d2, .slice D3 R.st.length d3, .slice D4 R.tk.length d4] 33) := ⟨_, rfl⟩
    have hk3 : Kept noX W2 W3 := hW3 ▸ (Kept.refl _ _).alloc _
    have HG3 : Hid (Cells W3 W2.heap.size 33 [.slice D0 R.ow.length d0, .slice D1 R.cs.length d1, .slice D2 R.rm.length d2, .slice D3 R.st.length d3, .slice D4 R.tk.length d4]) := Lib.hid (hW3 ▸ Cells.fresh W2 33 _)
    have hs3 : W3.heap.size = W2.heap.size + 1 := by rw [hW3, World.size_alloc]
    have HL := Lib.hid hL
    have HT2 := Lib.hid (show (∀ g, T g ≠ 0 → W1.heap.size ≤ g) ∧ (∀ g, T g ≠ 0 → g < W2.heap.size) from ⟨hTg, hS.tagLt⟩)
    have HS3 := Lib.hid (hS.keep hk3)
    have HK3 := Lib.hid ((HK1.out.trans hk2).trans hk3)
    have HA3 := Lib.hid ((HA1.out.keep hk2).keep hk3)
    have HSZ3 := Lib.hid (And.intro hs3 hk2.size)
    have HK23 := Lib.hid hk3
    clear hS hL hTg hk2 hk3 hs3 f0 f1 f2
    go_wp2_with fail
    rw [← hW3]
    clear hW3
    refine (copy_any HS3.out).mono ?_
    rintro e W4 ⟨pc, Tc, rfl, hSc, hTc, hk4⟩
    have HC4 := Lib.hid (And.intro hSc (And.intro hTc hSc.tagLt))
    have HK4 := Lib.hid hk4
    clear hSc hTc hk4
    go_wp2_with fail
    refine (copy_any (HS3.out.keep HK4.out)).mono ?_
    rintro e W5 ⟨pd, Td, rfl, hSd, hTd, hk5⟩
    have HD5 := Lib.hid (And.intro hSd (And.intro hTd hSd.tagLt))
    have HK5 := Lib.hid hk5
    clear hSd hTd hk5
    go_wp2_with fail
    have hss := same_ss ((HS3.out.keep HK4.out).keep HK5.out).prv (HC4.out.1.keep HK5.out).prv
    rw [show sameS S S = true by unfold sameS; simp] at hss
    refine hss.mono ?_
    rintro e W6 ⟨rfl, hk6⟩
    have hsz : w.heap.size + 2 ≤ W1.heap.size ∧ W1.heap.size ≤ W2.heap.size ∧ W3.heap.size = W2.heap.size + 1 ∧ W3.heap.size ≤ W4.heap.size ∧ W4.heap.size ≤ W5.heap.size ∧ W5.heap.size ≤ W6.heap.size := ⟨by have := HSZ0.out; have := HSZ1.out; omega, HSZ3.out.2, HSZ3.out.1, HK4.out.size, HK5.out.size, hk6.size⟩
    have HSZ := Lib.hid hsz
    have hdT : ∀ g, Td g ≠ 0 → W4.heap.size ≤ g ∧ g < W5.heap.size := fun g hg => ⟨HD5.out.2.1 g hg, HD5.out.2.2 g hg⟩
    have hcT : ∀ g, Tc g ≠ 0 → W3.heap.size ≤ g ∧ g < W4.heap.size := fun g hg => ⟨HC4.out.2.1 g hg, HC4.out.2.2 g hg⟩
    have hR6 : RV W6 (fun g => T g ≠ 0 ∨ Td g ≠ 0) [.slice D0 R.ow.length d0, .slice D1 R.cs.length d1, .slice D2 R.rm.length d2, .slice D3 R.st.length d3, .slice D4 R.tk.length d4] R := (((((HR0.out.mono (Z' := fun g => T g ≠ 0 ∨ Td g ≠ 0) (fun g hg h => h.elim id (fun h => by have := (hdT g h).1; omega))).keep HK23.out).keep HK4.out).keep HK5.out).keep hk6)
    have hS6 := (((HS3.out.keep HK4.out).keep HK5.out).keep hk6)
    have HB6 := Lib.hid (both_any hS6 hR6 HL.out.1 HL.out.2.1 (by omega) (fun g hg => Or.inl hg) (fun g hg => by have := HT2.out.2 g; have := hdT g; show g < _; rcases hg with hg | hg <;> (try have := (HT2.out.2 g hg)) <;> (try have := (hdT g hg).2) <;> omega) q n t v)
    have hA6 := (((HA3.out.keep HK4.out).keep HK5.out).keep hk6)
    have hG6 := (((HG3.out.keep HK4.out).keep HK5.out).keep hk6)
    have hC6 := ((HC4.out.1.keep HK5.out).keep hk6)
    have hD6 := HD5.out.1.keep hk6
    have HK6 := Lib.hid (((HK3.out.trans HK4.out).trans HK5.out).trans hk6)
    have x0 := (hA6).cell 0
    have x1 := (hA6).cell 1
    have x2 := (hA6).cell 2
    have x3 := (hA6).cell 3
    simp only [List.getElem?_cons_zero, List.getElem?_cons_succ] at x0 x1 x2 x3
    have z0 := (hG6).cell 0
    have z1 := (hG6).cell 1
    have z2 := (hG6).cell 2
    have z3 := (hG6).cell 3
    have z4 := (hG6).cell 4
    simp only [List.getElem?_cons_zero, List.getElem?_cons_succ] at z0 z1 z2 z3 z4
    have HA6 := Lib.hid hA6
    have HG6 := Lib.hid hG6
    have HC6 := Lib.hid hC6
    have HD6 := Lib.hid hD6
    have HR6 := Lib.hid hR6
    have HDT := Lib.hid hdT
    have HCT := Lib.hid hcT
    clear hA6 hG6 hC6 hD6 hR6 hS6 hdT hcT hk6 hss hsz HA1 HA3 HG3 HS3 HK3 HK4 HK5 HK23 HC4 HD5 HP HS HR0
    go_wp2_with fail
    refine HB6.out.mono ?_
    rintro e W7 ⟨S1, R1, ⟨vs1, T1, rfl, hS7, hTT, hk7, hR7⟩, hL7, hO7, hz7⟩
    have hsz := HSZ.out
    have hT2 := HT2.out
    have hdT := HDT.out
    have hcT := HCT.out
    have hC7 := HC6.out.kept hk7 (fun g hg => Classical.byContradiction fun h => by have := (hcT g h).1; have := hT2.2 g hg; omega)
    have hD7 := HD6.out.kept hk7 (fun g hg => Classical.byContradiction fun h => by have := (hdT g h).1; have := hT2.2 g hg; omega)
    have hRw7 := HR6.out.kept hk7 (fun g _ hg => Or.inl hg)
    have hA7 := HA6.out.kept hk7 (fun h => by have := hT2.1 _ h; omega)
    have hG7 := HG6.out.kept hk7 (fun h => by have := hT2.2 _ h; omega)
    have hks7 := hk7.size
    have hRn7 := hR7
    obtain ⟨q0', q1', q2', q3', q4', hvs, r0', r1', r2', r3', r4'⟩ := hR7
    obtain ⟨E0, n0', e0, rfl, hn0', -⟩ := r0'.form
    obtain ⟨E1, n1', e1, rfl, hn1', -⟩ := r1'.form
    obtain ⟨E2, n2', e2, rfl, hn2', -⟩ := r2'.form
    obtain ⟨E3, n3', e3, rfl, hn3', -⟩ := r3'.form
    obtain ⟨E4, n4', e4, rfl, hn4', -⟩ := r4'.form
    rw [List.length_map] at hn0' hn1' hn2' hn3' hn4'
    subst hn0' hn1' hn2' hn3' hn4'
    subst hvs
    clear r0' r1' r2' r3' r4'
    obtain ⟨W8, hW8⟩ : ∃ W8, W8 = W7.alloc (.cells #[.slice E0 R1.ow.length e0, .slice E1 R1.cs.length e1, .slice E2 R1.rm.length e2, .slice E3 R1.st.length e3, .slice E4 R1.tk.length e4] 33) := ⟨_, rfl⟩
    have hk8 : Kept noX W7 W8 := hW8 ▸ (Kept.refl _ _).alloc _
    have hH8 : Cells W8 W7.heap.size 33 [.slice E0 R1.ow.length e0, .slice E1 R1.cs.length e1, .slice E2 R1.rm.length e2, .slice E3 R1.st.length e3, .slice E4 R1.tk.length e4] := hW8 ▸ Cells.fresh W7 33 _
    have hs8 : W8.heap.size = W7.heap.size + 1 := by rw [hW8, World.size_alloc]
    have HT1 := Lib.hid (show ∀ g, T1 g ≠ 0 → g < W2.heap.size ∨ W6.heap.size ≤ g from fun g hg => by
      rcases Nat.lt_or_ge g W6.heap.size with h | h
      · exact .inl (hT2.2 g (by rw [← hTT g h]; exact hg))
      · exact .inr h)
    have hk67 : Kept noX w W7 := HK6.out.join hk7 (fun g hg hl => by have := hT2.1 g hg; omega)
    have HK8 := Lib.hid (hk67.trans hk8)
    have hA8 := hA7.keep hk8
    have hG8 := hG7.keep hk8
    have hR8 := (hRw7.keep hk8).mono (Z' := fun g => Td g ≠ 0) (fun g _ h => Or.inr h)
    have HRw8 := Lib.hid (hRw7.keep hk8)
    have HRn8 := Lib.hid (hRn7.keep hk8)
    have HS8 := Lib.hid (hS7.keep hk8)
    have HC8 := Lib.hid (hC7.keep hk8)
    have HH8 := Lib.hid hH8
    have HL7 := Lib.hid (And.intro hL7 hO7)
    have HSZ8 := Lib.hid (And.intro hks7 hs8)
    have HB8 := Lib.hid (both_any (hD7.keep hk8) hR8 HL.out.1 HL.out.2.1 (by omega) (fun g hg => hg) (fun g hg => by have := (hdT g hg).2; show g < _; omega) 2 n 7 0)
    clear x0 x1 x2 x3 z0 z1 z2 z3 z4
    have x0 := (hA7).cell 0
    have x1 := (hA7).cell 1
    have x2 := (hA7).cell 2
    have x3 := (hA7).cell 3
    simp only [List.getElem?_cons_zero, List.getElem?_cons_succ] at x0 x1 x2 x3
    have z0 := (hG7).cell 0
    have z1 := (hG7).cell 1
    have z2 := (hG7).cell 2
    have z3 := (hG7).cell 3
    have z4 := (hG7).cell 4
    simp only [List.getElem?_cons_zero, List.getElem?_cons_succ] at z0 z1 z2 z3 z4
    have hgl := hG7.lt
    have hal := hA7.lt
    have HA8 := Lib.hid hA8
    have HG8 := Lib.hid hG8
    clear hS7 hTT hk7 hR8 hL7 hO7 hz7 hsz hT2 hdT hcT hC7 hD7 hRw7 hRn7 hA7 hG7 hks7 hk8 hH8 hs8 hk67 hA8 hG8 HB6 HA6 HG6 HC6 HD6 HR6 HK6
    go_wp2_with fail
    rw [← hW8]
    clear hW8
    refine HB8.out.mono ?_
    rintro e W9 ⟨S2, R2, ⟨vs2, T2, rfl, hS9, hTT, hk9, hR9⟩, hL9, hO9, hz9⟩
    have hsz := HSZ.out
    have hsz8 := HSZ8.out
    have hdT := HDT.out
    have hcT := HCT.out
    have hks9 := hk9.size
    have hS9s := HS8.out.kept hk9 (fun g hg => Classical.byContradiction fun h => by
      have h1 := hdT g hg
      rcases HT1.out g h with h2 | h2 <;> omega)
    have hC9 := HC8.out.kept hk9 (fun g hg => Classical.byContradiction fun h => by have := (hcT g h).2; have := (hdT g hg).1; omega)
    have hRw9 := HRw8.out.kept hk9 (fun g _ hg => Or.inr hg)
    have hRn9 := HRn8.out.kept hk9 (fun g _ hg => Or.inr (Or.inr hg))
    have hA9 := HA8.out.kept hk9 (fun h => by have := hdT _ h; omega)
    have hG9 := HG8.out.kept hk9 (fun h => by have := hdT _ h; omega)
    have hH9 := HH8.out.kept hk9 (fun h => by have := hdT _ h; omega)
    have hRl9 := hR9.any
    obtain ⟨q0', q1', q2', q3', q4', hvs, r0', r1', r2', r3', r4'⟩ := hR9
    obtain ⟨F0, n0', u0, rfl, hn0', -⟩ := r0'.form
    obtain ⟨F1, n1', u1, rfl, hn1', -⟩ := r1'.form
    obtain ⟨F2, n2', u2, rfl, hn2', -⟩ := r2'.form
    obtain ⟨F3, n3', u3, rfl, hn3', -⟩ := r3'.form
    obtain ⟨F4, n4', u4, rfl, hn4', -⟩ := r4'.form
    rw [List.length_map] at hn0' hn1' hn2' hn3' hn4'
    subst hn0' hn1' hn2' hn3' hn4'
    subst hvs
    clear r0' r1' r2' r3' r4'
    obtain ⟨W10, hW10⟩ : ∃ W10, W10 = W9.alloc (.cells #[.slice F0 R2.ow.length u0, .slice F1 R2.cs.length u1, .slice F2 R2.rm.length u2, .slice F3 R2.st.length u3, .slice F4 R2.tk.length u4] 33) := ⟨_, rfl⟩
    have hk10 : Kept noX W9 W10 := hW10 ▸ (Kept.refl _ _).alloc _
    have hJ10 : Cells W10 W9.heap.size 33 [.slice F0 R2.ow.length u0, .slice F1 R2.cs.length u1, .slice F2 R2.rm.length u2, .slice F3 R2.st.length u3, .slice F4 R2.tk.length u4] := hW10 ▸ Cells.fresh W9 33 _
    have hk89 : Kept noX w W9 := HK8.out.join hk9 (fun g hg hl => by have := (hdT g hg).1; omega)
    have HK10 := Lib.hid (hk89.trans hk10)
    have HS10 := Lib.hid (hS9s.keep hk10)
    have HC10 := Lib.hid (hC9.keep hk10)
    have HD10 := Lib.hid (hS9.keep hk10)
    have HRw10 := Lib.hid (hRw9.any.keep hk10)
    have HRn10 := Lib.hid (hRn9.any.keep hk10)
    have HRl10 := Lib.hid (hRl9.keep hk10)
    have HA10 := Lib.hid (hA9.keep hk10)
    have HG10 := Lib.hid (hG9.keep hk10)
    have HH10 := Lib.hid (hH9.keep hk10)
    have HJ10 := Lib.hid hJ10
    have HL9 := Lib.hid hL9
    have HZS := Lib.hid (zsame_any HRw10.out HRn10.out (zok_of HL.out.1 HL.out.2.1 (by omega)) (zok_of HL7.out.1 HL7.out.2 (by omega)))
    clear x0 x1 x2 x3 z0 z1 z2 z3 z4 hgl hal
    have z0 := (hG9).cell 0
    have z1 := (hG9).cell 1
    have z2 := (hG9).cell 2
    have z3 := (hG9).cell 3
    have z4 := (hG9).cell 4
    simp only [List.getElem?_cons_zero, List.getElem?_cons_succ] at z0 z1 z2 z3 z4
    have y0 := (hH9).cell 0
    have y1 := (hH9).cell 1
    have y2 := (hH9).cell 2
    have y3 := (hH9).cell 3
    have y4 := (hH9).cell 4
    simp only [List.getElem?_cons_zero, List.getElem?_cons_succ] at y0 y1 y2 y3 y4
    have hgl := hG9.lt
    have hhl := hH9.lt
    clear hS9 hTT hk9 hL9 hO9 hz9 hsz hsz8 hdT hcT hks9 hS9s hC9 hRw9 hRn9 hA9 hG9 hH9 hRl9 hk10 hJ10 hk89 HB8 HA8 HG8 HH8 HC8 HRw8 HRn8 HS8 HK8
    go_wp2_with fail
    rw [← hW10]
    clear hW10 z0 z1 z2 z3 z4 y0 y1 y2 y3 y4 hgl hhl
    refine HZS.out.mono ?_
    rintro e W11 ⟨⟨b, rfl, hb⟩, hk11⟩
    have HK11 := Lib.hid hk11
    have HBB := Lib.hid hb
    have hA11 := HA10.out.keep hk11
    have x0 := (hA11).cell 0
    have x1 := (hA11).cell 1
    have x2 := (hA11).cell 2
    have x3 := (hA11).cell 3
    simp only [List.getElem?_cons_zero, List.getElem?_cons_succ] at x0 x1 x2 x3
    clear hA11 hk11 hb HZS
    go_wp2_with fail
    refine (waits_own (HC10.out.keep HK11.out) n).mono ?_
    rintro e W12 ⟨Aw, kw, cw, eo, xs, rfl, hown, hk12⟩
    have HO12 := Lib.hid hown
    have hkl : kw ≤ 9223372036854775807 := by
      obtain ⟨_, _, e, h1, h2⟩ := own_formN0 hown
      omega
    have HK12 := Lib.hid hk12
    have HSZ12 := Lib.hid (And.intro HK11.out.size hk12.size)
    clear hown hk12 x0 x1 x2 x3
    go_wp2_with fail
    go_loopw [19] (fun i wr => ∃ (k : Nat) (xs : List Value), k ≤ kw ∧ i = .int .i64 k ∧ wr.ownsRow 0 3 1 (.slice Aw kw cw) kw xs ∧ Kept (fun g => (Value.slice Aw kw cw).ownBlock = some g) W12 wr) (fun i _ => kw - (intOf i).toNat)
    case atStart => exact ⟨0, xs, Nat.zero_le _, rfl, own_low HO12.out (Nat.zero_le _), Kept.refl _ _⟩
    case round =>
      obtain ⟨k, xs, hk, rfl, ho, hkr⟩ := hrel
      by_cases hlt : k < kw
      · have hdl : decide ((k : Int) < (kw : Int)) = true := by simpa using hlt
        obtain ⟨g, rfl⟩ : ∃ g, Aw = some ⟨g, 0, none⟩ := by
          rcases ho.2 with ⟨h1, h2⟩ | ⟨g, _, _, h1, _⟩
          · omega
          · injection h1 with h1 _ _
            exact ⟨g, h1⟩
        obtain ⟨cur, rest, hC, hcur, hl1, hl2⟩ := own_cells ho
        have x0 := hC.cell k
        rw [List.getElem?_eq_getElem (show k < cur.length by omega)] at x0
        have f0 := hC.free k
        have HO := Lib.hid (own_set ho hlt (.int .i64 (-9)))
        have HKR := Lib.hid (hkr.setCell (p := ⟨g, k, none⟩) (fun _ => rfl) (.int .i64 (-9)))
        clear ho hkr hC
        go_wp2
        go_roundw
        case rel => exact ⟨k + 1, _, hlt, by go_num, HO.out, HKR.out⟩
        case measure => simp [intOf]; omega
      · have hdl : decide ((k : Int) < (kw : Int)) = false := by simpa using hlt
        have hk8 : ∀ g, (Value.slice Aw kw cw).ownBlock = some g → W11.heap.size ≤ g := fun g hg => own_ge HO12.out hg
        have hfar : ∀ {T' : Nat → Nat} {p' : Nat} {S' : SS}, SyAt W11 T' p' S' → SyAt wr T' p' S' := fun h => (h.keep HK12.out).kept hkr (fun g hg => Classical.byContradiction fun h2 => by have := h.tagLt g h2; have := hk8 g hg; omega)
        have hrow : ∀ {vs : List Value} {R' : RS}, RV W11 noX vs R' → RV wr noX vs R' := fun h => (((h.mono (Z' := fun g => W11.heap.size ≤ g) (fun g hg h => by omega)).keep HK12.out).kept hkr (fun g _ hg => hk8 g hg)).any
        have hcel : ∀ {g : Nat} {t' : TypeId} {cs : List Value}, Cells W11 g t' cs → Cells wr g t' cs := fun h => (h.keep HK12.out).kept hkr (fun e => by have := hk8 _ e; have := h.lt; omega)
        have hS := hfar (HS10.out.keep HK11.out)
        have hC := hfar (HC10.out.keep HK11.out)
        have hD := hfar (HD10.out.keep HK11.out)
        have hIC := is_any hC (hrow (HRw10.out.keep HK11.out)) HL.out.1
        have hG := hcel (HG10.out.keep HK11.out)
        have hH := hcel (HH10.out.keep HK11.out)
        have hJ := hcel (HJ10.out.keep HK11.out)
        have HIC := Lib.hid hIC
        have HIS := Lib.hid (fun W' (hk : Kept noX wr W') => is_any (hS.keep hk) ((hrow (HRn10.out.keep HK11.out)).keep hk) HL7.out.1)
        have HID := Lib.hid (fun W' (hk : Kept noX wr W') => is_any (hD.keep hk) ((hrow (HRl10.out.keep HK11.out)).keep hk) HL9.out)
        have HSC := Lib.hid (fun W' (hk : Kept noX wr W') => same_ss (hS.keep hk).prv (hC.keep hk).prv)
        have HCS := Lib.hid (fun W' (hk : Kept noX wr W') => same_ss (hC.keep hk).prv (hS.keep hk).prv)
        have hbb := same_b HL.out.1 HL7.out.1 HBB.out
        rw [hbb] at HCS
        rw [same_comm, hbb] at HSC
        have HKW := Lib.hid (((HK10.out.trans HK11.out).trans HK12.out).join hkr (fun g hg hl => by have := hk8 g hg; have := (HK10.out.trans HK11.out).size; omega))
        have z0 := (hG).cell 0
        have z1 := (hG).cell 1
        have z2 := (hG).cell 2
        have z3 := (hG).cell 3
        have z4 := (hG).cell 4
        simp only [List.getElem?_cons_zero, List.getElem?_cons_succ] at z0 z1 z2 z3 z4
        have y0 := (hH).cell 0
        have y1 := (hH).cell 1
        have y2 := (hH).cell 2
        have y3 := (hH).cell 3
        have y4 := (hH).cell 4
        simp only [List.getElem?_cons_zero, List.getElem?_cons_succ] at y0 y1 y2 y3 y4
        have x0 := (hJ).cell 0
        have x1 := (hJ).cell 1
        have x2 := (hJ).cell 2
        have x3 := (hJ).cell 3
        have x4 := (hJ).cell 4
        simp only [List.getElem?_cons_zero, List.getElem?_cons_succ] at x0 x1 x2 x3 x4
        have heb : ∀ w, (binOp .eql 4 (.bool b) (.bool b)).run Try.prog w = .ok (.bool true) w := fun _ => by cases b <;> kernel_rfl
        clear hk8 hfar hrow hcel hS hC hD hIC hG hH hJ hbb hkr ho HS10 HC10 HD10 HRw10 HRn10 HRl10 HG10 HH10 HJ10 HK10 HK11 HK12 HO12 HBB hk
        go_wp2_with (first
          | (go_at_call_of 29 (Value.pointer (some ⟨pc, 0, none⟩)); refine HIC.out.mono ?_; rintro e V1 ⟨rfl, hv1⟩; have y0 := hv1.cell y0; have y1 := hv1.cell y1; have y2 := hv1.cell y2; have y3 := hv1.cell y3; have y4 := hv1.cell y4; have x0 := hv1.cell x0; have x1 := hv1.cell x1; have x2 := hv1.cell x2; have x3 := hv1.cell x3; have x4 := hv1.cell x4)
          | (go_at_call_of 29 (Value.pointer (some ⟨p, 0, none⟩)); refine (HIS.out _ hv1).mono ?_; rintro e V2 ⟨rfl, hv2⟩; have x0 := hv2.cell x0; have x1 := hv2.cell x1; have x2 := hv2.cell x2; have x3 := hv2.cell x3; have x4 := hv2.cell x4; replace hv2 := hv1.trans hv2)
          | (go_at_call_of 29 (Value.pointer (some ⟨pd, 0, none⟩)); refine (HID.out _ hv2).mono ?_; rintro e V3 ⟨rfl, hv3⟩; replace hv3 := hv2.trans hv3)
          | (go_at_call_of 27 (Value.pointer (some ⟨p, 0, none⟩)); refine (HSC.out _ hv3).mono ?_; rintro e V4 ⟨rfl, hv4⟩; replace hv4 := hv3.trans hv4)
          | (go_at_call_of 27 (Value.pointer (some ⟨pc, 0, none⟩)); refine (HCS.out _ hv4).mono ?_; rintro e V5 ⟨rfl, hv5⟩; replace hv5 := hv4.trans hv5)
          | (go_at_call 11; refine (HW.out _).mono ?_; rintro e V6 ⟨rfl, hv6⟩))
        go_ret
        exact ⟨rfl, (HKW.out.trans hv5).trans hv6⟩
end Go.Proofs.Ytehcfahfbdphpaa
namespace Go.Proofs.Ytehcfahfbdphpaa.syncCopies
open Go.ChangeShapes Go.WideShapes Go.ChangeAt Go.RowKit

theorem own : ownKnob Try.prog.godebug = none := by kernel_rfl

set_option maxRecDepth 100000 in
theorem lifted (os : Os) (started : os.Started) (H : Type) (enc : TypeId × Value → H) :
    ReturnsInHanded {} Try.checked os 8 .any (Rows.syncCopiesSpec.pre6 enc Try.prog Try.f8 Rows.syncCopiesRow.domain false) (Rows.syncCopiesSpec.post enc Try.prog Try.f8 false true false false) := by
  refine returnsInHanded_of_change (C := Try.checked) own started (by kernel_rfl) Try.func8
    (ChangeSpec.witness6 (enc := enc) (C := Try.checked) false ⟨#[], #[.agg #[.int .i64 0, .int .i64 0, .slice none 0 0], .slice none 0 0, .agg #[.int .i64 0, .int .i64 0, .int .i64 0, .int .i64 0]], []⟩ 8 (by kernel_rfl) (by kernel_rfl) (by kernel_rfl) (by kernel_rfl)) ?_
  intro W base args ds gs before hval0 hW _ _
  have hval : ∀ (j : Nat) t v, Try.f8.params[j]? = some t → args[j]? = some v → Value.okWide Try.prog W .any base t v := hval0
  have hW' := hW
  obtain ⟨p, q, hA0, hV, rfl, hfz, hnd⟩ := hW
  have hA : DataW.TrodAll enc Try.prog W 0 (fun _ => true) true Try.f8.params.toList args.toList ds p := hA0
  rw [Try.params8] at hA hval
  obtain ⟨v0, vs0, d0, ds0, p0, q0, hargs, rfl, rfl, h0, r0⟩ := trodAll_cons hA
  obtain ⟨v1, vs1, d1, ds1, p1, q1, rfl, rfl, rfl, h1, r1⟩ := trodAll_cons r0
  obtain ⟨v2, vs2, d2, ds2, p2, q2, rfl, rfl, rfl, h2, r2⟩ := trodAll_cons r1
  obtain ⟨rfl, rfl, rfl⟩ := trodAll_nil r2
  obtain rfl : args = #[v0, v1, v2] := by cases args; simp_all
  obtain ⟨rfl, rfl⟩ := trodVars_none hV
  obtain ⟨cs0, rfl, _⟩ := okWide_struct Try.underlying24 (hval 0 24 v0 rfl rfl)
  obtain ⟨fuel0, hf0⟩ := h0
  obtain ⟨m0, c0, A0, rc0, rooms0, hcs0, hr0⟩ := form_of_trod (cs := cs0.toList) hf0
  obtain rfl : cs0 = #[.int .i64 m0, .int .i64 c0, .slice A0 rooms0.length rc0] := Array.toList_inj.1 hcs0
  clear hcs0
  obtain ⟨A1, n1, c1, rfl⟩ := okWide_slice Try.underlying57 (hval 1 57 v1 rfl rfl)
  obtain ⟨fuel1, hf1⟩ := h1
  obtain ⟨l1, rfl, ha1⟩ := acts_of_trod hf1
  obtain ⟨cs2, rfl, _⟩ := okWide_struct Try.underlying62 (hval 2 62 v2 rfl rfl)
  obtain ⟨fuel2, hf2⟩ := h2
  obtain ⟨x2, _, hx2, _⟩ := act_of_trod fuel2 cs2.toList _ hf2
  obtain rfl : cs2 = #[.int .i64 x2.what, .int .i64 x2.n, .int .i64 x2.t, .int .i64 x2.v] := Array.toList_inj.1 (AC.rep.1 hx2)
  clear hA0 hval0 hval
  have hlt0 : ∀ x ∈ p0, x.block < W.heap.size := fun x hx => hW'.lt x (by simp [hx])
  have hlt1 : ∀ x ∈ p1, x.block < W.heap.size := fun x hx => hW'.lt x (by simp [hx])
  have hlt2 : ∀ x ∈ p2, x.block < W.heap.size := fun x hx => hW'.lt x (by simp [hx])
  refine (copies_any m0 c0 A0 A1 rc0 c1 rooms0 l1 x2.what x2.n x2.t x2.v W hr0 ha1).mono fun e W' ⟨he, hg⟩ => ?_
  subst he
  have hb : Below W.heap.size W W' := hg.below (Nat.le_refl _) (fun _ h => h.elim)
  exact ⟨_, rfl, post_kept (pa := (p0 ++ (p1 ++ (p2 ++ [])))) (pv := []) hW' (fun _ _ _ => (trodAll_cons_mk (shut_bool Try.underlying4 _) trodAll_mk0)) (fun sp hsp => (trodAll_cons_mk (WideElems.Trod_stays (by kernel_rfl) (by kernel_rfl) (of_decide_eq_true (by kernel_rfl)) ⟨fuel0, hf0⟩ (fun x hx => hb.same (hlt0 x hx)) (fun x hx => hsp x (by simp [hx]))) (trodAll_cons_mk (WideElems.Trod_stays (by kernel_rfl) (by kernel_rfl) (of_decide_eq_true (by kernel_rfl)) ⟨fuel1, hf1⟩ (fun x hx => hb.same (hlt1 x hx)) (fun x hx => hsp x (by simp [hx]))) (trodAll_cons_mk (WideElems.Trod_stays (by kernel_rfl) (by kernel_rfl) (of_decide_eq_true (by kernel_rfl)) ⟨fuel2, hf2⟩ (fun x hx => hb.same (hlt2 x hx)) (fun x hx => hsp x (by simp [hx]))) trodAll_mk0)))) (fun _ _ => rfl) (by simp)
    hg (ok_one (by kernel_rfl) rfl (okWide_bool_mk Try.underlying4 _))⟩

theorem over : Rows.syncCopiesRow.holds Try.pinned (OpenSpec.ofChange Rows.syncCopiesSpec) :=
  OpenClaim.holds_of_wide 8 Try.f8 rfl rfl rfl rfl rfl rfl rfl ⟨rfl, rfl, rfl, rfl, rfl⟩ rfl rfl rfl rfl rfl (by kernel_rfl) Try.func8 (by kernel_rfl)
    (of_decide_eq_true (by kernel_rfl)) (by unfold Func.isWrapper; first | (rw [if_pos (by decide +kernel)]; kernel_rfl) | (rw [if_neg (by decide +kernel)]; exact ⟨rfl, rfl⟩))
    (fun os started H enc _ => lifted os started H enc)

theorem proved : Rows.SyncCopiesSaid := over
#print axioms proved
end Go.Proofs.Ytehcfahfbdphpaa.syncCopies
