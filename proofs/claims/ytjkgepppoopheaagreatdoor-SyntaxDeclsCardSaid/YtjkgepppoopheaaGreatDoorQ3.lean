/- What the document's reader of layer 2 does at a number, a name, a cell, what stands in parentheses (conditions: at most 1000000 words). -/
import Derived.Test.YtjkgepppoopheaaGreatDoorAbb
import Derived.Test.YtjkgepppoopheaaGreatDoorQ2
set_option maxRecDepth 100000
set_option maxHeartbeats 1000000
namespace Go.Proofs.YtjkgepppoopheaaGreatDoor
open Go.RowKit Go.Shelf
theorem resultsPrim_of {W : World} {B : Nat} {tmps : Array Value} {a b c d e f g : Value} (h : Cells W B 44 [a, b, c, d, e, f, g]) (h2 : tmps.getD 2 undef = .pointer (some ⟨B, 0, none⟩)) :
  (results Tryz.f197 tmps).run Tryz.prog W = .ok (.agg #[a, b, c, d, e, f, g]) W := by
 have d0 := h.cell 0; have d1 := h.cell 1; have d2 := h.cell 2; have d3 := h.cell 3; have d4 := h.cell 4; have d5 := h.cell 5; have d6 := h.cell 6
 simp only [aZ, aS] at d0 d1 d2 d3 d4 d5 d6
 rw [Array.getD_eq_getD_getElem?] at h2
 simp [results, Tryz.results197, go_sem, h2, d0, d1, d2, d3, d4, d5, d6]
theorem numP_yes {n : Nat} {T : Nat → TokD} {k : Nat} (h : numP n T k = true) : k < n ∧ (T k).kind = 2 := by
 unfold numP at h
 simpa using h
theorem prim_some {n : Nat} {T : Nat → TokD} {f : Nat} (hx : ExprC n T f) (R : Nat) (v : Value) (k : Nat) (bad : Bool) (w : World) (h : R2 w R v n T k bad) (_ : k ≤ n) (hf : (n - k) * 10 + 1 ≤ f + 1)
  (hsome : isP n T k bad ⟨#[40]⟩ = true ∨ numP n T k = true) : Calls Tryz.prog 197 #[.pointer (some ⟨R, 0, none⟩)] w (Reads w R v n T (primP n T (f + 1) k bad)) := by
 have hfew := h.few
 have hB := Cells.fresh w 44 [.int .i64 0, .int .i64 0, .string ⟨#[]⟩, .int .i64 0, .bool false, .int .i64 0, .slice none 0 0]
 have hkA := (Kept.refl noX w).alloc (.cells #[.int .i64 0, .int .i64 0, .string ⟨#[]⟩, .int .i64 0, .bool false, .int .i64 0, .slice none 0 0] 44)
 have hA := h.keep hkA
 have HB := aP hB
 have HA := aP hA
 have HKA := aP hkA
 have HT := aP (rdtake_any R v n T k bad ⟨#[40]⟩ _ hA)
 have hRw := h.is.lt
 have hRB : R ≠ w.heap.size := by omega
 have hvB : ∀ g, v.ownBlock = some g → g ≠ w.heap.size := fun g hg => by
  obtain ⟨xs, ho, _⟩ := h.row
  have := (ho.lt g hg).2
  omega
 have hsz : (w.alloc (.cells #[.int .i64 0, .int .i64 0, .string ⟨#[]⟩, .int .i64 0, .bool false, .int .i64 0, .slice none 0 0] 44)).heap.size = w.heap.size + 1 := by simp
 have hpe := aP (show primP n T (f + 1) k bad = _ from by rw [primP])
 clear h hA hB hkA
 cases h1 : isP n T k bad ⟨#[40]⟩ with
 | true =>
  have hst : stepP n T k bad ⟨#[40]⟩ = k + 1 := by simp [stepP, h1]
  have hlt := (isP_lt h1).1
  have HPE : Hid (primP n T (f + 1) k bad = ((exprP n T f 1 (k + 1) bad).1, mustK n T (exprP n T f 1 (k + 1) bad).2.1 (exprP n T f 1 (k + 1) bad).2.2 ⟨#[41]⟩)) := aP (by rw [hpe.out, h1, if_pos rfl])
  rw [h1, hst] at HT
  have HX := aP (fun W (hr : R2 W R v n T (k + 1) bad) => hx R v 1 (k + 1) bad W hr kom kom kom kom)
  have HM := aP (fun W (hr : R2 W R v n T (exprP n T f 1 (k + 1) bad).2.1 (exprP n T f 1 (k + 1) bad).2.2) => rdmust_any R v n T _ _ ⟨#[41]⟩ W hr)
  clear hpe h1 hst hx
  go_enter Tryz.func197, Tryz.ntmps197
  go_wp2_with fail
  refine HT.out.mono ?_
  rintro e W1 ⟨rfl, hr1, hk1⟩
  go_wp2_with fail
  refine (HX.out _ hr1).mono ?_
  rintro e W2 ⟨cs, rfl, hev, hr2, hk2⟩
  obtain ⟨kk, mm, ss, sl, lo, oo, A1, N1, C1, rfl⟩ := hev.form
  have hs1 := hk1.size
  have hs2 := hk2.size
  rw [hsz] at hs1
  have hbx := Cells.fresh W2 44 [.int .i64 kk, .int .i64 mm, .string ss, .int .i64 sl, .bool lo, .int .i64 oo, .slice A1 N1 C1]
  have hka := (Kept.refl noX W2).alloc (.cells #[.int .i64 kk, .int .i64 mm, .string ss, .int .i64 sl, .bool lo, .int .i64 oo, .slice A1 N1 C1] 44)
  have hB2 := ((HB.out.kept hk1 (fun h => hRB h.symm)).kept hk2 (fun h => hRB h.symm)).kept hka (fun h => h)
  have hev2 := hev.keep hka
  have hr3 := hr2.keep hka
  have HK := aP (((HKA.out.any.trans hk1).trans hk2).trans hka.any)
  clear hev hr2 hk2 hr1 hk1 HX HT
  go_wp2_with fail
  refine (HM.out _ hr3).mono ?_
  rintro e W3 ⟨rfl, hr4, hk4⟩
  have hbx3 := hbx.kept hk4 kom
  have hB3 := hB2.kept hk4 (fun h => hRB h.symm)
  have HEV := aP (hev2.kept hk4 (fun g _ h => by have h : g = R := h; show g < W1.heap.size; omega))
  have HR := aP hr4
  have HK2 := aP (HK.out.trans hk4)
  have HB3 := aP hB3
  have b0 := hB3.cell 0; have b1 := hB3.cell 1; have b2 := hB3.cell 2; have b3 := hB3.cell 3; have b4 := hB3.cell 4; have b5 := hB3.cell 5; have b6 := hB3.cell 6
  have g0 := hB3.free 0; have g1 := hB3.free 1; have g2 := hB3.free 2; have g3 := hB3.free 3; have g4 := hB3.free 4; have g5 := hB3.free 5; have g6 := hB3.free 6
  have x0 := hbx3.cell 0; have x1 := hbx3.cell 1; have x2 := hbx3.cell 2; have x3 := hbx3.cell 3; have x4 := hbx3.cell 4; have x5 := hbx3.cell 5; have x6 := hbx3.cell 6
  simp only [aZ, aS] at b0 b1 b2 b3 b4 b5 b6 x0 x1 x2 x3 x4 x5 x6
  clear hbx hbx3 hB2 hB3 hev2 hr3 hr4 hk4 hka HB HA HKA HM
  go_wp2
  have hp := put7_is (a := .int .i64 kk) (b := .int .i64 mm) (c := .string ss) (d := .int .i64 sl) (e := .bool lo) (f := .int .i64 oo) (g := .slice A1 N1 C1) HB3.out
  refine bodyPost_ret (resultsPrim_of hp.1 rfl) rfl ?_
  rw [HPE.out]
  refine Reads.boxed (W := W3) rfl hRB (HEV.out.mono (fun g _ h => by have h : g < w.heap.size + 1 := h; show g < W1.heap.size; omega)) HR.out HK2.out hp.2 ?_ rfl
  exact hvB
 | false =>
  have hst : stepP n T k bad ⟨#[40]⟩ = k := by simp [stepP, h1]
  rw [h1, hst] at HT
  cases h2 : numP n T k with
  | true =>
   have HPE : Hid (primP n T (f + 1) k bad = (numE (numOf n T k bad), kindStep n T k bad 2, kindBad n T k bad 2)) := aP (by rw [hpe.out, h1, if_neg Bool.false_ne_true, h2, if_pos rfl])
   obtain ⟨hlt, hkd⟩ := numP_yes h2
   have hd : decide ((k : Int) < (n : Int)) = true := by simpa using hlt
   have HN := aP (fun W (hr : R2 W R v n T k bad) => rdnumber_any R v n T k bad W hr)
   clear hpe h1 h2 hst hx
   generalize numOf n T k bad = num at HN HPE
   go_enter Tryz.func197, Tryz.ntmps197
   go_wp2_with fail
   refine HT.out.mono ?_
   rintro e W1 ⟨rfl, hr1, hk1⟩
   obtain ⟨A, c, rfl, hc, hm⟩ := hr1.row.form
   obtain ⟨g, c', hv, _, hcell⟩ := hr1.row.at_ hlt
   injection hv with hA' _ hcc
   subst hA'
   subst hcc
   have a0 := hcell 0 kom
   have c0 := hr1.is.cell 0; have c1 := hr1.is.cell 1
   simp only [TokD.cells, aZ, aS, Nat.add_zero, hkd] at a0 c0 c1
   have HR1 := aP (fun nq : Nat => hr1.keep ((Kept.refl noX W1).drewN nq))
   have hB1 := HB.out.kept hk1 (fun h => hRB h.symm)
   have hs1 := hk1.size
   rw [hsz] at hs1
   have HK := aP (HKA.out.any.trans hk1)
   have HB1 := aP hB1
   clear hcell hr1 hk1 HT HA HKA HB hB1
   go_wp2_with fail
   go_quiet (fail)
   go_wp2_with fail
   refine (HN.out _ (HR1.out nq)).mono ?_
   rintro e W2 ⟨rfl, hr2, hk2⟩
   have hk2' : Kept (· = R) W1 W2 := ((Kept.refl noX W1).drewN nq).any.trans hk2
   have hB3 := HB1.out.kept hk2' (fun h => hRB h.symm)
   have HR := aP hr2
   have HK2 := aP (HK.out.trans hk2')
   have HB3 := aP hB3
   have b0 := hB3.cell 0; have b1 := hB3.cell 1; have b2 := hB3.cell 2; have b3 := hB3.cell 3; have b4 := hB3.cell 4; have b5 := hB3.cell 5; have b6 := hB3.cell 6
   have g0 := hB3.free 0; have g1 := hB3.free 1; have g2 := hB3.free 2; have g3 := hB3.free 3; have g4 := hB3.free 4; have g5 := hB3.free 5; have g6 := hB3.free 6
   simp only [aZ, aS] at b0 b1 b2 b3 b4 b5 b6
   clear hB3 hr2 hk2 hk2' c0 c1 a0
   go_wp2
   have hp := put7_is (a := .int .i64 1) (b := .int .i64 num) (c := .string ⟨#[]⟩) (d := .int .i64 0) (e := .bool false) (f := .int .i64 0) (g := .slice none 0 0) HB3.out
   refine bodyPost_ret (resultsPrim_of hp.1 rfl) rfl ?_
   rw [HPE.out]
   refine Reads.boxed (W := W2) rfl hRB (EV.leaf _ _ 1 num ⟨#[]⟩ 0) HR.out HK2.out hp.2 ?_ rfl
   exact hvB
  | false =>
   rw [h1, h2] at hsome
   simp at hsome
end Go.Proofs.YtjkgepppoopheaaGreatDoor
