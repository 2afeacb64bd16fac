/- The document's reader of layer 2 at an expression, whole (conditions: at most 1000000 words). -/
import Derived.Test.YtjkgepppoopheaaGreatDoorAbb
import Derived.Test.YtjkgepppoopheaaGreatDoorQ4
import Derived.Sort.LoopGhostIn
import Derived.Deep.RegionHeld3
set_option maxRecDepth 100000
set_option maxHeartbeats 1000000
namespace Go.Proofs.YtjkgepppoopheaaGreatDoor
open Go.RowKit Go.Shelf
theorem firstOf_ok (p : Nat → Bool) : ∀ c o : Nat, 0 < o → firstOf p o c ≠ 0 → p (firstOf p o c) = true ∧ o ≤ firstOf p o c ∧ firstOf p o c < o + c := by
 intro c
 induction c with
 | zero => intro o _ h; exact absurd rfl h
 | succ c ih =>
  intro o ho h
  rw [firstOf] at h ⊢
  by_cases hp : p o = true
  ·rw [if_pos hp]; exact ⟨hp, Nat.le_refl _, by omega⟩
  ·rw [if_neg hp] at h ⊢
   obtain ⟨h1, h2, h3⟩ := ih (o + 1) kom h
   exact ⟨h1, by omega, by omega⟩
theorem nextP_some {n : Nat} {T : Nat → TokD} {k : Nat} {bad : Bool} {q : Int} (h : nextP n T k bad q ≠ 0) : k < n ∧ bad = false ∧ 0 < nextP n T k bad q ∧ nextP n T k bad q < 12 ∧ rankOf (nextP n T k bad q) = q ∧ isP n T k bad (signOf (nextP n T k bad q)) = true := by
 obtain ⟨h1, h2, h3⟩ := firstOf_ok (opOk n T k bad q) 11 1 (by decide) h
 have e : firstOf (opOk n T k bad q) 1 11 = nextP n T k bad q := rfl
 rw [e] at h1 h2 h3
 unfold opOk at h1
 rw [Bool.and_eq_true, decide_eq_true_eq] at h1
 exact ⟨(isP_lt h1.2).1, (isP_lt h1.2).2, by omega, by omega, h1.1, h1.2⟩
theorem stepP_in {n : Nat} {T : Nat → TokD} {k : Nat} {bad : Bool} {s : ByteArray} (h : k ≤ n) : stepP n T k bad s ≤ n := by
 unfold stepP
 split
 ·rename_i hp; have := (isP_lt hp).1; omega
 ·exact h
theorem kindStep_in {n : Nat} {T : Nat → TokD} {k : Nat} {bad : Bool} {q : Int} (h : k ≤ n) : kindStep n T k bad q ≤ n := by
 unfold kindStep
 split
 ·rename_i hp; have := (kindP_yes hp).2.1; omega
 ·exact h
theorem reads_in (n : Nat) (T : Nat → TokD) : ∀ f, (∀ k bad, k ≤ n → (primP n T f k bad).2.1 ≤ n) ∧ (∀ k bad, k ≤ n → (unP n T f k bad).2.1 ≤ n) ∧ (∀ q k bad, k ≤ n → (exprP n T f q k bad).2.1 ≤ n) ∧ (∀ q e k bad, k ≤ n → (loopP n T f q e k bad).2.1 ≤ n) := by
 intro f
 induction f with
 | zero =>
  refine ⟨fun k bad h => ?_, fun k bad h => ?_, fun q k bad h => ?_, fun q e k bad h => ?_⟩
  ·rw [primP]; exact h
  ·rw [unP]; exact h
  ·rw [exprP]; exact h
  ·rw [loopP]; exact h
 | succ f ih =>
  obtain ⟨h1, h2, h3, h4⟩ := ih
  refine ⟨fun k bad h => ?_, fun k bad h => ?_, fun q k bad h => ?_, fun q e k bad h => ?_⟩
  ·rw [primP]
   split
   ·rename_i hp
    exact stepP_in (h3 1 (k + 1) bad (by have := (isP_lt hp).1; omega))
   ·split
    ·exact kindStep_in h
    ·split
     ·rename_i hp
      exact stepP_in (h3 1 _ _ (by have := (isP_lt hp).1; omega))
     ·exact kindStep_in h
  ·rw [unP]
   split
   ·rename_i hp
    exact h2 (k + 1) bad (by have := (isP_lt hp).1; omega)
   ·split
    ·rename_i hp
     exact h2 (k + 1) bad (by have := (isP_lt hp).1; omega)
    ·exact h1 k bad h
  ·rw [exprP]
   split
   ·exact h2 k bad h
   ·exact h4 q _ _ _ (h3 (q + 1) k bad h)
  ·rw [loopP]
   split
   ·exact h
   ·rename_i hne
    have := (nextP_some hne).1
    split
    ·exact h3 (q + 1) (k + 1) bad kom
    ·exact h4 q _ _ _ (h3 (q + 1) (k + 1) bad kom)
theorem loopP_none {n : Nat} {T : Nat → TokD} {g q : Nat} {e : ET} {k : Nat} {bad : Bool} (h : nextP n T k bad q = 0) : loopP n T g q e k bad = (e, k, bad) := by
 cases g with
 | zero => rw [loopP]
 | succ g => rw [loopP, if_pos h]
def ExI (n : Nat) (T : Nat → TokD) (f q R : Nat) (v : Value) (B E : Nat) (Wl : World) (r : ET × Nat × Bool) (m : Nat) (_ : Value) (wr : World) : Prop :=
 ∃ (g k : Nat) (bad : Bool) (e : ET) (cs : List Value), loopP n T g q e k bad = r ∧ k ≤ n ∧ Cells wr E 44 cs ∧ EV wr (fun b => b ≤ B ∨ b = E) cs e ∧ Cells wr B 44 zeroE ∧ R2 wr R v n T k bad ∧
  Kept (fun b => b = R ∨ b = E) Wl wr ∧ m = n - k ∧ (n - k) * 10 ≤ g ∧ g ≤ f
section
variable {n : Nat} {T : Nat → TokD} {f : Nat}
theorem expr_un (hU : UnC n T f) (R : Nat) (v : Value) (k : Nat) (bad : Bool) (w : World) (h : R2 w R v n T k bad) (hkn : k ≤ n) (hf : (n - k) * 10 + 2 ≤ f) :
  Calls Tryz.prog 171 #[.pointer (some ⟨R, 0, none⟩), .int .i64 6] w (Reads w R v n T (unP n T f k bad)) := by
 have hRw := h.is.lt
 have hkA : Kept noX w (w.alloc (.cells zeroE.toArray 44)) := (Kept.refl _ _).alloc _
 have hvB : ∀ g, v.ownBlock = some g → g < w.heap.size := fun g hg => by
  obtain ⟨xs, ho, _⟩ := h.row
  exact (ho.lt g hg).2
 have HB := aP (Cells.fresh w 44 zeroE)
 have HU := aP (hU R v k bad _ (h.keep hkA) hkn hf)
 have hszA : (w.alloc (.cells zeroE.toArray 44)).heap.size = w.heap.size + 1 := by simp
 have HKA := aP hkA
 generalize unP n T f k bad = r at HU ⊢
 clear h hU hkA
 go_enter Tryz.func171, Tryz.ntmps171
 go_wp2_with fail
 refine HU.out.mono ?_
 rintro e W1 ⟨cs, rfl, hev, hr1, hk1⟩
 obtain ⟨kk, mm, ss, sl, lo, oo, A1, N1, C1, rfl⟩ := hev.form
 have hs1 := hk1.size
 rw [hszA] at hs1 hev
 have HB1 := aP (HB.out.kept hk1 kom)
 have HK1 := aP (HKA.out.any.trans hk1)
 have HR1 := aP hr1
 have HEV := aP hev
 clear hr1 hk1 hev HB HKA HU
 go_wp2_with (((with_reducible refine ats ?_); (refine wpList_store_all rfl rfl 44 (.tmp 4) (.tmp 10) rfl (w.heap.size) rfl [.int .i64 kk, .int .i64 mm, .string ss, .int .i64 sl, .bool lo, .int .i64 oo, .slice A1 N1 C1] rfl HB1.out (by rfl) krf k1c ?_; intro W9 hB9 hk9; have HB9 := aP hB9; clear hB9)))
 have hR9 := HR1.out.other hk9 kom (fun g hg => by have := hvB g hg; omega)
 refine ret_box Tryz.results171 rfl HB9.out Tryz.underlying44 rfl krf rfl (Reads.fin rfl ?_ hR9 (HK1.out.join hk9 (fun i hi hlt2 => by have hi : i = w.heap.size := hi; omega)))
 exact (HEV.out.kept hk9 (fun g _ h => by have h : g = w.heap.size := h; show g < w.heap.size + 1; omega)).mono (fun g _ h => by have h : g < w.heap.size := h; show g < w.heap.size + 1; omega)
set_option maxHeartbeats 2000000 in
theorem expr_loop (hE : ∀ g, g ≤ f → ExprC n T g) (R : Nat) (v : Value) (q k : Nat) (bad : Bool) (w : World) (h : R2 w R v n T k bad) (hkn : k ≤ n) (hq1 : 1 ≤ q) (hq5 : q ≤ 5) (hf : (n - k) * 10 + (8 - q) ≤ f) :
  Calls Tryz.prog 171 #[.pointer (some ⟨R, 0, none⟩), .int .i64 (q : Nat)] w (Reads w R v n T (loopP n T f q (exprP n T f (q + 1) k bad).1 (exprP n T f (q + 1) k bad).2.1 (exprP n T f (q + 1) k bad).2.2)) := by
 have hRw := h.is.lt
 have hfew := h.few
 have hkA : Kept noX w (w.alloc (.cells zeroE.toArray 44)) := (Kept.refl _ _).alloc _
 have hvB : ∀ g, v.ownBlock = some g → g < w.heap.size := fun g hg => by
  obtain ⟨xs, ho, _⟩ := h.row
  exact (ho.lt g hg).2
 have HVB := aP hvB
 have HB := aP (Cells.fresh w 44 zeroE)
 have HX := aP (hE f (Nat.le_refl _) R v (q + 1) k bad _ (h.keep hkA) hkn kom kom kom)
 have hk' := (reads_in n T f).2.2.1 (q + 1) k bad hkn
 have hk'' := (reads_on n T f).2.2.1 (q + 1) k bad
 have hszA : (w.alloc (.cells zeroE.toArray 44)).heap.size = w.heap.size + 1 := by simp
 have HKA := aP hkA
 have HE := aP hE
 have hd5 : decide (5 < (q : Int)) = false := by simp; omega
 have hwrap : IntKind.i64.wrap ((q : Int) + 1) = (q : Int) + 1 := IntWalk.i64_in _ kom
 generalize exprP n T f (q + 1) k bad = rx at HX hk' hk'' ⊢
 obtain ⟨ex, kx, bx⟩ := rx
 dsimp only at HX hk' hk'' ⊢
 generalize hrr : loopP n T f q ex kx bx = rr
 have HRR := aP hrr
 clear h hE hkA hvB hrr
 go_enter Tryz.func171, Tryz.ntmps171
 go_wp2_with fail
 refine HX.out.mono ?_
 rintro e W1 ⟨cs, rfl, hev, hr1, hk1⟩
 obtain ⟨ka, ma, sa, sla, loa, oa, Aa, Na, Ca, rfl⟩ := hev.form
 have hs1 := hk1.size
 rw [hszA] at hs1 hev
 go_wp2_with fail
 obtain ⟨Wl, hWl⟩ : ∃ Wl, Wl = W1.alloc (.cells #[.int .i64 ka, .int .i64 ma, .string sa, .int .i64 sla, .bool loa, .int .i64 oa, .slice Aa Na Ca] 44) := ⟨_, rfl⟩
 have hkl : Kept noX W1 Wl := by rw [hWl]; exact (Kept.refl _ _).alloc _
 have hsl : Wl.heap.size = W1.heap.size + 1 := by rw [hWl]; simp
 have hE5 : Cells Wl W1.heap.size 44 [.int .i64 ka, .int .i64 ma, .string sa, .int .i64 sla, .bool loa, .int .i64 oa, .slice Aa Na Ca] := by rw [hWl]; exact Cells.fresh W1 44 _
 rw [← hWl]
 clear hWl
 obtain ⟨E, hEe⟩ : ∃ E, E = W1.heap.size := ⟨_, rfl⟩
 rw [← hEe] at hE5 hsl ⊢
 have hEw : w.heap.size < E := by omega
 have HI := aP (show ExI n T f q R v w.heap.size E Wl rr (n - kx) undef Wl from ⟨f, kx, bx, ex, _, HRR.out, hk', hE5, (hev.mono (Z' := fun b => b ≤ w.heap.size ∨ b = E) (fun b hb h => by
     have h : b ≤ w.heap.size ∨ b = E := h
     show b < w.heap.size + 1
     omega)).keep hkl, (HB.out.kept hk1 kom).keep hkl, hr1.keep hkl, Kept.refl _ _, rfl, by omega, Nat.le_refl _⟩)
 have HKL := aP (show Kept (fun b => b = R ∨ b = E) w Wl from (((HKA.out.any.trans hk1).mono (fun b _ h => .inl h)).trans hkl.any))
 clear hev hr1 hk1 hkl hE5 HB HKA HX hEe hk' hk'' HRR
 go_loopg [6] (n - kx) (fun m v6 wr => ExI n T f q R v w.heap.size E Wl rr m v6 wr)
 case atStart => exact HI.out
 case round =>
  obtain ⟨g, kk, bb, ee, cs, hlp, hkkn, hcE, hev, hcB, hr, hkr, rfl, hg1, hg2⟩ := hrel
  obtain ⟨ky, my, sy, sly, loy, oy, Ay, Ny, Cy, rfl⟩ := hev.form
  have lE := hcE.lt
  have lB := hcB.lt
  have HCE := aP hcE
  have HCB := aP hcB
  have HEV := aP hev
  have HR := aP hr
  have HKR := aP hkr
  have HN := aP (fun W (hk : Kept noX wr W) => rdnext_any R v n T kk bb q W (hr.keep hk))
  have hNX := aP (fun h => nextP_some (n := n) (T := T) (k := kk) (bad := bb) (q := (q : Int)) h)
  have hLN := aP (fun h => loopP_none (n := n) (T := T) (g := g) (q := q) (e := ee) (k := kk) (bad := bb) h)
  have hLS := aP (show ∀ g', g = g' + 1 → nextP n T kk bb q ≠ 0 → rr = if q = 3 then (binE (nextP n T kk bb q : Nat) ee (exprP n T g' (q + 1) (kk + 1) bb).1, (exprP n T g' (q + 1) (kk + 1) bb).2) else loopP n T g' q (binE (nextP n T kk bb q : Nat) ee (exprP n T g' (q + 1) (kk + 1) bb).1) (exprP n T g' (q + 1) (kk + 1) bb).2.1 (exprP n T g' (q + 1) (kk + 1) bb).2.2 from by
    intro g' hg' hne
    rw [← hlp, hg', loopP, if_neg hne])
  have HLP := aP hlp
  generalize nextP n T kk bb q = N at HN hNX hLN hLS
  clear hcE hcB hev hr hkr hlp
  go_wp2_with fail
  refine (HN.out _ (Kept.refl _ _)).mono ?_
  rintro e W2 ⟨rfl, hk2⟩
  have hs2 := hk2.size
  by_cases hN0 : N = 0
  ·subst hN0
   have HL := aP (HLP.out.symm.trans (hLN.out rfl))
   have HCE2 := aP (HCE.out.keep hk2)
   have HCB2 := aP (HCB.out.keep hk2)
   have HEV2 := aP (HEV.out.keep hk2)
   have HR2 := aP (HR.out.keep hk2)
   have HK2 := aP ((HKL.out.trans HKR.out).trans hk2.any)
   clear HN hNX hLN hLS hk2 HLP
   go_wp2_with (first
     | ((with_reducible refine atl ?_); (refine wpList_load_cells rfl 44 (.tmp 5) rfl (E) rfl _ Tryz.underlying44 rfl HCE2.out krf ?_))
     | ((with_reducible refine ats ?_); (refine wpList_store_all rfl rfl 44 (.tmp 4) (.tmp 40) rfl (w.heap.size) rfl [.int .i64 ky, .int .i64 my, .string sy, .int .i64 sly, .bool loy, .int .i64 oy, .slice Ay Ny Cy] rfl HCB2.out (by rfl) krf k1c ?_; intro W9 hB9 hk9; have HB9 := aP hB9; clear hB9)))
   have hR9 := HR2.out.other hk9 kom (fun g hg => by have := HVB.out g hg; omega)
   refine ret_box Tryz.results171 rfl HB9.out Tryz.underlying44 rfl krf rfl ?_
   rw [HL.out]
   exact Reads.fin rfl ((HEV2.out.kept hk9 (fun b _ h => by have h : b = w.heap.size := h; show b ≤ _ ∨ _; omega)).mono (fun b _ h => by have h : b < w.heap.size := h; show b ≤ _ ∨ _; omega)) hR9 (HK2.out.join hk9 (fun i hi hlt2 => by have hi : i = w.heap.size := hi; omega) |>.mono (fun i hlt2 hi => by have hi : i = R ∨ i = E := hi; show i = R; omega))
  ·obtain ⟨hkn2, rfl, hN1, hN2, _, _⟩ := hNX.out hN0
   have hd0 : decide ((0 : Int) < (N : Int)) = true := by simp; omega
   obtain ⟨g', rfl⟩ : ∃ g', g = g' + 1 := ⟨g - 1, by omega⟩
   have HLS := aP (hLS.out g' rfl hN0)
   have HX := aP (HE.out g' kom R v (q + 1) (kk + 1) false)
   have hx1 := (reads_in n T g').2.2.1 (q + 1) (kk + 1) false kom
   have hx2 := (reads_on n T g').2.2.1 (q + 1) (kk + 1) false
   generalize exprP n T g' (q + 1) (kk + 1) false = r6 at HX HLS hx1 hx2
   obtain ⟨e6, kk6, b6⟩ := r6
   dsimp only at HX HLS hx1 hx2
   clear hNX hLN hLS HLP
   go_wp2_with fail
   refine (HN.out _ hk2).mono ?_
   rintro e W3 ⟨rfl, hk3⟩
   have hs3 := hk3.size
   have hk23 := hk2.trans hk3
   have hr3 := HR.out.keep hk23
   have c1 := hr3.is.cell 1; have f1 := hr3.is.free 1
   simp only [aZ, aS] at c1
   have HST := aP (hr3.step (kk + 1))
   have HCE3 := aP (HCE.out.keep hk23)
   have HCB3 := aP (HCB.out.keep hk23)
   have HEV3 := aP (HEV.out.keep hk23)
   have HKR3 := aP (HKR.out.trans hk23.any)
   clear HN hk2 hk3 hk23 hr3 HCE HCB HEV HKR HR
   go_wp2_with fail
   obtain ⟨W4, hW4⟩ : ∃ W4, W4 = W3.setCell ⟨R, 1, none⟩ (.int .i64 ((kk + 1 : Nat) : Int)) := ⟨_, rfl⟩
   have e1 : Value.int .i64 ((kk : Int) + 1) = .int .i64 ((kk + 1 : Nat) : Int) := rfl
   rw [e1, ← hW4]
   rw [← hW4] at HST
   have hk4 := HST.out.2
   have hs4 := hk4.size
   have HR4 := aP HST.out.1
   have HCE4 := aP (HCE3.out.kept hk4 kom)
   have HCB4 := aP (HCB3.out.kept hk4 kom)
   have HEV4 := aP (HEV3.out.kept hk4 (fun b _ h => by have h : b = R := h; show b ≤ _ ∨ _; omega))
   have HKR4 := aP (HKR3.out.trans (hk4.mono (fun b _ h => .inl h)))
   clear hW4 HST hk4 c1 f1 e1 HCE3 HCB3 HEV3 HKR3
   have p0 := HCE4.out.cell 0
   have p1 := HCE4.out.cell 1
   have p2 := HCE4.out.cell 2
   have p3 := HCE4.out.cell 3
   have p4 := HCE4.out.cell 4
   have p5 := HCE4.out.cell 5
   have p6 := HCE4.out.cell 6
   have q0 := HCE4.out.free 0
   have q1 := HCE4.out.free 1
   have q2 := HCE4.out.free 2
   have q3 := HCE4.out.free 3
   have q4 := HCE4.out.free 4
   have q5 := HCE4.out.free 5
   have q6 := HCE4.out.free 6
   simp only [aZ, aS] at p0 p1 p2 p3 p4 p5 p6
   clear q0 q1 q2 q3 q4 q5 q6
   refine wp_region_held_drew (S := (fun _ => True)) krf trivial (fun hHeld => ?_)
   refine wpAnyH_take (i := 0) (v := ?_) rfl krf krf krf (fun _ _ _ h => h) (Or.inl ⟨by rfl, ?_⟩) (by assumption) ?_
   rotate_left
   ·intro wS hSw
    (try dsimp only at hSw)
    go_simp
    (try with_reducible rfl)
   refine wpAnyH_take (i := 2) (v := ?_) rfl krf krf krf (fun _ _ _ h => h) (Or.inl ⟨by rfl, ?_⟩) (by assumption) ?_
   rotate_left
   ·intro wS hSw
    (try dsimp only at hSw)
    go_simp
    (try with_reducible rfl)
   refine wpAnyH_take (i := 3) (v := ?_) rfl krf krf krf (fun _ _ _ h => h) (Or.inl ⟨by rfl, ?_⟩) (by assumption) ?_
   rotate_left
   ·intro wS hSw
    (try dsimp only at hSw)
    go_simp
    (try with_reducible rfl)
   refine wpAnyH_take (i := 4) (v := ?_) rfl krf krf krf (fun _ _ _ h => h) (Or.inl ⟨by rfl, ?_⟩) (by assumption) ?_
   rotate_left
   ·intro wS hSw
    (try dsimp only at hSw)
    go_simp
    (try with_reducible rfl)
   refine wpAnyH_ready (rs := [1, 5]) krf (by simp) ?_
   refine (AllReadyH.cons rfl (fun K hK => ?_) (AllReadyH.cons rfl (fun K hK => ?_) AllReadyH.nil))
   ·go_simp
    refine hK.out _ _ trivial (fun hHeld => ?_)
    clear hK K
    refine wpAnyH_ready (rs := [5]) krf (by simp) ?_
    refine (AllReadyH.cons rfl (fun K hK => ?_) AllReadyH.nil)
    go_simp
    refine (HX.out _ (HR4.out.keep ((Kept.refl noX W4).drew)) kom kom kom kom).mono ?_
    rintro e W6 ⟨cs6, rfl, hev6, hr6, hk6⟩
    obtain ⟨k6, m6, s6, sl6, lo6, o6, A6, N6, C6, rfl⟩ := hev6.form
    have hk6' : Kept (· = R) W4 W6 := ((Kept.refl noX W4).drew).any.trans hk6
    have hs6 := hk6'.size
    have HCE6 := aP (HCE4.out.kept hk6' kom)
    have HCB6 := aP (HCB4.out.kept hk6' kom)
    have HEV6 := aP (HEV4.out.kept hk6' (fun b _ h => by have h : b = R := h; show b ≤ _ ∨ _; omega))
    have HKR6 := aP (HKR4.out.trans (hk6'.mono (fun b _ h => .inl h)))
    have HR6 := aP hr6
    have HE6 := aP hev6
    clear p0 p1 p2 p3 p4 p5 p6 hk6 hk6' hr6 hev6 HCE4 HCB4 HEV4 HKR4 HR4
    dsimp only
    refine hK.out _ _ trivial (fun hHeld => ?_)
    clear hK K
    refine wpAnyH_ready (rs := [6]) krf (by simp) ?_
    refine (AllReadyH.cons rfl (fun K hK => ?_) AllReadyH.nil)
    go_simp
    obtain ⟨Wa, hWa⟩ : ∃ Wa, Wa = W6.alloc (.cells ([.int .i64 ky, .int .i64 my, .string sy, .int .i64 sly, .bool loy, .int .i64 oy, .slice Ay Ny Cy] ++ [.int .i64 k6, .int .i64 m6, .string s6, .int .i64 sl6, .bool lo6, .int .i64 o6, .slice A6 N6 C6] : List Value).toArray 44) := ⟨_, rfl⟩
    have hka : Kept noX W6 Wa := by rw [hWa]; exact (Kept.refl _ _).alloc _
    have hevm : EV W6 (fun b => b ≤ w.heap.size ∨ b = E) [.int .i64 k6, .int .i64 m6, .string s6, .int .i64 sl6, .bool lo6, .int .i64 o6, .slice A6 N6 C6] e6 := HE6.out.mono (fun b _ h => by have h : b ≤ w.heap.size ∨ b = E := h; show b < W4.heap.size; omega)
    have HTW := aP (show EV Wa (fun b => b ≤ w.heap.size ∨ b = E) [.int .i64 6, .int .i64 0, .string ⟨#[]⟩, .int .i64 0, .bool false, .int .i64 N, .slice (some ⟨W6.heap.size, 0, none⟩) 2 2] (binE N ee e6) from by
      rw [hWa]
      exact EV.two HEV6.out hevm (by show ¬ (_ ≤ _ ∨ _); omega) 6 0 ⟨#[]⟩ N 44)
    have HCEa := aP (HCE6.out.keep hka)
    have HCBa := aP (HCB6.out.keep hka)
    have HRa := aP (HR6.out.keep hka)
    have HKRa := aP (HKR6.out.trans hka.any)
    have hsa := hka.size
    simp only [List.cons_append, List.nil_append] at hWa
    rw [← hWa]
    clear hWa hka hevm HCE6 HCB6 HR6 HKR6 HEV6 HE6
    refine hK.out _ _ trivial (fun hHeld => ?_)
    clear hK K
    refine wpAnyH_take (i := 7) (v := ?_) rfl krf krf krf (fun _ _ _ h => h) (Or.inl ⟨by rfl, ?_⟩) (by assumption) ?_
    rotate_left
    ·intro wS hSw
     (try dsimp only at hSw)
     go_simp
     (try with_reducible rfl)
    refine wpAnyH_ready (rs := [8]) krf (by simp) ?_
    refine (AllReadyH.cons rfl (fun K hK => ?_) AllReadyH.nil)
    rw [if_pos (by rfl)]
    refine wp_store_part rfl 44 (.tmp 5) (.tmp 36) rfl E 0 rfl [.int .i64 6, .int .i64 0, .string ⟨#[]⟩, .int .i64 0, .bool false, .int .i64 N, .slice (some ⟨W6.heap.size, 0, none⟩) 2 2] rfl HCEa.out kle krf k1c ?_
    intro W8 hB8 hk8
    have HCE8 := aP (show Cells W8 E 44 [.int .i64 6, .int .i64 0, .string ⟨#[]⟩, .int .i64 0, .bool false, .int .i64 N, .slice (some ⟨W6.heap.size, 0, none⟩) 2 2] from by simpa using hB8)
    have HCB8 := aP (HCBa.out.kept hk8 kom)
    have HTW8 := aP (HTW.out.kept hk8 (fun b _ h => by have h : b = E := h; show b ≤ _ ∨ _; omega))
    have HR8 := aP (HRa.out.other hk8 kom (fun g hg => by have := HVB.out g hg; omega))
    have HKR8 := aP (HKRa.out.trans (hk8.mono (fun b _ h => .inr h)))
    have hs8 := hk8.size
    clear hB8 hk8 HCEa HCBa HRa HKRa HTW
    refine hK.out _ _ trivial (fun hHeld => ?_)
    clear hK K
    refine wpAnyH_done krf ?_ _
    by_cases h3 : q = 3
    ·exact k_7
    ·exact k_10
   ·go_simp
    refine (HX.out _ (HR4.out.keep ((Kept.refl noX W4).drew)) kom kom kom kom).mono ?_
    rintro e W6 ⟨cs6, rfl, hev6, hr6, hk6⟩
    obtain ⟨k6, m6, s6, sl6, lo6, o6, A6, N6, C6, rfl⟩ := hev6.form
    have hk6' : Kept (· = R) W4 W6 := ((Kept.refl noX W4).drew).any.trans hk6
    have hs6 := hk6'.size
    have HCE6 := aP (HCE4.out.kept hk6' kom)
    have HCB6 := aP (HCB4.out.kept hk6' kom)
    have HEV6 := aP (HEV4.out.kept hk6' (fun b _ h => by have h : b = R := h; show b ≤ _ ∨ _; omega))
    have HKR6 := aP (HKR4.out.trans (hk6'.mono (fun b _ h => .inl h)))
    have HR6 := aP hr6
    have HE6 := aP hev6
    clear p0 p1 p2 p3 p4 p5 p6
    have p0 := HCE6.out.cell 0
    have p1 := HCE6.out.cell 1
    have p2 := HCE6.out.cell 2
    have p3 := HCE6.out.cell 3
    have p4 := HCE6.out.cell 4
    have p5 := HCE6.out.cell 5
    have p6 := HCE6.out.cell 6
    have q0 := HCE6.out.free 0
    have q1 := HCE6.out.free 1
    have q2 := HCE6.out.free 2
    have q3 := HCE6.out.free 3
    have q4 := HCE6.out.free 4
    have q5 := HCE6.out.free 5
    have q6 := HCE6.out.free 6
    simp only [aZ, aS] at p0 p1 p2 p3 p4 p5 p6
    clear q0 q1 q2 q3 q4 q5 q6
    clear hk6 hk6' hr6 hev6 HCE4 HCB4 HEV4 HKR4 HR4
    dsimp only
    refine hK.out _ _ trivial (fun hHeld => ?_)
    clear hK K
    refine wpAnyH_ready (rs := [1]) krf (by simp) ?_
    refine (AllReadyH.cons rfl (fun K hK => ?_) AllReadyH.nil)
    go_simp
    refine hK.out _ _ trivial (fun hHeld => ?_)
    clear hK K
    clear p0 p1 p2 p3 p4 p5 p6
    refine wpAnyH_ready (rs := [6]) krf (by simp) ?_
    refine (AllReadyH.cons rfl (fun K hK => ?_) AllReadyH.nil)
    go_simp
    obtain ⟨Wa, hWa⟩ : ∃ Wa, Wa = W6.alloc (.cells ([.int .i64 ky, .int .i64 my, .string sy, .int .i64 sly, .bool loy, .int .i64 oy, .slice Ay Ny Cy] ++ [.int .i64 k6, .int .i64 m6, .string s6, .int .i64 sl6, .bool lo6, .int .i64 o6, .slice A6 N6 C6] : List Value).toArray 44) := ⟨_, rfl⟩
    have hka : Kept noX W6 Wa := by rw [hWa]; exact (Kept.refl _ _).alloc _
    have hevm : EV W6 (fun b => b ≤ w.heap.size ∨ b = E) [.int .i64 k6, .int .i64 m6, .string s6, .int .i64 sl6, .bool lo6, .int .i64 o6, .slice A6 N6 C6] e6 := HE6.out.mono (fun b _ h => by have h : b ≤ w.heap.size ∨ b = E := h; show b < W4.heap.size; omega)
    have HTW := aP (show EV Wa (fun b => b ≤ w.heap.size ∨ b = E) [.int .i64 6, .int .i64 0, .string ⟨#[]⟩, .int .i64 0, .bool false, .int .i64 N, .slice (some ⟨W6.heap.size, 0, none⟩) 2 2] (binE N ee e6) from by
      rw [hWa]
      exact EV.two HEV6.out hevm (by show ¬ (_ ≤ _ ∨ _); omega) 6 0 ⟨#[]⟩ N 44)
    have HCEa := aP (HCE6.out.keep hka)
    have HCBa := aP (HCB6.out.keep hka)
    have HRa := aP (HR6.out.keep hka)
    have HKRa := aP (HKR6.out.trans hka.any)
    have hsa := hka.size
    simp only [List.cons_append, List.nil_append] at hWa
    rw [← hWa]
    clear hWa hka hevm HCE6 HCB6 HR6 HKR6 HEV6 HE6
    refine hK.out _ _ trivial (fun hHeld => ?_)
    clear hK K
    refine wpAnyH_take (i := 7) (v := ?_) rfl krf krf krf (fun _ _ _ h => h) (Or.inl ⟨by rfl, ?_⟩) (by assumption) ?_
    rotate_left
    ·intro wS hSw
     (try dsimp only at hSw)
     go_simp
     (try with_reducible rfl)
    refine wpAnyH_ready (rs := [8]) krf (by simp) ?_
    refine (AllReadyH.cons rfl (fun K hK => ?_) AllReadyH.nil)
    rw [if_pos (by rfl)]
    refine wp_store_part rfl 44 (.tmp 5) (.tmp 36) rfl E 0 rfl [.int .i64 6, .int .i64 0, .string ⟨#[]⟩, .int .i64 0, .bool false, .int .i64 N, .slice (some ⟨W6.heap.size, 0, none⟩) 2 2] rfl HCEa.out kle krf k1c ?_
    intro W8 hB8 hk8
    have HCE8 := aP (show Cells W8 E 44 [.int .i64 6, .int .i64 0, .string ⟨#[]⟩, .int .i64 0, .bool false, .int .i64 N, .slice (some ⟨W6.heap.size, 0, none⟩) 2 2] from by simpa using hB8)
    have HCB8 := aP (HCBa.out.kept hk8 kom)
    have HTW8 := aP (HTW.out.kept hk8 (fun b _ h => by have h : b = E := h; show b ≤ _ ∨ _; omega))
    have HR8 := aP (HRa.out.other hk8 kom (fun g hg => by have := HVB.out g hg; omega))
    have HKR8 := aP (HKRa.out.trans (hk8.mono (fun b _ h => .inr h)))
    have hs8 := hk8.size
    clear hB8 hk8 HCEa HCBa HRa HKRa HTW
    refine hK.out _ _ trivial (fun hHeld => ?_)
    clear hK K
    refine wpAnyH_done krf ?_ _
    by_cases h3 : q = 3
    ·exact k_7
    ·exact k_10
end
section
variable {n : Nat} {T : Nat → TokD} {f : Nat}
theorem prim_step (hx : ExprC n T f) : PrimC n T (f + 1) := by
 intro R v k bad w h hkn hf
 cases h1 : isP n T k bad ⟨#[40]⟩ with
 | true => exact prim_some hx R v k bad w h hkn hf (.inl h1)
 | false =>
 cases h2 : numP n T k with
 | true => exact prim_some hx R v k bad w h hkn hf (.inr h2)
 | false =>
 have hks := kindStep_le n T k bad 1
 cases h3 : isP n T (kindStep n T k bad 1) (kindBad n T k bad 1) ⟨#[91]⟩ with
 | false =>
  rw [show primP n T (f + 1) k bad = (nameE (nameOf n T k bad), kindStep n T k bad 1, kindBad n T k bad 1) from by
    rw [primP, h1, if_neg Bool.false_ne_true, h2, if_neg Bool.false_ne_true, h3, if_neg Bool.false_ne_true]]
  by_cases hlt : k < n
  ·refine prim_name_lt R v k bad w h hlt ?_ h1 h3
   unfold numP at h2
   rw [decide_eq_true hlt, Bool.true_and, decide_eq_false_iff_not] at h2
   simpa using h2
  ·exact prim_name_end R v k bad w h kom h1 h3
 | true =>
  rw [show primP n T (f + 1) k bad = (cellE (nameOf n T k bad) (exprP n T f 1 (kindStep n T k bad 1 + 1) (kindBad n T k bad 1)).1,
      mustK n T (exprP n T f 1 (kindStep n T k bad 1 + 1) (kindBad n T k bad 1)).2.1 (exprP n T f 1 (kindStep n T k bad 1 + 1) (kindBad n T k bad 1)).2.2 ⟨#[93]⟩) from by
    rw [primP, h1, if_neg Bool.false_ne_true, h2, if_neg Bool.false_ne_true, h3, if_pos rfl]]
  by_cases hlt : k < n
  ·refine prim_cell_lt hx R v k bad w h hlt ?_ h1 h3 kom
   unfold numP at h2
   rw [decide_eq_true hlt, Bool.true_and, decide_eq_false_iff_not] at h2
   simpa using h2
  ·exact prim_cell_end hx R v k bad w h kom h1 h3 kom
theorem expr_step (hU : UnC n T f) (hE : ∀ g, g ≤ f → ExprC n T g) : ExprC n T (f + 1) := by
 intro R v q k bad w h hkn hq1 hq6 hf
 rw [exprP]
 by_cases h5 : 5 < q
 ·obtain rfl : q = 6 := by omega
  rw [if_pos (by decide)]
  exact expr_un hU R v k bad w h hkn kom
 ·rw [if_neg h5]
  exact expr_loop hE R v q k bad w h hkn hq1 kom kom
end
theorem rexprs_all (n : Nat) (T : Nat → TokD) : ∀ f, UnC n T f ∧ PrimC n T f ∧ ExprC n T f := by
 intro f
 induction f using Nat.strongRecOn with
 | _ f ih =>
  cases f with
  | zero =>
   refine ⟨fun R v k bad w h hkn hf => absurd hf kom, fun R v k bad w h hkn hf => absurd hf kom, fun R v q k bad w h hkn hq1 hq6 hf => absurd hf kom⟩
  | succ f =>
   have h := ih f kom
   exact ⟨un_step h.1 h.2.1, prim_step h.2.2, expr_step h.1 (fun g hg => (ih g kom).2.2)⟩
end Go.Proofs.YtjkgepppoopheaaGreatDoor
