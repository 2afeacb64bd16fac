/- The project's reader of expressions, whole (conditions: at most 1000000 words; the table of operators stands). -/
import Derived.Test.YtjkgepppoopheaaGreatDoorG6
import Derived.Deep.RegionWith
import Derived.Deep.RegionHeld3
namespace Go.Proofs.YtjkgepppoopheaaGreatDoor
open Go.RowKit Go.Shelf

section
variable {S : Src} {f R k : Nat} {w : World}

theorem oper_step (hO : OperC S f) (hA : AboveC S f) : OperC S (f + 1) := by
  intro R k w h hf
  cases ht1 : takeB S k ⟨#[45]⟩ with
  | true => exact oper_minus hO h hf ht1
  | false =>
    cases ht2 : takeB S k ⟨#[33]⟩ with
    | true => exact oper_not hO h hf ht1 ht2
    | false =>
      cases ht3 : takeB S k ⟨#[40]⟩ with
      | true => exact oper_paren hA h hf ht1 ht2 ht3
      | false =>
        cases hkb : kindB S k 2 with
        | true => exact oper_num h ht1 ht2 ht3 hkb
        | false => exact oper_name hA h hf ht1 ht2 ht3 hkb

theorem thn_some {α β : Type} {r : Except Nat (α × Nat)} {g : α → Nat → Except Nat (β × Nat)} {p : β × Nat} (h : thn r g = .ok p) : ∃ a k, r = .ok (a, k) ∧ g a k = .ok p := by
  cases r with
  | error k => cases h
  | ok q => exact ⟨q.1, q.2, rfl, h⟩
theorem ofS_some {q : Int} {p : TokD × Nat} (h : ofS S k q = .ok p) : p = (S.tok k, k + 1) ∧ kindB S k q = true := by
  unfold ofS at h
  cases hk : kindB S k q with
  | true => rw [hk, if_pos rfl] at h; injection h with h; exact ⟨h.symm, rfl⟩
  | false => rw [hk] at h; cases h
theorem nameS_some {p : ByteArray × Nat} (h : nameS S k = .ok p) : p = ((S.tok k).text, k + 1) ∧ kindB S k 1 = true := by
  obtain ⟨a, k', h1, h2⟩ := thn_some h
  obtain ⟨h3, h4⟩ := ofS_some h1
  injection h3 with h5 h6
  subst h5 h6
  injection h2 with h2
  exact ⟨h2.symm, h4⟩
theorem numS_some {p : Int × Nat} (h : numS S k = .ok p) : p = ((S.tok k).num, k + 1) ∧ kindB S k 2 = true := by
  obtain ⟨a, k', h1, h2⟩ := thn_some h
  obtain ⟨h3, h4⟩ := ofS_some h1
  injection h3 with h5 h6
  subst h5 h6
  injection h2 with h2
  exact ⟨h2.symm, h4⟩
theorem wantS_some {s : ByteArray} {p : Unit × Nat} (h : wantS S k s = .ok p) : p = ((), k + 1) ∧ takeB S k s = true := by
  unfold wantS at h
  cases hk : takeB S k s with
  | true => rw [hk, if_pos rfl] at h; injection h with h; exact ⟨h.symm, rfl⟩
  | false => rw [hk] at h; cases h

/-- What is read lies behind. -/
theorem reads_fwd (S : Src) : ∀ f, (∀ k p, operandS S f k = .ok p → k < p.2) ∧ (∀ least k p, aboveS S f least k = .ok p → k < p.2) ∧ (∀ least e has k p, climbS S f least e has k = .ok p → k ≤ p.2) := by
  intro f
  induction f with
  | zero => exact ⟨fun k p h => (by rw [operandS] at h; cases h), fun l k p h => (by rw [aboveS] at h; cases h), fun l e q k p h => (by rw [climbS] at h; cases h)⟩
  | succ f ih =>
    obtain ⟨h1, h2, h3⟩ := ih
    refine ⟨fun k p h => ?_, fun l k p h => ?_, fun l e q k p h => ?_⟩
    · rw [operandS] at h
      split at h
      · obtain ⟨a, k', h4, h5⟩ := thn_some h
        injection h5 with h5; subst h5
        have := h1 _ _ h4; dsimp only at *; omega
      · split at h
        · obtain ⟨a, k', h4, h5⟩ := thn_some h
          injection h5 with h5; subst h5
          have := h1 _ _ h4; dsimp only at *; omega
        · split at h
          · obtain ⟨a, k', h4, h5⟩ := thn_some h
            obtain ⟨b, k2, h6, h7⟩ := thn_some h5
            injection h7 with h7; subst h7
            have := h2 _ _ _ h4
            have e := (wantS_some h6).1
            injection e with _ e; dsimp only at *; omega
          · split at h
            · obtain ⟨a, k', h4, h5⟩ := thn_some h
              injection h5 with h5; subst h5
              have e := (numS_some h4).1
              injection e with _ e; dsimp only at *; omega
            · obtain ⟨a, k', h4, h5⟩ := thn_some h
              have e := (nameS_some h4).1
              injection e with _ e
              split at h5
              · obtain ⟨b, k2, h6, h7⟩ := thn_some h5
                obtain ⟨c, k3, h8, h9⟩ := thn_some h7
                injection h9 with h9; subst h9
                have := h2 _ _ _ h6
                have e := (wantS_some h8).1
                injection e with _ e; dsimp only at *; omega
              · injection h5 with h5; subst h5; dsimp only at *; omega
    · rw [aboveS] at h
      obtain ⟨a, k', h4, h5⟩ := thn_some h
      have := h1 _ _ h4
      have := h3 _ _ _ _ _ h5
      dsimp only at *; omega
    · rw [climbS] at h
      split at h
      · injection h with h; subst h; exact Nat.le_refl _
      · obtain ⟨a, k', h4, h5⟩ := thn_some h
        have := h2 _ _ _ h4
        have := h3 _ _ _ _ _ h5
        dsimp only at *; omega

theorem rankFrom_spec (p : ByteArray → Int → Bool) : ∀ (l : List (List (ByteArray × Int))) (r : Nat), ((rankFrom p l r).2.2 = true → (rankFrom p l r).2.1 < r + l.length ∧ p (rankFrom p l r).1.1 (rankFrom p l r).1.2 = true ∧ (rankFrom p l r).1 ∈ l.flatten) ∧ ((rankFrom p l r).2.2 = false → (rankFrom p l r).2.1 = 0) := by
  intro l
  induction l with
  | nil => intro r; exact ⟨fun h => (by cases h), fun _ => rfl⟩
  | cons row l ih =>
    intro r
    rw [rankFrom]
    cases h : rowFind p row with
    | some x =>
      refine ⟨fun _ => ⟨by simp, ?_, ?_⟩, fun h => by cases h⟩
      · have := List.find?_some h; exact this
      · have := List.mem_of_find?_eq_some h
        exact List.mem_flatten.2 ⟨row, by simp, this⟩
    | none =>
      obtain ⟨h1, h2⟩ := ih (r + 1)
      refine ⟨fun h => ?_, h2⟩
      obtain ⟨h3, h4, h5⟩ := h1 h
      refine ⟨by simp; omega, h4, ?_⟩
      rw [List.flatten_cons]
      exact List.mem_append_right _ h5
theorem signs_ranked (s : ByteArray) : (rankedP (signP s)).2.1 ≤ 4 ∧ ((rankedP (signP s)).2.2 = true → s ≠ ⟨#[]⟩ ∧ (rankedP (signP s)).1.1 = s) := by
  obtain ⟨h1, h2⟩ := rankFrom_spec (signP s) opsL 0
  have e : rankedP (signP s) = rankFrom (signP s) opsL 0 := rfl
  rw [← e] at h1 h2
  generalize rankedP (signP s) = y at h1 h2
  cases h : y.2.2 with
  | false => exact ⟨by rw [h2 h]; omega, fun h => by cases h⟩
  | true =>
    obtain ⟨h3, h4, h5⟩ := h1 h
    have hl : opsL.length = 5 := rfl
    have h6 : y.1.1 = s := of_decide_eq_true h4
    refine ⟨by omega, fun _ => ⟨?_, h6⟩⟩
    rw [← h6]
    have hall : ∀ x ∈ opsL.flatten, x.1 ≠ ⟨#[]⟩ := by decide
    exact hall _ h5

/-- What holds while the loop of above goes on: it is still r that is to be told. -/
def AbvI (S : Src) (f R least B2 B5 : Nat) (Wl : World) (r : Except Nat (ET × Nat)) (m : Nat) (v6 : Value) (wr : World) : Prop :=
  ∃ (g has k : Nat) (e : ET) (cs : List Value), v6 = .int .i64 (has : Nat) ∧ has ≤ 5 ∧ climbS S g least e has k = r ∧ Cells wr B5 44 cs ∧ EV wr (fun b => b ≤ B2 ∨ b = B5) cs e ∧ Cells wr B2 44 zeroE ∧ DR wr R S k ∧
    Kept (fun b => b = R ∨ b = B5) Wl wr ∧ m = S.n - k ∧ (S.n - k) * 3 + 1 ≤ g ∧ g ≤ f

set_option maxRecDepth 100000 in
set_option maxHeartbeats 1000000 in
theorem above_step (hops : ∀ W, S.inv W → OpsAt W) (hO : OperC S f) (hA : ∀ g, g ≤ f → AboveC S g) : AboveC S (f + 1) := by
  intro R least k w h hl hf
  have HS : Hid (aboveS S (f + 1) least k = thn (operandS S f k) fun e k => climbS S f least e 5 k) := Lib.hid (by rw [aboveS])
  have HO := Lib.hid (fun W (h : DR W R S k) => hO R k W h (by omega))
  have HFW := Lib.hid ((reads_fwd S f).1 k)
  have HA := Lib.hid hA
  have HOPS := Lib.hid hops
  have hRl := h.lt
  have hB := Cells.fresh w 44 zeroE
  have HB := Lib.hid hB
  have hsz : (w.alloc (.cells zeroE.toArray 44)).heap.size = w.heap.size + 1 := by simp
  clear hB hO hA hops
  go_enter Tryz.func169, Tryz.ntmps169
  go_wp2_with fail
  refine (HO.out _ (by repeat (first | assumption | (with_reducible refine DR.alloc ?_ _) | (with_reducible refine DR.drewN ?_ _) | (with_reducible refine DR.drew ?_) | (with_reducible refine DR.set ?_ (by first | omega | (simp; omega)) _) | (with_reducible refine DR.kept ?_ (by assumption) (fun g hg => by first | exact hg.elim | ((try dsimp only at hg); omega)))))).mono ?_
  intro e W1 hq
  rcases hq.cases with ⟨kx, hr, hm, hk1⟩ | ⟨a1, k1, hr, hret, hd1, hk1⟩
  · unfold Misfit at hm
    subst hm
    have HX := Lib.hid hr
    clear hr
    go_wp2
    exact ⟨rfl, Parsed.err (HS.out.trans (by rw [HX.out]; rfl)) rfl (by repeat (first | assumption | (with_reducible exact Kept.refl _ _) | (with_reducible refine Kept.alloc ?_ _) | (with_reducible refine Kept.drew ?_) | (with_reducible refine Kept.drewN ?_ _) | (with_reducible refine Kept.setCell ?_ ?_ _) | (with_reducible refine Kept.trans ?_ (by assumption)) | (with_reducible refine Kept.trans ?_ (Kept.any (by assumption))) | (with_reducible refine Kept.own ?_ (by assumption) (by omega)) | (intro hxx; first | rfl | ((try dsimp only at hxx ⊢); omega))))⟩
  have hkf : k < k1 := HFW.out _ hr
  replace HS := Lib.hid (HS.out.trans (by rw [hr, thn_ok]))
  clear hr hq
  obtain ⟨ra1, rb1, rc1⟩ := hk1.readsR (show _ = w.heap.size + 1 from hsz)
  obtain ⟨csx, rfl, hevx⟩ := hret
  obtain ⟨kx, mx, sx, slx, lox, ox, Ax, Nx, Cx, rfl⟩ := hevx.form
  have HEVx := Lib.hid hevx
  clear hevx
  have la1 : R < W1.heap.size := by omega
  have lb1 : w.heap.size < W1.heap.size := by omega
  go_wp2
  obtain ⟨Wl, hWl⟩ : ∃ Wl, W1.alloc (.cells #[.int .i64 kx, .int .i64 mx, .string sx, .int .i64 slx, .bool lox, .int .i64 ox, .slice Ax Nx Cx] 44) = Wl := ⟨_, rfl⟩
  have hkl : Kept noX W1 Wl := by rw [← hWl]; exact (Kept.refl _ _).alloc _
  have hB5 : Cells Wl W1.heap.size 44 [.int .i64 kx, .int .i64 mx, .string sx, .int .i64 slx, .bool lox, .int .i64 ox, .slice Ax Nx Cx] := by rw [← hWl]; exact Cells.fresh W1 44 _
  have hI : AbvI S f R least w.heap.size W1.heap.size Wl (aboveS S (f + 1) least k) (S.n - k1) (.int .i64 5) Wl :=
    ⟨f, 5, k1, a1, _, rfl, Nat.le_refl _, HS.out.symm, hB5, (HEVx.out.mono (Z' := fun b => b ≤ w.heap.size ∨ b = W1.heap.size) (fun b hb h => by
        have h : b ≤ w.heap.size ∨ b = W1.heap.size := h
        show b < _
        rw [hsz]
        omega)).keep hkl, ((HB.out.kept hk1 (by omega)).keep hkl), hd1.keep hkl, Kept.refl _ _, rfl, by omega, Nat.le_refl _⟩
  rw [hWl]
  have HI := Lib.hid hI
  have HKL := Lib.hid hkl
  clear hI hkl hWl hB5
  go_loopg [6] (S.n - k1) (fun m v6 wr => AbvI S f R least w.heap.size W1.heap.size Wl (aboveS S (f + 1) least k) m v6 wr)
  case atStart => exact HI.out
  case round =>
    obtain ⟨g, has, kk, ee, cs, rfl, hhas, hcl, hc5, hev, hc2, hdr, hkr, rfl, hg1, hg2⟩ := hrel
    obtain ⟨ky, my, sy, sly, loy, oy, Ay, Ny, Cy, rfl⟩ := hev.form
    have hsl := HKL.out.size
    have hsr := hkr.size
    have lr1 : R < W1.heap.size := la1
    have lr2 : W1.heap.size < wr.heap.size := hc5.lt
    have lr3 : w.heap.size < wr.heap.size := hc2.lt
    have lr4 : R < wr.heap.size := by omega
    have hsg := signs_ranked (S.tok kk).text
    have hcs : climbS S g least ee has kk = aboveS S (f + 1) least k := hcl
    have HC5 := Lib.hid hc5
    have HC2 := Lib.hid hc2
    have HEV := Lib.hid hev
    have HKR := Lib.hid hkr
    have HCL := Lib.hid hcl
    have HNX := Lib.hid (next_any hdr)
    have HOP := Lib.hid (fun W (h : DR W R S kk) => HOPS.out W h.inv)
    have hmf : ∀ (fn : Fn) (first cap : Array Value) (w : World), (Instr.makeFunc fn first cap).run Tryz.prog w = .ok (.func fn first cap) w := fun _ _ _ _ => rfl
    have p0 := hc5.cell 0
    have p1 := hc5.cell 1
    have p2 := hc5.cell 2
    have p3 := hc5.cell 3
    have p4 := hc5.cell 4
    have p5 := hc5.cell 5
    have p6 := hc5.cell 6
    have q0 := hc5.free 0
    have q1 := hc5.free 1
    have q2 := hc5.free 2
    have q3 := hc5.free 3
    have q4 := hc5.free 4
    have q5 := hc5.free 5
    have q6 := hc5.free 6
    simp only [List.getElem?_cons_zero, List.getElem?_cons_succ] at p0 p1 p2 p3 p4 p5 p6
    have z0 := hc2.cell 0
    have z1 := hc2.cell 1
    have z2 := hc2.cell 2
    have z3 := hc2.cell 3
    have z4 := hc2.cell 4
    have z5 := hc2.cell 5
    have z6 := hc2.cell 6
    have y0 := hc2.free 0
    have y1 := hc2.free 1
    have y2 := hc2.free 2
    have y3 := hc2.free 3
    have y4 := hc2.free 4
    have y5 := hc2.free 5
    have y6 := hc2.free 6
    simp only [List.getElem?_cons_zero, List.getElem?_cons_succ] at z0 z1 z2 z3 z4 z5 z6
    simp only [TokD.cells] at HNX
    have hopt : opAt S kk = rankedP (signP (S.tok kk).text) := rfl
    generalize htt : (S.tok kk).text = t at *
    have HTT := Lib.hid htt
    have HSG := Lib.hid hsg
    have HOPT := Lib.hid hopt
    clear htt hsg hopt hc5 hc2 hev hkr hcl hcs hsl hsr
    go_wp2_with fail
    refine HNX.out.mono ?_
    rintro e W2 ⟨rfl, hk2⟩
    have hd2 := hdr.keep hk2
    obtain ⟨ra2, rb2, rc2⟩ := hk2.readsN rfl
    have lc1 : R < W2.heap.size := by omega
    have lc2 : w.heap.size < W2.heap.size := by omega
    have lc3 : W1.heap.size < W2.heap.size := by omega
    have hb7 := Cells.fresh W2 9 [.string t]
    have HB7 := Lib.hid hb7
    have hd3 := hd2.alloc (.cells #[.string t] 9)
    have HD3 := Lib.hid hd3
    clear hb7 hd3 hd2
    go_wp2_with fail
    refine (ranked_gen 186 #[.pointer (some ⟨W2.heap.size, 0, none⟩)] (enters_of Tryz.func186 (by kernel_rfl) rfl) (signP t) _ (HOP.out _ HD3.out) (fun W s o hk => aboveC_any W2.heap.size t s o W ((HB7.out.keep hk).cell 0))).mono ?_
    rintro e W3 ⟨rfl, hk3⟩
    have hd3 := HD3.out.keep hk3
    obtain ⟨ra3, rb3, rc3⟩ := hk3.readsN (World.size_alloc _ _)
    have ld1 : R < W3.heap.size := by omega
    have ld2 : w.heap.size < W3.heap.size := by omega
    have ld3 : W1.heap.size < W3.heap.size := by omega
    have ld4 : W2.heap.size < W3.heap.size := by omega
    have HD4 := Lib.hid hd3
    simp only [rankedV]
    rw [← HOPT.out] at HSG ⊢
    have hkw : Kept (· = R) w W3 := (((((show Kept (· = R) w W1 from (by repeat (first | assumption | (with_reducible exact Kept.refl _ _) | (with_reducible refine Kept.alloc ?_ _) | (with_reducible refine Kept.drew ?_) | (with_reducible refine Kept.drewN ?_ _) | (with_reducible refine Kept.setCell ?_ ?_ _) | (with_reducible refine Kept.trans ?_ (by assumption)) | (with_reducible refine Kept.trans ?_ (Kept.any (by assumption))) | (with_reducible refine Kept.own ?_ (by assumption) (by omega)) | (intro hxx; first | rfl | ((try dsimp only at hxx ⊢); omega))))).trans HKL.out.any).join HKR.out (fun i hi hlt => by have hi : i = R ∨ i = W1.heap.size := hi; show i = R; omega)).trans hk2.any).alloc _).trans hk3.any
    have HKW := Lib.hid hkw
    clear hkw
    generalize hop : opAt S kk = y at *
    obtain ⟨⟨sg, on⟩, rk, isb⟩ := y
    have HOPE := Lib.hid hop
    clear hop
    obtain ⟨hrk, hsg⟩ := HSG.out
    dsimp only at hrk hsg ⊢
    have HSG2 := Lib.hid hsg
    clear hsg
    cases isb with
    | false =>
      have HST := Lib.hid (show stopS S least has kk = true from by unfold stopS; rw [HOPE.out]; rfl)
      have HS := Lib.hid (show aboveS S (f + 1) least k = .ok (ee, kk) from by
        rw [← HCL.out]
        obtain ⟨g', rfl⟩ : ∃ g', g = g' + 1 := ⟨g - 1, by omega⟩
        rw [climbS, if_pos HST.out])
      go_wp2
      have hd3 := HD4.out
      have hkf : Kept (· = R) w W3 := HKW.out
      refine fin_box (W := W3) (B := w.heap.size) (t := 44) (old := zeroE) Tryz.results169 [.int .i64 ky, .int .i64 my, .string sy, .int .i64 sly, .bool loy, .int .i64 oy, .slice Ay Ny Cy] rfl (by repeat (first | (with_reducible exact HC2.out) | (with_reducible refine Cells.alloc ?_ _) | (with_reducible refine Cells.drew ?_) | (with_reducible refine Cells.drewN ?_ _) | (with_reducible refine Cells.keep ?_ (by assumption)) | (with_reducible refine Cells.kept ?_ (by assumption) (by omega)) | (with_reducible refine Cells.far ?_ (by dsimp only; omega) _))) rfl hd3 (by omega) (by omega) (by repeat (first | assumption | (with_reducible exact Kept.refl _ _) | (with_reducible refine Kept.alloc ?_ _) | (with_reducible refine Kept.drew ?_) | (with_reducible refine Kept.drewN ?_ _) | (with_reducible refine Kept.setCell ?_ ?_ _) | (with_reducible refine Kept.trans ?_ (by assumption)) | (with_reducible refine Kept.trans ?_ (Kept.any (by assumption))) | (with_reducible refine Kept.own ?_ (by assumption) (by omega)) | (intro hxx; first | rfl | ((try dsimp only at hxx ⊢); omega)))) Tryz.underlying44 rfl (by kernel_rfl) rfl (by simp only [putL, Nat.reduceAdd]; repeat (first | (with_reducible exact Kept.refl _ _) | (with_reducible refine Kept.alloc ?_ _) | (with_reducible refine Kept.drewN ?_ _) | (with_reducible refine Kept.drew ?_))) (fun hdf hkf hkB hsB => Parsed.ok HS.out ⟨_, rfl, ?_⟩ hdf hkf)
      exact (((((HEV.out.keep hk2).keep ((Kept.refl _ _).alloc _)).keep hk3).kept hkB (fun g _ h => by have h : g = w.heap.size := h; show g ≤ _ ∨ _; omega)).keep ((Kept.refl _ _).alloc _)).mono (fun g _ h => by have h : g < w.heap.size := h; show g ≤ _ ∨ _; omega)
    | true =>
      by_cases hlt1 : rk < least
      · have HST := Lib.hid (show stopS S least has kk = true from by unfold stopS; rw [HOPE.out]; simp [hlt1])
        have hd1 : decide ((rk : Int) < (least : Int)) = true := by simpa using hlt1
        have HS := Lib.hid (show aboveS S (f + 1) least k = .ok (ee, kk) from by
          rw [← HCL.out]
          obtain ⟨g', rfl⟩ : ∃ g', g = g' + 1 := ⟨g - 1, by omega⟩
          rw [climbS, if_pos HST.out])
        go_wp2
        have hd3 := HD4.out
        have hkf : Kept (· = R) w W3 := HKW.out
        refine fin_box (W := W3) (B := w.heap.size) (t := 44) (old := zeroE) Tryz.results169 [.int .i64 ky, .int .i64 my, .string sy, .int .i64 sly, .bool loy, .int .i64 oy, .slice Ay Ny Cy] rfl (by repeat (first | (with_reducible exact HC2.out) | (with_reducible refine Cells.alloc ?_ _) | (with_reducible refine Cells.drew ?_) | (with_reducible refine Cells.drewN ?_ _) | (with_reducible refine Cells.keep ?_ (by assumption)) | (with_reducible refine Cells.kept ?_ (by assumption) (by omega)) | (with_reducible refine Cells.far ?_ (by dsimp only; omega) _))) rfl hd3 (by omega) (by omega) (by repeat (first | assumption | (with_reducible exact Kept.refl _ _) | (with_reducible refine Kept.alloc ?_ _) | (with_reducible refine Kept.drew ?_) | (with_reducible refine Kept.drewN ?_ _) | (with_reducible refine Kept.setCell ?_ ?_ _) | (with_reducible refine Kept.trans ?_ (by assumption)) | (with_reducible refine Kept.trans ?_ (Kept.any (by assumption))) | (with_reducible refine Kept.own ?_ (by assumption) (by omega)) | (intro hxx; first | rfl | ((try dsimp only at hxx ⊢); omega)))) Tryz.underlying44 rfl (by kernel_rfl) rfl (by simp only [putL, Nat.reduceAdd]; repeat (first | (with_reducible exact Kept.refl _ _) | (with_reducible refine Kept.alloc ?_ _) | (with_reducible refine Kept.drewN ?_ _) | (with_reducible refine Kept.drew ?_))) (fun hdf hkf hkB hsB => Parsed.ok HS.out ⟨_, rfl, ?_⟩ hdf hkf)
        exact (((((HEV.out.keep hk2).keep ((Kept.refl _ _).alloc _)).keep hk3).kept hkB (fun g _ h => by have h : g = w.heap.size := h; show g ≤ _ ∨ _; omega)).keep ((Kept.refl _ _).alloc _)).mono (fun g _ h => by have h : g < w.heap.size := h; show g ≤ _ ∨ _; omega)
      · have hd1' : decide ((rk : Int) < (least : Int)) = false := by simpa using hlt1
        have HLF := Lib.hid (fun W => lefts_any rk (by omega) W)
        by_cases hlt2 : has < leftS rk
        · have HST := Lib.hid (show stopS S least has kk = true from by unfold stopS; rw [HOPE.out]; simp [hlt2])
          have hd2' : decide ((has : Int) < (leftS rk : Int)) = true := by simpa using hlt2
          go_wp2_with fail
          refine (HLF.out _).mono ?_
          rintro e w' ⟨rfl, rfl⟩
          have HS := Lib.hid (show aboveS S (f + 1) least k = .ok (ee, kk) from by
            rw [← HCL.out]
            obtain ⟨g', rfl⟩ : ∃ g', g = g' + 1 := ⟨g - 1, by omega⟩
            rw [climbS, if_pos HST.out])
          go_wp2
          have hd3 := HD4.out
          have hkf : Kept (· = R) w W3 := HKW.out
          refine fin_box (W := W3) (B := w.heap.size) (t := 44) (old := zeroE) Tryz.results169 [.int .i64 ky, .int .i64 my, .string sy, .int .i64 sly, .bool loy, .int .i64 oy, .slice Ay Ny Cy] rfl (by repeat (first | (with_reducible exact HC2.out) | (with_reducible refine Cells.alloc ?_ _) | (with_reducible refine Cells.drew ?_) | (with_reducible refine Cells.drewN ?_ _) | (with_reducible refine Cells.keep ?_ (by assumption)) | (with_reducible refine Cells.kept ?_ (by assumption) (by omega)) | (with_reducible refine Cells.far ?_ (by dsimp only; omega) _))) rfl hd3 (by omega) (by omega) (by repeat (first | assumption | (with_reducible exact Kept.refl _ _) | (with_reducible refine Kept.alloc ?_ _) | (with_reducible refine Kept.drew ?_) | (with_reducible refine Kept.drewN ?_ _) | (with_reducible refine Kept.setCell ?_ ?_ _) | (with_reducible refine Kept.trans ?_ (by assumption)) | (with_reducible refine Kept.trans ?_ (Kept.any (by assumption))) | (with_reducible refine Kept.own ?_ (by assumption) (by omega)) | (intro hxx; first | rfl | ((try dsimp only at hxx ⊢); omega)))) Tryz.underlying44 rfl (by kernel_rfl) rfl (by simp only [putL, Nat.reduceAdd]; repeat (first | (with_reducible exact Kept.refl _ _) | (with_reducible refine Kept.alloc ?_ _) | (with_reducible refine Kept.drewN ?_ _) | (with_reducible refine Kept.drew ?_))) (fun hdf hkf hkB hsB => Parsed.ok HS.out ⟨_, rfl, ?_⟩ hdf hkf)
          exact (((((HEV.out.keep hk2).keep ((Kept.refl _ _).alloc _)).keep hk3).kept hkB (fun g _ h => by have h : g = w.heap.size := h; show g ≤ _ ∨ _; omega)).keep ((Kept.refl _ _).alloc _)).mono (fun g _ h => by have h : g < w.heap.size := h; show g ≤ _ ∨ _; omega)
        · have HST := Lib.hid (show stopS S least has kk = false from by unfold stopS; rw [HOPE.out]; simp [hlt1, hlt2])
          have hd2' : decide ((has : Int) < (leftS rk : Int)) = false := by simpa using hlt2
          have HTK : Hid (takeB S kk t = true) := Lib.hid (by unfold takeB; rw [HTT.out]; simp)
          go_wp2_with fail
          refine (HLF.out _).mono ?_
          rintro e w' ⟨rfl, rfl⟩
          go_wp2_with fail
          obtain ⟨W5, hW5⟩ : ∃ W5, W3.alloc (.cells #[.string sg, .int .i64 on] 196) = W5 := ⟨_, rfl⟩
          have hk5 : Kept noX W3 W5 := by rw [← hW5]; exact (Kept.refl _ _).alloc _
          have hB8 : Cells W5 W3.heap.size 196 [.string sg, .int .i64 on] := by rw [← hW5]; exact Cells.fresh W3 196 _
          have hB7 := (HB7.out.keep hk3).keep hk5
          have hC5 := ((HC5.out.keep hk2).keep ((Kept.refl _ _).alloc (.cells #[.string t] 9))).keep hk3 |>.keep hk5
          have hC2 := ((HC2.out.keep hk2).keep ((Kept.refl _ _).alloc (.cells #[.string t] 9))).keep hk3 |>.keep hk5
          rw [hW5]
          have HD5 := Lib.hid (HD4.out.keep hk5)
          have HKW5 := Lib.hid (HKW.out.trans hk5.any)
          have HEV5 := Lib.hid ((((HEV.out.keep hk2).keep ((Kept.refl _ _).alloc (.cells #[.string t] 9))).keep hk3).keep hk5)
          have e7 := hB7.cell 0
          simp only [List.getElem?_cons_zero] at e7
          have s5 := hk5.size
          have HB8 := Lib.hid hB8
          have HC5' := Lib.hid hC5
          have HC2' := Lib.hid hC2
          clear hB8 hB7 hC5 hC2 hW5 p0 p1 p2 p3 p4 p5 p6 q0 q1 q2 q3 q4 q5 q6 z0 z1 z2 z3 z4 z5 z6 y0 y1 y2 y3 y4 y5 y6 ra2 rb2 ra3 rb3
          go_still_tail 4, (by kernel_rfl)
          go_wp2_with fail
          refine (take_any (S := S) (k := kk) (HSG2.out (by simp)).1 HD5.out.drew).mono ?_
          rintro e W4 ⟨rfl, hd4, hk4⟩
          rw [HTK.out] at hd4 ⊢
          replace hd4 : DR W4 R S (kk + 1) := hd4
          have hk4' : Kept (· = R) W5 W4 := ((Kept.refl _ _).drew).trans hk4
          clear hk4
          have hB8 := HB8.out.kept hk4' (by omega)
          have hC5 := HC5'.out.kept hk4' (by omega)
          have hC2 := HC2'.out.kept hk4' (by omega)
          have hEV := HEV5.out.kept hk4' (fun b _ h => by have h : b = R := h; show b ≤ _ ∨ _; omega)
          have hKW := HKW5.out.trans hk4'
          have hKR := ((((HKR.out.trans hk2.any).alloc (.cells #[.string t] 9)).trans hk3.any).trans hk5.any).trans (hk4'.mono (fun b _ h => .inl h))
          have HKRx := Lib.hid hKR
          have s4 := hk4'.size
          have lf1 : R < W4.heap.size := by omega
          have lf2 : w.heap.size < W4.heap.size := by omega
          have lf3 : W1.heap.size < W4.heap.size := by omega
          have lf4 : W3.heap.size < W4.heap.size := hB8.lt
          have e1 := hB8.cell 1
          simp only [List.getElem?_cons_zero, List.getElem?_cons_succ] at e1
          have p0 := hC5.cell 0
          have p1 := hC5.cell 1
          have p2 := hC5.cell 2
          have p3 := hC5.cell 3
          have p4 := hC5.cell 4
          have p5 := hC5.cell 5
          have p6 := hC5.cell 6
          have q0 := hC5.free 0
          have q1 := hC5.free 1
          have q2 := hC5.free 2
          have q3 := hC5.free 3
          have q4 := hC5.free 4
          have q5 := hC5.free 5
          have q6 := hC5.free 6
          simp only [List.getElem?_cons_zero, List.getElem?_cons_succ] at p0 p1 p2 p3 p4 p5 p6
          have HB8x := Lib.hid hB8
          have HC5x := Lib.hid hC5
          have HC2x := Lib.hid hC2
          have HEVx := Lib.hid hEV
          have HKWx := Lib.hid hKW
          have HD4x := Lib.hid hd4
          clear hKR hB8 hC5 hC2 hEV hKW hd4 hk4' hd1' hd2' hlt1 hlt2 e7
          obtain ⟨g', hg'⟩ : ∃ g', g = g' + 1 := ⟨g - 1, by omega⟩
          subst hg'
          have hcl := HCL.out
          rw [climbS, if_neg (by rw [HST.out]; exact Bool.false_ne_true)] at hcl
          have HCLx : Hid ((thn (aboveS S g' (rk + 1) (kk + 1)) fun e2 k2 => climbS S g' least (binE on ee e2) rk k2) = aboveS S (f + 1) least k) := Lib.hid (by rw [← hcl, HOPE.out])
          clear hcl
          have hkn := takeB_lt HTK.out (HSG2.out (by simp)).1
          have HAB := Lib.hid (fun W (h : DR W R S (kk + 1)) => HA.out g' (by omega) R (rk + 1) (kk + 1) W h (by omega) (by omega))
          cases hr : aboveS S g' (rk + 1) (kk + 1) with
          | error kx =>
            rw [hr] at HAB HCLx
            have HC : Hid (∀ W, DR W R S (kk + 1) → Calls Tryz.prog 169 #[.pointer (some ⟨R, 0, none⟩), .int .i64 ((rk : Int) + 1)] W fun e W' => Misfit S kx e ∧ Kept (· = R) W W') := Lib.hid (fun W h => HAB.out W h)
            clear hr
            have hwrap : IntKind.i64.wrap ((rk : Int) + 1) = (rk : Int) + 1 := IntWalk.i64_in _ (by omega)
            go_wp2_with fail
            refine wp_region_held_drew (S := (fun w' => w'.cell? ⟨W3.heap.size, 1, none⟩ = some (.int .i64 on) ∧ w'.cell? ⟨W1.heap.size, 0, none⟩ = some (.int .i64 ky) ∧ w'.cell? ⟨W1.heap.size, 1, none⟩ = some (.int .i64 my) ∧ w'.cell? ⟨W1.heap.size, 2, none⟩ = some (.string sy) ∧ w'.cell? ⟨W1.heap.size, 3, none⟩ = some (.int .i64 sly) ∧ w'.cell? ⟨W1.heap.size, 4, none⟩ = some (.bool loy) ∧ w'.cell? ⟨W1.heap.size, 5, none⟩ = some (.int .i64 oy) ∧ w'.cell? ⟨W1.heap.size, 6, none⟩ = some (.slice Ay Ny Cy))) (by kernel_rfl) ⟨e1, p0, p1, p2, p3, p4, p5, p6⟩ (fun hHeld => ?_)
            refine wpAnyH_take (i := 0) (v := ?_) rfl (by kernel_rfl) (by kernel_rfl) (by kernel_rfl) (fun _ _ _ h => h) (Or.inl ⟨by rfl, ?_⟩) (by assumption) ?_
            rotate_left
            · intro wS hSw
              (try dsimp only at hSw)
              go_simp
              (try with_reducible rfl)
            refine wpAnyH_take (i := 1) (v := ?_) rfl (by kernel_rfl) (by kernel_rfl) (by kernel_rfl) (fun _ _ _ h => h) (Or.inl ⟨by rfl, ?_⟩) (by assumption) ?_
            rotate_left
            · intro wS hSw
              (try dsimp only at hSw)
              go_simp
              (try with_reducible rfl)
            refine wpAnyH_take (i := 2) (v := ?_) rfl (by kernel_rfl) (by kernel_rfl) (by kernel_rfl) (fun _ _ _ h => h) (Or.inl ⟨by rfl, ?_⟩) (by assumption) ?_
            rotate_left
            · intro wS hSw
              (try dsimp only at hSw)
              go_simp
              (try with_reducible rfl)
            refine wpAnyH_take (i := 3) (v := ?_) rfl (by kernel_rfl) (by kernel_rfl) (by kernel_rfl) (fun _ _ _ h => h) (Or.inl ⟨by rfl, ?_⟩) (by assumption) ?_
            rotate_left
            · intro wS hSw
              (try dsimp only at hSw)
              go_simp
              (try with_reducible rfl)
            refine wpAnyH_take (i := 4) (v := ?_) rfl (by kernel_rfl) (by kernel_rfl) (by kernel_rfl) (fun _ _ _ h => h) (Or.inl ⟨by rfl, ?_⟩) (by assumption) ?_
            rotate_left
            · intro wS hSw
              (try dsimp only at hSw)
              go_simp
              (try with_reducible rfl)
            refine wpAnyH_take (i := 5) (v := ?_) rfl (by kernel_rfl) (by kernel_rfl) (by kernel_rfl) (fun _ _ _ h => h) (Or.inl ⟨by rfl, ?_⟩) (by assumption) ?_
            rotate_left
            · intro wS hSw
              (try dsimp only at hSw)
              go_simp
              (try with_reducible rfl)
            refine wpAnyH_take (i := 9) (v := ?_) rfl (by kernel_rfl) (by kernel_rfl) (by kernel_rfl) (fun _ _ _ h => h) (Or.inl ⟨by rfl, ?_⟩) (by assumption) ?_
            rotate_left
            · intro wS hSw
              (try dsimp only at hSw)
              go_simp
              (try with_reducible rfl)
            refine wpAnyH_ready (rs := [6]) (by kernel_rfl) (by simp) ?_
            refine AllReadyH.cons rfl (fun K hK => ?_) AllReadyH.nil
            go_simp
            refine (HC.out _ HD4x.out.drew).mono ?_
            rintro e W6 ⟨hm, hk6⟩
            unfold Misfit at hm
            subst hm
            exact ⟨rfl, Parsed.err (HCLx.out.symm.trans rfl) rfl ((HKWx.out.drew).trans hk6)⟩
          | ok pr =>
            obtain ⟨a6, k6⟩ := pr
            rw [hr] at HAB HCLx
            have HC : Hid (∀ W, DR W R S (kk + 1) → Calls Tryz.prog 169 #[.pointer (some ⟨R, 0, none⟩), .int .i64 ((rk : Int) + 1)] W fun e W' => (∃ cs, e = .returned (.agg cs.toArray) ∧ EV W' (· < W.heap.size) cs a6) ∧ DR W' R S k6 ∧ Kept (· = R) W W') := Lib.hid (fun W h => HAB.out W h)
            have hk6n := (reads_fwd S g').2.1 _ _ _ hr
            dsimp only at hk6n
            clear hr
            have hwrap : IntKind.i64.wrap ((rk : Int) + 1) = (rk : Int) + 1 := IntWalk.i64_in _ (by omega)
            go_wp2_with fail
            go_region_with (first | (go_at_call 169; (refine (HC.out _ HD4x.out.drew).mono ?_; rintro e W6 ⟨⟨cs6, rfl, hev6⟩, hd6, hk6⟩; obtain ⟨k6', m6, s6, sl6, lo6, o6, A6, N6, C6, rfl⟩ := hev6.form; obtain ⟨ra6, rb6, rc6⟩ := hk6.readsR (show _ = W4.heap.size from rfl); have lg1 : R < W6.heap.size := (by omega); have lg2 : w.heap.size < W6.heap.size := (by omega); have lg3 : W1.heap.size < W6.heap.size := (by omega); have lg4 : W3.heap.size < W6.heap.size := (by omega); have HEV6 := Lib.hid hev6; have HD6 := Lib.hid hd6; clear hev6 hd6)))
            all_goals
              go_wp2
              go_roundg (S.n - k6)
              case measure => omega
              case rel =>
                have hk6' : Kept (· = R) W4 W6 := ((Kept.refl _ _).drew).trans hk6
                obtain ⟨h1, h2⟩ := putL_all [.int .i64 6, .int .i64 0, .string ⟨#[]⟩, .int .i64 0, .bool false, .int .i64 on, .slice (some ⟨W6.heap.size, 0, none⟩) 2 2] (HC5x.out.kept hk6' (by omega)) rfl
                have hsV := putL_size W1.heap.size [.int .i64 6, .int .i64 0, .string ⟨#[]⟩, .int .i64 0, .bool false, .int .i64 on, .slice (some ⟨W6.heap.size, 0, none⟩) 2 2] W6 0
                have hevy := (HEVx.out.kept hk6' (fun b _ h => by have h : b = R := h; show b ≤ _ ∨ _; omega)).kept h2 (fun b _ h => by have h : b = W1.heap.size := h; show b ≤ _ ∨ _; omega)
                have hev6 := (HEV6.out.kept h2 (fun b _ h => by have h : b = W1.heap.size := h; show b < W4.heap.size; omega)).mono (Z' := fun b => b ≤ w.heap.size ∨ b = W1.heap.size) (fun b _ h => by have h : b ≤ w.heap.size ∨ b = W1.heap.size := h; show b < W4.heap.size; omega)
                have hev2 := EV.two hevy hev6 (by rw [hsV]; show ¬ (_ ≤ _ ∨ _); omega) 6 0 ⟨#[]⟩ on 44
                rw [hsV] at hev2
                exact ⟨g', rk, k6, binE on ee a6, _, rfl, by omega, HCLx.out, h1.alloc _, hev2, ((HC2x.out.kept hk6' (by omega)).kept h2 (by omega)).alloc _, (HD6.out.kept h2 (fun b hb => by have hb : b = W1.heap.size := hb; omega)).alloc _,
                  ((HKRx.out.trans (hk6'.mono (fun b _ h => .inl h))).trans (h2.mono (fun b _ h => .inr h))).alloc _, rfl, by omega, by omega⟩
theorem above_all (hops : ∀ W, S.inv W → OpsAt W) : ∀ f, OperC S f ∧ AboveC S f := by
  intro f
  induction f using Nat.strongRecOn with
  | _ f ih =>
    cases f with
    | zero => exact ⟨fun R k w h hf => absurd hf (by omega), fun R l k w h hl hf => absurd hf (by omega)⟩
    | succ f =>
      have h := ih f (by omega)
      exact ⟨oper_step h.1 h.2, above_step hops h.1 (fun g hg => (ih g (by omega)).2)⟩
end
end Go.Proofs.YtjkgepppoopheaaGreatDoor
