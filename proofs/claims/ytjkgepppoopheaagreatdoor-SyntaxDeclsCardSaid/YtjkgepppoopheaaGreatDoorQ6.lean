/- The document's reader of layer 2: its calls, told by how far is read (conditions: at most 1000000 words). -/
import Derived.Test.YtjkgepppoopheaaGreatDoorAbb
import Derived.Test.YtjkgepppoopheaaGreatDoorQ4
import Derived.Deep.RegionWith
import Derived.Deep.RegionHeld3
import Derived.Test.YtjkgepppoopheaaGreatDoorQ5
set_option maxRecDepth 100000
set_option maxHeartbeats 1000000
namespace Go.Proofs.YtjkgepppoopheaaGreatDoor
open Go.RowKit Go.Shelf
section
variable {S : Src} {f R k : Nat} {w : World}
theorem oper_step (hO : OperC S f) (hA : AboveC S f) : OperC S (f + 1) := by
 intro R k w h hf
 cases ht1 : takeB S k ⟨#[45]⟩ with
 | true => exact oper_minus hO h hf ht1
 | false =>
  cases ht2 : takeB S k ⟨#[33]⟩ with
  | true => exact oper_not hO h hf ht1 ht2
  | false =>
   cases ht3 : takeB S k ⟨#[40]⟩ with
   | true => exact oper_paren hA h hf ht1 ht2 ht3
   | false =>
    cases hkb : kindB S k 2 with
    | true => exact oper_num h ht1 ht2 ht3 hkb
    | false => exact oper_name hA h hf ht1 ht2 ht3 hkb
theorem thn_some {α β : Type} {r : Except Nat (α × Nat)} {g : α → Nat → Except Nat (β × Nat)} {p : β × Nat} (h : thn r g = .ok p) : ∃ a k, r = .ok (a, k) ∧ g a k = .ok p := by
 cases r with
 | error k => cases h
 | ok q => exact ⟨q.1, q.2, rfl, h⟩
theorem ofS_some {q : Int} {p : TokD × Nat} (h : ofS S k q = .ok p) : p = (S.tok k, k + 1) ∧ kindB S k q = true := by
 unfold ofS at h
 cases hk : kindB S k q with
 | true => rw [hk, if_pos rfl] at h; injection h with h; exact ⟨h.symm, rfl⟩
 | false => rw [hk] at h; cases h
theorem nameS_some {p : ByteArray × Nat} (h : nameS S k = .ok p) : p = ((S.tok k).text, k + 1) ∧ kindB S k 1 = true := by
 obtain ⟨a, k', h1, h2⟩ := thn_some h
 obtain ⟨h3, h4⟩ := ofS_some h1
 injection h3 with h5 h6
 subst h5 h6
 injection h2 with h2
 exact ⟨h2.symm, h4⟩
theorem numS_some {p : Int × Nat} (h : numS S k = .ok p) : p = ((S.tok k).num, k + 1) ∧ kindB S k 2 = true := by
 obtain ⟨a, k', h1, h2⟩ := thn_some h
 obtain ⟨h3, h4⟩ := ofS_some h1
 injection h3 with h5 h6
 subst h5 h6
 injection h2 with h2
 exact ⟨h2.symm, h4⟩
theorem wantS_some {s : ByteArray} {p : Unit × Nat} (h : wantS S k s = .ok p) : p = ((), k + 1) ∧ takeB S k s = true := by
 unfold wantS at h
 cases hk : takeB S k s with
 | true => rw [hk, if_pos rfl] at h; injection h with h; exact ⟨h.symm, rfl⟩
 | false => rw [hk] at h; cases h
theorem reads_fwd (S : Src) : ∀ f, (∀ k p, operandS S f k = .ok p → k < p.2) ∧ (∀ least k p, aboveS S f least k = .ok p → k < p.2) ∧ (∀ least e has k p, climbS S f least e has k = .ok p → k ≤ p.2) := by
 intro f
 induction f with
 | zero => exact ⟨fun k p h => (by rw [operandS] at h; cases h), fun l k p h => (by rw [aboveS] at h; cases h), fun l e q k p h => (by rw [climbS] at h; cases h)⟩
 | succ f ih =>
  obtain ⟨h1, h2, h3⟩ := ih
  refine ⟨fun k p h => ?_, fun l k p h => ?_, fun l e q k p h => ?_⟩
  ·rw [operandS] at h
   split at h
   ·exact k_29
   ·split at h
    ·exact k_29
    ·split at h
     ·obtain ⟨a, k', h4, h5⟩ := thn_some h
      obtain ⟨b, k2, h6, h7⟩ := thn_some h5
      injection h7 with h7; subst h7
      have := h2 _ _ _ h4
      have e := (wantS_some h6).1
      injection e with _ e; dsimp only at *; omega
     ·split at h
      ·obtain ⟨a, k', h4, h5⟩ := thn_some h
       injection h5 with h5; subst h5
       have e := (numS_some h4).1
       injection e with _ e; dsimp only at *; omega
      ·obtain ⟨a, k', h4, h5⟩ := thn_some h
       have e := (nameS_some h4).1
       injection e with _ e
       split at h5
       ·obtain ⟨b, k2, h6, h7⟩ := thn_some h5
        obtain ⟨c, k3, h8, h9⟩ := thn_some h7
        injection h9 with h9; subst h9
        have := h2 _ _ _ h6
        have e := (wantS_some h8).1
        injection e with _ e; dsimp only at *; omega
       ·injection h5 with h5; subst h5; dsimp only at *; omega
  ·rw [aboveS] at h
   obtain ⟨a, k', h4, h5⟩ := thn_some h
   have := h1 _ _ h4
   have := h3 _ _ _ _ _ h5
   dsimp only at *; omega
  ·rw [climbS] at h
   split at h
   ·injection h with h; subst h; exact Nat.le_refl _
   ·obtain ⟨a, k', h4, h5⟩ := thn_some h
    have := h2 _ _ _ h4
    have := h3 _ _ _ _ _ h5
    dsimp only at *; omega
theorem rankFrom_spec (p : ByteArray → Int → Bool) : ∀ (l : List (List (ByteArray × Int))) (r : Nat), ((rankFrom p l r).2.2 = true → (rankFrom p l r).2.1 < r + l.length ∧ p (rankFrom p l r).1.1 (rankFrom p l r).1.2 = true ∧ (rankFrom p l r).1 ∈ l.flatten) ∧ ((rankFrom p l r).2.2 = false → (rankFrom p l r).2.1 = 0) := by
 intro l
 induction l with
 | nil => intro r; exact ⟨fun h => (by cases h), fun _ => rfl⟩
 | cons row l ih =>
  intro r
  rw [rankFrom]
  cases h : rowFind p row with
  | some x =>
   refine ⟨fun _ => ⟨by simp, ?_, ?_⟩, fun h => by cases h⟩
   ·have := List.find?_some h; exact this
   ·have := List.mem_of_find?_eq_some h
    exact List.mem_flatten.2 ⟨row, by simp, this⟩
  | none =>
   obtain ⟨h1, h2⟩ := ih (r + 1)
   refine ⟨fun h => ?_, h2⟩
   obtain ⟨h3, h4, h5⟩ := h1 h
   refine ⟨by simp; omega, h4, ?_⟩
   rw [List.flatten_cons]
   exact List.mem_append_right _ h5
theorem signs_ranked (s : ByteArray) : (rankedP (signP s)).2.1 ≤ 4 ∧ ((rankedP (signP s)).2.2 = true → s ≠ ⟨#[]⟩ ∧ (rankedP (signP s)).1.1 = s) := by
 obtain ⟨h1, h2⟩ := rankFrom_spec (signP s) opsL 0
 have e : rankedP (signP s) = rankFrom (signP s) opsL 0 := rfl
 rw [← e] at h1 h2
 generalize rankedP (signP s) = y at h1 h2
 cases h : y.2.2 with
 | false => exact ⟨by rw [h2 h]; omega, fun h => by cases h⟩
 | true =>
  obtain ⟨h3, h4, h5⟩ := h1 h
  have hl : opsL.length = 5 := rfl
  have h6 : y.1.1 = s := of_decide_eq_true h4
  refine ⟨by omega, fun _ => ⟨?_, h6⟩⟩
  rw [← h6]
  have hall : ∀ x ∈ opsL.flatten, x.1 ≠ ⟨#[]⟩ := by decide
  exact hall _ h5
def AbvI (S : Src) (f R least B2 B5 : Nat) (Wl : World) (r : Except Nat (ET × Nat)) (m : Nat) (v6 : Value) (wr : World) : Prop :=
 ∃ (g has k : Nat) (e : ET) (cs : List Value), v6 = .int .i64 (has : Nat) ∧ has ≤ 5 ∧ climbS S g least e has k = r ∧ Cells wr B5 44 cs ∧ EV wr (fun b => b ≤ B2 ∨ b = B5) cs e ∧ Cells wr B2 44 zeroE ∧ DR wr R S k ∧
  Kept (fun b => b = R ∨ b = B5) Wl wr ∧ m = S.n - k ∧ (S.n - k) * 3 + 1 ≤ g ∧ g ≤ f
theorem above_step (hops : ∀ W, S.inv W → OpsAt W) (hO : OperC S f) (hA : ∀ g, g ≤ f → AboveC S g) : AboveC S (f + 1) := by
 intro R least k w h hl hf
 have HS : Hid (aboveS S (f + 1) least k = thn (operandS S f k) fun e k => climbS S f least e 5 k) := aP (by rw [aboveS])
 have HO := aP (fun W (h : DR W R S k) => hO R k W h kom)
 have HFW := aP ((reads_fwd S f).1 k)
 have HA := aP hA
 have HOPS := aP hops
 have hRl := h.lt
 have hB := Cells.fresh w 44 zeroE
 have HB := aP hB
 have hsz : (w.alloc (.cells zeroE.toArray 44)).heap.size = w.heap.size + 1 := by simp
 clear hB hO hA hops
 go_enter Tryz.func169, Tryz.ntmps169
 go_wp2_with fail
 refine (HO.out _ kdr).mono ?_
 intro e W1 hq
 rcases hq.cases with ⟨kx, hr, hm, hk1⟩ | ⟨a1, k1, hr, hret, hd1, hk1⟩
 ·exact k_3
 have hkf : k < k1 := HFW.out _ hr
 replace HS := aP (HS.out.trans (by rw [hr, thn_ok]))
 clear hr hq
 obtain ⟨ra1, rb1, rc1⟩ := hk1.readsR (show _ = w.heap.size + 1 from hsz)
 obtain ⟨csx, rfl, hevx⟩ := hret
 obtain ⟨kx, mx, sx, slx, lox, ox, Ax, Nx, Cx, rfl⟩ := hevx.form
 have HEVx := aP hevx
 clear hevx
 have la1 : R < W1.heap.size := by omega
 have lb1 : w.heap.size < W1.heap.size := by omega
 go_wp2
 obtain ⟨Wl, hWl⟩ : ∃ Wl, W1.alloc (.cells #[.int .i64 kx, .int .i64 mx, .string sx, .int .i64 slx, .bool lox, .int .i64 ox, .slice Ax Nx Cx] 44) = Wl := ⟨_, rfl⟩
 have hkl : Kept noX W1 Wl := by rw [← hWl]; exact (Kept.refl _ _).alloc _
 have hB5 : Cells Wl W1.heap.size 44 [.int .i64 kx, .int .i64 mx, .string sx, .int .i64 slx, .bool lox, .int .i64 ox, .slice Ax Nx Cx] := by rw [← hWl]; exact Cells.fresh W1 44 _
 have hI : AbvI S f R least w.heap.size W1.heap.size Wl (aboveS S (f + 1) least k) (S.n - k1) (.int .i64 5) Wl :=
  ⟨f, 5, k1, a1, _, rfl, Nat.le_refl _, HS.out.symm, hB5, (HEVx.out.mono (Z' := fun b => b ≤ w.heap.size ∨ b = W1.heap.size) (fun b hb h => by
      have h : b ≤ w.heap.size ∨ b = W1.heap.size := h
      show b < _
      rw [hsz]
      omega)).keep hkl, ((HB.out.kept hk1 kom).keep hkl), hd1.keep hkl, Kept.refl _ _, rfl, by omega, Nat.le_refl _⟩
 rw [hWl]
 have HI := aP hI
 have HKL := aP hkl
 clear hI hkl hWl hB5
 go_loopg [6] (S.n - k1) (fun m v6 wr => AbvI S f R least w.heap.size W1.heap.size Wl (aboveS S (f + 1) least k) m v6 wr)
 case atStart => exact HI.out
 case round =>
  obtain ⟨g, has, kk, ee, cs, rfl, hhas, hcl, hc5, hev, hc2, hdr, hkr, rfl, hg1, hg2⟩ := hrel
  obtain ⟨ky, my, sy, sly, loy, oy, Ay, Ny, Cy, rfl⟩ := hev.form
  have hsl := HKL.out.size
  have hsr := hkr.size
  have lr1 : R < W1.heap.size := la1
  have lr2 : W1.heap.size < wr.heap.size := hc5.lt
  have lr3 : w.heap.size < wr.heap.size := hc2.lt
  have lr4 : R < wr.heap.size := by omega
  have hsg := signs_ranked (S.tok kk).text
  have hcs : climbS S g least ee has kk = aboveS S (f + 1) least k := hcl
  have HC5 := aP hc5
  have HC2 := aP hc2
  have HEV := aP hev
  have HKR := aP hkr
  have HCL := aP hcl
  have HNX := aP (next_any hdr)
  have HOP := aP (fun W (h : DR W R S kk) => HOPS.out W h.inv)
  have hmf : ∀ (fn : Fn) (first cap : Array Value) (w : World), (Instr.makeFunc fn first cap).run Tryz.prog w = .ok (.func fn first cap) w := fun _ _ _ _ => rfl
  have p0 := hc5.cell 0
  have p1 := hc5.cell 1
  have p2 := hc5.cell 2
  have p3 := hc5.cell 3
  have p4 := hc5.cell 4
  have p5 := hc5.cell 5
  have p6 := hc5.cell 6
  have q0 := hc5.free 0
  have q1 := hc5.free 1
  have q2 := hc5.free 2
  have q3 := hc5.free 3
  have q4 := hc5.free 4
  have q5 := hc5.free 5
  have q6 := hc5.free 6
  simp only [aZ, aS] at p0 p1 p2 p3 p4 p5 p6
  have z0 := hc2.cell 0
  have z1 := hc2.cell 1
  have z2 := hc2.cell 2
  have z3 := hc2.cell 3
  have z4 := hc2.cell 4
  have z5 := hc2.cell 5
  have z6 := hc2.cell 6
  have y0 := hc2.free 0
  have y1 := hc2.free 1
  have y2 := hc2.free 2
  have y3 := hc2.free 3
  have y4 := hc2.free 4
  have y5 := hc2.free 5
  have y6 := hc2.free 6
  simp only [aZ, aS] at z0 z1 z2 z3 z4 z5 z6
  simp only [TokD.cells] at HNX
  have hopt : opAt S kk = rankedP (signP (S.tok kk).text) := rfl
  generalize htt : (S.tok kk).text = t at *
  have HTT := aP htt
  have HSG := aP hsg
  have HOPT := aP hopt
  clear htt hsg hopt hc5 hc2 hev hkr hcl hcs hsl hsr
  go_wp2_with fail
  refine HNX.out.mono ?_
  rintro e W2 ⟨rfl, hk2⟩
  have hd2 := hdr.keep hk2
  obtain ⟨ra2, rb2, rc2⟩ := hk2.readsN rfl
  have lc1 : R < W2.heap.size := by omega
  have lc2 : w.heap.size < W2.heap.size := by omega
  have lc3 : W1.heap.size < W2.heap.size := by omega
  have hb7 := Cells.fresh W2 9 [.string t]
  have HB7 := aP hb7
  have hd3 := hd2.alloc (.cells #[.string t] 9)
  have HD3 := aP hd3
  clear hb7 hd3 hd2
  go_wp2_with fail
  refine (ranked_gen 186 #[.pointer (some ⟨W2.heap.size, 0, none⟩)] (enters_of Tryz.func186 krf rfl) (signP t) _ (HOP.out _ HD3.out) (fun W s o hk => aboveC_any W2.heap.size t s o W ((HB7.out.keep hk).cell 0))).mono ?_
  rintro e W3 ⟨rfl, hk3⟩
  have hd3 := HD3.out.keep hk3
  obtain ⟨ra3, rb3, rc3⟩ := hk3.readsN (World.size_alloc _ _)
  have ld1 : R < W3.heap.size := by omega
  have ld2 : w.heap.size < W3.heap.size := by omega
  have ld3 : W1.heap.size < W3.heap.size := by omega
  have ld4 : W2.heap.size < W3.heap.size := by omega
  have HD4 := aP hd3
  simp only [rankedV]
  rw [← HOPT.out] at HSG ⊢
  have hkw : Kept (· = R) w W3 := (((((show Kept (· = R) w W1 from kp).trans HKL.out.any).join HKR.out (fun i hi hlt => by have hi : i = R ∨ i = W1.heap.size := hi; show i = R; omega)).trans hk2.any).alloc _).trans hk3.any
  have HKW := aP hkw
  clear hkw
  generalize hop : opAt S kk = y at *
  obtain ⟨⟨sg, on⟩, rk, isb⟩ := y
  have HOPE := aP hop
  clear hop
  obtain ⟨hrk, hsg⟩ := HSG.out
  dsimp only at hrk hsg ⊢
  have HSG2 := aP hsg
  clear hsg
  cases isb with
  | false =>
   have HST := aP (show stopS S least has kk = true from by unfold stopS; rw [HOPE.out] <;> rfl)
   have HS := aP (show aboveS S (f + 1) least k = .ok (ee, kk) from by
     rw [← HCL.out]
     obtain ⟨g', rfl⟩ : ∃ g', g = g' + 1 := ⟨g - 1, by omega⟩
     rw [climbS, if_pos HST.out])
   go_wp2
   have hd3 := HD4.out
   have hkf : Kept (· = R) w W3 := HKW.out
   refine fin_box (W := W3) (B := w.heap.size) (t := 44) (old := zeroE) Tryz.results169 [.int .i64 ky, .int .i64 my, .string sy, .int .i64 sly, .bool loy, .int .i64 oy, .slice Ay Ny Cy] rfl (have q := HC2.out; kcl) rfl hd3 kom kom kp Tryz.underlying44 rfl krf rfl kkn (fun hdf hkf hkB hsB => Parsed.ok HS.out ⟨_, rfl, ?_⟩ hdf hkf)
   exact (((((HEV.out.keep hk2).keep ((Kept.refl _ _).alloc _)).keep hk3).kept hkB (fun g _ h => by have h : g = w.heap.size := h; show g ≤ _ ∨ _; omega)).keep ((Kept.refl _ _).alloc _)).mono (fun g _ h => by have h : g < w.heap.size := h; show g ≤ _ ∨ _; omega)
  | true =>
   by_cases hlt1 : rk < least
   ·have HST := aP (show stopS S least has kk = true from by unfold stopS; rw [HOPE.out]; simp [hlt1])
    have hd1 : decide ((rk : Int) < (least : Int)) = true := by simpa using hlt1
    have HS := aP (show aboveS S (f + 1) least k = .ok (ee, kk) from by
      rw [← HCL.out]
      obtain ⟨g', rfl⟩ : ∃ g', g = g' + 1 := ⟨g - 1, by omega⟩
      rw [climbS, if_pos HST.out])
    go_wp2
    have hd3 := HD4.out
    have hkf : Kept (· = R) w W3 := HKW.out
    refine fin_box (W := W3) (B := w.heap.size) (t := 44) (old := zeroE) Tryz.results169 [.int .i64 ky, .int .i64 my, .string sy, .int .i64 sly, .bool loy, .int .i64 oy, .slice Ay Ny Cy] rfl (have q := HC2.out; kcl) rfl hd3 kom kom kp Tryz.underlying44 rfl krf rfl kkn (fun hdf hkf hkB hsB => Parsed.ok HS.out ⟨_, rfl, ?_⟩ hdf hkf)
    exact (((((HEV.out.keep hk2).keep ((Kept.refl _ _).alloc _)).keep hk3).kept hkB (fun g _ h => by have h : g = w.heap.size := h; show g ≤ _ ∨ _; omega)).keep ((Kept.refl _ _).alloc _)).mono (fun g _ h => by have h : g < w.heap.size := h; show g ≤ _ ∨ _; omega)
   ·have hd1' : decide ((rk : Int) < (least : Int)) = false := by simpa using hlt1
    have HLF := aP (fun W => lefts_any rk kom W)
    by_cases hlt2 : has < leftS rk
    ·have HST := aP (show stopS S least has kk = true from by unfold stopS; rw [HOPE.out]; simp [hlt2])
     have hd2' : decide ((has : Int) < (leftS rk : Int)) = true := by simpa using hlt2
     go_wp2_with fail
     refine (HLF.out _).mono ?_
     rintro e w' ⟨rfl, rfl⟩
     have HS := aP (show aboveS S (f + 1) least k = .ok (ee, kk) from by
       rw [← HCL.out]
       obtain ⟨g', rfl⟩ : ∃ g', g = g' + 1 := ⟨g - 1, by omega⟩
       rw [climbS, if_pos HST.out])
     go_wp2
     have hd3 := HD4.out
     have hkf : Kept (· = R) w W3 := HKW.out
     refine fin_box (W := W3) (B := w.heap.size) (t := 44) (old := zeroE) Tryz.results169 [.int .i64 ky, .int .i64 my, .string sy, .int .i64 sly, .bool loy, .int .i64 oy, .slice Ay Ny Cy] rfl (have q := HC2.out; kcl) rfl hd3 kom kom kp Tryz.underlying44 rfl krf rfl kkn (fun hdf hkf hkB hsB => Parsed.ok HS.out ⟨_, rfl, ?_⟩ hdf hkf)
     exact (((((HEV.out.keep hk2).keep ((Kept.refl _ _).alloc _)).keep hk3).kept hkB (fun g _ h => by have h : g = w.heap.size := h; show g ≤ _ ∨ _; omega)).keep ((Kept.refl _ _).alloc _)).mono (fun g _ h => by have h : g < w.heap.size := h; show g ≤ _ ∨ _; omega)
    ·have HST := aP (show stopS S least has kk = false from by unfold stopS; rw [HOPE.out]; simp [hlt1, hlt2])
     have hd2' : decide ((has : Int) < (leftS rk : Int)) = false := by simpa using hlt2
     have HTK : Hid (takeB S kk t = true) := aP (by unfold takeB; rw [HTT.out]; simp)
     go_wp2_with fail
     refine (HLF.out _).mono ?_
     rintro e w' ⟨rfl, rfl⟩
     go_wp2_with fail
     obtain ⟨W5, hW5⟩ : ∃ W5, W3.alloc (.cells #[.string sg, .int .i64 on] 196) = W5 := ⟨_, rfl⟩
     have hk5 : Kept noX W3 W5 := by rw [← hW5]; exact (Kept.refl _ _).alloc _
     have hB8 : Cells W5 W3.heap.size 196 [.string sg, .int .i64 on] := by rw [← hW5]; exact Cells.fresh W3 196 _
     have hB7 := (HB7.out.keep hk3).keep hk5
     have hC5 := ((HC5.out.keep hk2).keep ((Kept.refl _ _).alloc (.cells #[.string t] 9))).keep hk3 |>.keep hk5
     have hC2 := ((HC2.out.keep hk2).keep ((Kept.refl _ _).alloc (.cells #[.string t] 9))).keep hk3 |>.keep hk5
     rw [hW5]
     have HD5 := aP (HD4.out.keep hk5)
     have HKW5 := aP (HKW.out.trans hk5.any)
     have HEV5 := aP ((((HEV.out.keep hk2).keep ((Kept.refl _ _).alloc (.cells #[.string t] 9))).keep hk3).keep hk5)
     have e7 := hB7.cell 0
     simp only [aZ] at e7
     have s5 := hk5.size
     have HB8 := aP hB8
     have HC5' := aP hC5
     have HC2' := aP hC2
     clear hB8 hB7 hC5 hC2 hW5 p0 p1 p2 p3 p4 p5 p6 q0 q1 q2 q3 q4 q5 q6 z0 z1 z2 z3 z4 z5 z6 y0 y1 y2 y3 y4 y5 y6 ra2 rb2 ra3 rb3
     go_still_tail 4, krf
     go_wp2_with fail
     refine (take_any (S := S) (k := kk) (HSG2.out (by simp)).1 HD5.out.drew).mono ?_
     rintro e W4 ⟨rfl, hd4, hk4⟩
     rw [HTK.out] at hd4 ⊢
     replace hd4 : DR W4 R S (kk + 1) := hd4
     have hk4' : Kept (· = R) W5 W4 := ((Kept.refl _ _).drew).trans hk4
     clear hk4
     have hB8 := HB8.out.kept hk4' kom
     have hC5 := HC5'.out.kept hk4' kom
     have hC2 := HC2'.out.kept hk4' kom
     have hEV := HEV5.out.kept hk4' (fun b _ h => by have h : b = R := h; show b ≤ _ ∨ _; omega)
     have hKW := HKW5.out.trans hk4'
     have hKR := ((((HKR.out.trans hk2.any).alloc (.cells #[.string t] 9)).trans hk3.any).trans hk5.any).trans (hk4'.mono (fun b _ h => .inl h))
     have HKRx := aP hKR
     have s4 := hk4'.size
     have lf1 : R < W4.heap.size := by omega
     have lf2 : w.heap.size < W4.heap.size := by omega
     have lf3 : W1.heap.size < W4.heap.size := by omega
     have lf4 : W3.heap.size < W4.heap.size := hB8.lt
     have e1 := hB8.cell 1
     simp only [aZ, aS] at e1
     have p0 := hC5.cell 0
     have p1 := hC5.cell 1
     have p2 := hC5.cell 2
     have p3 := hC5.cell 3
     have p4 := hC5.cell 4
     have p5 := hC5.cell 5
     have p6 := hC5.cell 6
     have q0 := hC5.free 0
     have q1 := hC5.free 1
     have q2 := hC5.free 2
     have q3 := hC5.free 3
     have q4 := hC5.free 4
     have q5 := hC5.free 5
     have q6 := hC5.free 6
     simp only [aZ, aS] at p0 p1 p2 p3 p4 p5 p6
     have HB8x := aP hB8
     have HC5x := aP hC5
     have HC2x := aP hC2
     have HEVx := aP hEV
     have HKWx := aP hKW
     have HD4x := aP hd4
     clear hKR hB8 hC5 hC2 hEV hKW hd4 hk4' hd1' hd2' hlt1 hlt2 e7
     obtain ⟨g', hg'⟩ : ∃ g', g = g' + 1 := ⟨g - 1, by omega⟩
     subst hg'
     have hcl := HCL.out
     rw [climbS, if_neg (by rw [HST.out]; exact Bool.false_ne_true)] at hcl
     have HCLx : Hid ((thn (aboveS S g' (rk + 1) (kk + 1)) fun e2 k2 => climbS S g' least (binE on ee e2) rk k2) = aboveS S (f + 1) least k) := aP (by rw [← hcl, HOPE.out])
     clear hcl
     have hkn := takeB_lt HTK.out (HSG2.out (by simp)).1
     have HAB := aP (fun W (h : DR W R S (kk + 1)) => HA.out g' kom R (rk + 1) (kk + 1) W h kom kom)
     cases hr : aboveS S g' (rk + 1) (kk + 1) with
     | error kx =>
      rw [hr] at HAB HCLx
      have HC : Hid (∀ W, DR W R S (kk + 1) → Calls Tryz.prog 169 #[.pointer (some ⟨R, 0, none⟩), .int .i64 ((rk : Int) + 1)] W fun e W' => Misfit S kx e ∧ Kept (· = R) W W') := aP (fun W h => HAB.out W h)
      clear hr
      have hwrap : IntKind.i64.wrap ((rk : Int) + 1) = (rk : Int) + 1 := IntWalk.i64_in _ kom
      go_wp2_with fail
      refine wp_region_held_drew (S := (fun w' => w'.cell? ⟨W3.heap.size, 1, none⟩ = some (.int .i64 on) ∧ w'.cell? ⟨W1.heap.size, 0, none⟩ = some (.int .i64 ky) ∧ w'.cell? ⟨W1.heap.size, 1, none⟩ = some (.int .i64 my) ∧ w'.cell? ⟨W1.heap.size, 2, none⟩ = some (.string sy) ∧ w'.cell? ⟨W1.heap.size, 3, none⟩ = some (.int .i64 sly) ∧ w'.cell? ⟨W1.heap.size, 4, none⟩ = some (.bool loy) ∧ w'.cell? ⟨W1.heap.size, 5, none⟩ = some (.int .i64 oy) ∧ w'.cell? ⟨W1.heap.size, 6, none⟩ = some (.slice Ay Ny Cy))) krf ⟨e1, p0, p1, p2, p3, p4, p5, p6⟩ (fun hHeld => ?_)
      refine wpAnyH_take (i := 0) (v := ?_) rfl krf krf krf (fun _ _ _ h => h) (Or.inl ⟨by rfl, ?_⟩) (by assumption) ?_
      rotate_left
      ·intro wS hSw
       (try dsimp only at hSw)
       go_simp
       (try with_reducible rfl)
      refine wpAnyH_take (i := 1) (v := ?_) rfl krf krf krf (fun _ _ _ h => h) (Or.inl ⟨by rfl, ?_⟩) (by assumption) ?_
      rotate_left
      ·intro wS hSw
       (try dsimp only at hSw)
       go_simp
       (try with_reducible rfl)
      refine wpAnyH_take (i := 2) (v := ?_) rfl krf krf krf (fun _ _ _ h => h) (Or.inl ⟨by rfl, ?_⟩) (by assumption) ?_
      rotate_left
      ·intro wS hSw
       (try dsimp only at hSw)
       go_simp
       (try with_reducible rfl)
      refine wpAnyH_take (i := 3) (v := ?_) rfl krf krf krf (fun _ _ _ h => h) (Or.inl ⟨by rfl, ?_⟩) (by assumption) ?_
      rotate_left
      ·intro wS hSw
       (try dsimp only at hSw)
       go_simp
       (try with_reducible rfl)
      refine wpAnyH_take (i := 4) (v := ?_) rfl krf krf krf (fun _ _ _ h => h) (Or.inl ⟨by rfl, ?_⟩) (by assumption) ?_
      rotate_left
      ·intro wS hSw
       (try dsimp only at hSw)
       go_simp
       (try with_reducible rfl)
      refine wpAnyH_take (i := 5) (v := ?_) rfl krf krf krf (fun _ _ _ h => h) (Or.inl ⟨by rfl, ?_⟩) (by assumption) ?_
      rotate_left
      ·intro wS hSw
       (try dsimp only at hSw)
       go_simp
       (try with_reducible rfl)
      refine wpAnyH_take (i := 9) (v := ?_) rfl krf krf krf (fun _ _ _ h => h) (Or.inl ⟨by rfl, ?_⟩) (by assumption) ?_
      rotate_left
      ·intro wS hSw
       (try dsimp only at hSw)
       go_simp
       (try with_reducible rfl)
      refine wpAnyH_ready (rs := [6]) krf (by simp) ?_
      refine AllReadyH.cons rfl (fun K hK => ?_) AllReadyH.nil
      go_simp
      refine (HC.out _ HD4x.out.drew).mono ?_
      rintro e W6 ⟨hm, hk6⟩
      unfold Misfit at hm
      subst hm
      exact ⟨rfl, Parsed.err (HCLx.out.symm.trans rfl) rfl ((HKWx.out.drew).trans hk6)⟩
     | ok pr =>
      obtain ⟨a6, k6⟩ := pr
      rw [hr] at HAB HCLx
      have HC : Hid (∀ W, DR W R S (kk + 1) → Calls Tryz.prog 169 #[.pointer (some ⟨R, 0, none⟩), .int .i64 ((rk : Int) + 1)] W fun e W' => (∃ cs, e = .returned (.agg cs.toArray) ∧ EV W' (· < W.heap.size) cs a6) ∧ DR W' R S k6 ∧ Kept (· = R) W W') := aP (fun W h => HAB.out W h)
      have hk6n := (reads_fwd S g').2.1 _ _ _ hr
      dsimp only at hk6n
      clear hr
      have hwrap : IntKind.i64.wrap ((rk : Int) + 1) = (rk : Int) + 1 := IntWalk.i64_in _ kom
      go_wp2_with fail
      go_region_with (first | (go_at_call 169; (refine (HC.out _ HD4x.out.drew).mono ?_; rintro e W6 ⟨⟨cs6, rfl, hev6⟩, hd6, hk6⟩; obtain ⟨k6', m6, s6, sl6, lo6, o6, A6, N6, C6, rfl⟩ := hev6.form; obtain ⟨ra6, rb6, rc6⟩ := hk6.readsR (show _ = W4.heap.size from rfl); have lg1 : R < W6.heap.size := kom; have lg2 : w.heap.size < W6.heap.size := kom; have lg3 : W1.heap.size < W6.heap.size := kom; have lg4 : W3.heap.size < W6.heap.size := kom; have HEV6 := aP hev6; have HD6 := aP hd6; clear hev6 hd6)))
      all_goals
       go_wp2
       go_roundg (S.n - k6)
       case measure => omega
       case rel =>
        have hk6' : Kept (· = R) W4 W6 := ((Kept.refl _ _).drew).trans hk6
        obtain ⟨h1, h2⟩ := putL_all [.int .i64 6, .int .i64 0, .string ⟨#[]⟩, .int .i64 0, .bool false, .int .i64 on, .slice (some ⟨W6.heap.size, 0, none⟩) 2 2] (HC5x.out.kept hk6' kom) rfl
        have hsV := putL_size W1.heap.size [.int .i64 6, .int .i64 0, .string ⟨#[]⟩, .int .i64 0, .bool false, .int .i64 on, .slice (some ⟨W6.heap.size, 0, none⟩) 2 2] W6 0
        have hevy := (HEVx.out.kept hk6' (fun b _ h => by have h : b = R := h; show b ≤ _ ∨ _; omega)).kept h2 (fun b _ h => by have h : b = W1.heap.size := h; show b ≤ _ ∨ _; omega)
        have hev6 := (HEV6.out.kept h2 (fun b _ h => by have h : b = W1.heap.size := h; show b < W4.heap.size; omega)).mono (Z' := fun b => b ≤ w.heap.size ∨ b = W1.heap.size) (fun b _ h => by have h : b ≤ w.heap.size ∨ b = W1.heap.size := h; show b < W4.heap.size; omega)
        have hev2 := EV.two hevy hev6 (by rw [hsV]; show ¬ (_ ≤ _ ∨ _); omega) 6 0 ⟨#[]⟩ on 44
        rw [hsV] at hev2
        exact ⟨g', rk, k6, binE on ee a6, _, rfl, by omega, HCLx.out, h1.alloc _, hev2, ((HC2x.out.kept hk6' kom).kept h2 kom).alloc _, (HD6.out.kept h2 (fun b hb => by have hb : b = W1.heap.size := hb; omega)).alloc _,
          ((HKRx.out.trans (hk6'.mono (fun b _ h => .inl h))).trans (h2.mono (fun b _ h => .inr h))).alloc _, rfl, by omega, by omega⟩
theorem above_all (hops : ∀ W, S.inv W → OpsAt W) : ∀ f, OperC S f ∧ AboveC S f := by
 intro f
 induction f using Nat.strongRecOn with
 | _ f ih =>
  cases f with
  | zero => exact ⟨fun R k w h hf => absurd hf kom, fun R l k w h hl hf => absurd hf kom⟩
  | succ f =>
   have h := ih f kom
   exact ⟨oper_step h.1 h.2, above_step hops h.1 (fun g hg => (ih g kom).2)⟩
end
def zeroT : ET := .node 0 0 ⟨#[]⟩ 0 false 0 []
abbrev zeroSt : List Value := [.int .i64 0, .int .i64 0, .int .i64 0, .string ⟨#[]⟩, .string ⟨#[]⟩, .int .i64 0, .int .i64 0, .string ⟨#[]⟩, .int .i64 0, .bool false, .int .i64 0, .slice none 0 0, .int .i64 0, .int .i64 0, .string ⟨#[]⟩, .int .i64 0, .bool false, .int .i64 0, .slice none 0 0, .slice none 0 0, .slice none 0 0, .int .i64 0, .int .i64 0, .int .i64 0, .bool false]
def mkS (k : Int) (s t : ByteArray) (e x : ET) (b l : List ST) : ST := .node k 0 0 s t e x b l 0 0 0 false
theorem EV.zero (W : World) (Z : Nat → Prop) : EV W Z [.int .i64 0, .int .i64 0, .string ⟨#[]⟩, .int .i64 0, .bool false, .int .i64 0, .slice none 0 0] zeroT := EV.leaf W Z 0 0 ⟨#[]⟩ 0
theorem SV.mk {W : World} {Z : Nat → Prop} {ce cx : List Value} {vb vl : Value} {e x : ET} {b l : List ST} (k : Int) (s t : ByteArray) (he : EV W Z ce e) (hx : EV W Z cx x) (hb : RowV W Z vb (ST.ds b)) (hl : RowV W Z vl (ST.ds l)) :
  SV W Z ([.int .i64 k, .int .i64 0, .int .i64 0, .string s, .string t] ++ ce ++ cx ++ [vb, vl, .int .i64 0, .int .i64 0, .int .i64 0, .bool false]) (mkS k s t e x b l) :=
 SV.iff.2 ⟨ce, cx, vb, vl, rfl, he, hx, hb, hl⟩
section
variable (S : Src)
def exprS (k : Nat) : Except Nat (ET × Nat) := aboveS S (S.n * 3 + 2) 0 k
def worthS (k : Nat) : Except Nat (ET × Nat) := thn (exprS S k) fun e k => thn (wantS S k ⟨#[59]⟩) fun _ k => .ok (e, k)
def letS (k : Nat) : Except Nat (ST × Nat) := thn (nameS S k) fun s k => thn (wantS S k ⟨#[61]⟩) fun _ k => thn (worthS S k) fun e k => .ok (mkS 1 s ⟨#[]⟩ e zeroT [] [], k)
def sendS (k : Nat) : Except Nat (ST × Nat) := thn (nameS S k) fun s k => thn (worthS S k) fun e k => .ok (mkS 11 s ⟨#[]⟩ e zeroT [] [], k)
def joinS (k : Nat) : Except Nat (ST × Nat) := thn (wantS S k ⟨#[59]⟩) fun _ k => .ok (mkS 14 ⟨#[]⟩ ⟨#[]⟩ zeroT zeroT [] [], k)
def printS (k : Nat) : Except Nat (ST × Nat) := thn (worthS S k) fun e k => .ok (mkS 15 ⟨#[]⟩ ⟨#[]⟩ e zeroT [] [], k)
def namingS (q : Int) (k : Nat) : Except Nat (ST × Nat) := thn (nameS S k) fun s k => thn (wantS S k ⟨#[59]⟩) fun _ k => .ok (mkS q s ⟨#[]⟩ zeroT zeroT [] [], k)
def namingTwoS (q : Int) (k : Nat) : Except Nat (ST × Nat) := thn (nameS S k) fun s k => thn (nameS S k) fun t k => thn (wantS S k ⟨#[59]⟩) fun _ k => .ok (mkS q s t zeroT zeroT [] [], k)
def putS (s : ByteArray) (k : Nat) : Except Nat (ST × Nat) := thn (exprS S k) fun x k => thn (wantS S k ⟨#[93]⟩) fun _ k => thn (wantS S k ⟨#[61]⟩) fun _ k => thn (worthS S k) fun e k => .ok (mkS 3 s ⟨#[]⟩ e x [] [], k)
def setS (s : ByteArray) (k : Nat) : Except Nat (ST × Nat) := thn (wantS S k ⟨#[61]⟩) fun _ k => thn (worthS S k) fun e k => .ok (mkS 2 s ⟨#[]⟩ e zeroT [] [], k)
def assignS (k : Nat) : Except Nat (ST × Nat) := thn (nameS S k) fun s k => if takeB S k ⟨#[91]⟩ then putS S s (k + 1) else setS S s k
end
section
variable {S : Src} {f R k : Nat} {w : World}
theorem exprS_calls (hops : ∀ W, S.inv W → OpsAt W) (h : DR w R S k) : Calls Tryz.prog 127 #[.pointer (some ⟨R, 0, none⟩)] w (Parsed w R S retE (exprS S k)) :=
 expr_calls (above_all hops _).2 h kom
theorem worth_calls (hops : ∀ W, S.inv W → OpsAt W) (h : DR w R S k) : Calls Tryz.prog 126 #[.pointer (some ⟨R, 0, none⟩)] w (Parsed w R S retE (worthS S k)) := by
 have HS : Hid (worthS S k = thn (exprS S k) fun e k => thn (wantS S k ⟨#[59]⟩) fun _ k => .ok (e, k)) := aP rfl
 have HX := aP (fun W (h : DR W R S k) => exprS_calls hops h)
 clear hops
 have hRl := h.lt
 have hB := Cells.fresh w 44 zeroE
 have HB := aP hB
 have hsz : (w.alloc (.cells zeroE.toArray 44)).heap.size = w.heap.size + 1 := by simp
 clear hB
 go_enter Tryz.func126, Tryz.ntmps126
 go_wp2_with fail
 refine ((HX.out _ kdr)).mono ?_
 intro e W1 hq
 rcases hq.cases with ⟨kx, hr, hm, hk1⟩ | ⟨a1, k1, hr, hret, hd1, hk1⟩
 ·exact k_3
 replace HS := aP (HS.out.trans (by rw [hr, thn_ok]))
 clear hr hq
 obtain ⟨ra1, rb1, rc1⟩ := hk1.readsR (show _ = w.heap.size + 1 from hsz)
 obtain ⟨csx, rfl, hevx⟩ := hret
 obtain ⟨kx, mx, sx, slx, lox, ox, Ax, Nx, Cx, rfl⟩ := hevx.form
 have HEVx := aP hevx
 clear hevx
 have la1 : R < W1.heap.size := by omega
 have lb1 : w.heap.size < W1.heap.size := by omega
 have hEX := HEVx.out.keep ((Kept.refl noX W1).alloc (.cells #[.int .i64 kx, .int .i64 mx, .string sx, .int .i64 slx, .bool lox, .int .i64 ox, .slice Ax Nx Cx] 44))
 have HEX := aP hEX
 clear hEX hsz
 go_wp2_with fail
 refine ((want_any (S := S) (k := k1) (s := ⟨#[59]⟩) (by decide) kdr)).mono ?_
 intro e W2 hq
 rcases hq.cases with ⟨kx, hr, hm, hk2⟩ | ⟨a2, k2, hr, hret, hd2, hk2⟩
 ·exact k_3
 replace HS := aP (HS.out.trans (by rw [hr, thn_ok]))
 clear hr hq
 obtain ⟨ra2, rb2, rc2⟩ := hk2.readsR (show _ = W1.heap.size + 1 from (World.size_alloc _ _))
 have hret : e = _ := hret
 subst hret
 have la2 : R < W2.heap.size := by omega
 have lb2 : w.heap.size < W2.heap.size := by omega
 have lx : R < W1.heap.size + 1 := by omega
 go_wp2
 refine fin_box (W := W2) (B := w.heap.size) (t := 44) (old := zeroE) Tryz.results126 [.int .i64 kx, .int .i64 mx, .string sx, .int .i64 slx, .bool lox, .int .i64 ox, .slice Ax Nx Cx] rfl (have q := HB.out; kcl) rfl hd2 kom kom kp Tryz.underlying44 rfl krf rfl kkn (fun hdf hkf hkB hsB => Parsed.ok HS.out ⟨_, rfl, ?_⟩ hdf hkf)
 exact ((HEX.out.kept hk2 (fun g _ h => by have h : g = R := h; show g < _; first | omega | (rw [World.size_alloc]; omega))).kept hkB (fun g _ h => by have h : g = w.heap.size := h; show g < _; first | omega | (rw [World.size_alloc]; omega))).mono (fun g _ h => by have h : g < w.heap.size := h; show g < _; first | omega | (rw [World.size_alloc]; omega))
theorem let_calls (hops : ∀ W, S.inv W → OpsAt W) (h : DR w R S k) : Calls Tryz.prog 69 #[.pointer (some ⟨R, 0, none⟩)] w (Parsed w R S retSt (letS S k)) := by
 have HS : Hid (letS S k = thn (nameS S k) fun s k => thn (wantS S k ⟨#[61]⟩) fun _ k => thn (worthS S k) fun e k => .ok (mkS 1 s ⟨#[]⟩ e zeroT [] [], k)) := aP rfl
 have HX := aP (fun W k (h : DR W R S k) => worth_calls hops h)
 clear hops
 have hRl := h.lt
 have hB := Cells.fresh w 63 zeroSt
 have HB := aP hB
 have hsz : (w.alloc (.cells zeroSt.toArray 63)).heap.size = w.heap.size + 1 := by simp
 clear hB
 go_enter Tryz.func69, Tryz.ntmps69
 go_wp2_with fail
 refine ((name_calls (S := S) (k := k) kdr)).mono ?_
 intro e W1 hq
 rcases hq.cases with ⟨kx, hr, hm, hk1⟩ | ⟨a1, k1, hr, hret, hd1, hk1⟩
 ·exact k_3
 replace HS := aP (HS.out.trans (by rw [hr, thn_ok]))
 clear hr hq
 have hret : e = _ := hret
 subst hret
 have lb1 := hk1.size
 rw [World.size_alloc] at lb1
 clear hsz
 go_wp2_with ((with_reducible refine ats ?_); (refine wpList_store_all rfl rfl 63 (.tmp 3) (.tmp 8) rfl (W1.heap.size) rfl [.int .i64 1, .int .i64 0, .int .i64 0, .string a1, .string ⟨#[]⟩, .int .i64 0, .int .i64 0, .string ⟨#[]⟩, .int .i64 0, .bool false, .int .i64 0, .slice none 0 0, .int .i64 0, .int .i64 0, .string ⟨#[]⟩, .int .i64 0, .bool false, .int .i64 0, .slice none 0 0, .slice none 0 0, .slice none 0 0, .int .i64 0, .int .i64 0, .int .i64 0, .bool false] rfl (Cells.fresh W1 63 zeroSt) (by rfl) krf k1c ?_; intro W2 hB2 hk2; have HB2 := aP hB2; clear hB2))
 have lb2 := hk2.size
 rw [World.size_alloc] at lb2
 refine ((want_any (S := S) (k := k1) (s := ⟨#[61]⟩) (by decide) kdr)).mono ?_
 intro e W3 hq
 rcases hq.cases with ⟨kx, hr, hm, hk3⟩ | ⟨a3, k3, hr, hret, hd3, hk3⟩
 ·exact k_3
 replace HS := aP (HS.out.trans (by rw [hr, thn_ok]))
 clear hr hq
 have hret : e = _ := hret
 subst hret
 have lb3 := hk3.size
 go_wp2_with fail
 refine ((HX.out _ _ hd3)).mono ?_
 intro e W4 hq
 rcases hq.cases with ⟨kx, hr, hm, hk4⟩ | ⟨a4, k4, hr, hret, hd4, hk4⟩
 ·exact k_3
 replace HS := aP (HS.out.trans (by rw [hr, thn_ok]))
 clear hr hq
 have lb4 := hk4.size
 obtain ⟨csx, rfl, hevx⟩ := hret
 obtain ⟨kx, mx, sx, slx, lox, ox, Ax, Nx, Cx, rfl⟩ := hevx.form
 have HEVx := aP hevx
 clear hevx
 have HB3 := aP (show Cells W4 W1.heap.size 63 [.int .i64 1, .int .i64 0, .int .i64 0, .string a1, .string ⟨#[]⟩, .int .i64 0, .int .i64 0, .string ⟨#[]⟩, .int .i64 0, .bool false, .int .i64 0, .slice none 0 0, .int .i64 0, .int .i64 0, .string ⟨#[]⟩, .int .i64 0, .bool false, .int .i64 0, .slice none 0 0, .slice none 0 0, .slice none 0 0, .int .i64 0, .int .i64 0, .int .i64 0, .bool false] from (have q := HB2.out; kcl))
 have HB4 := aP (show Cells W4 w.heap.size 63 zeroSt from (have q := HB.out; kcl))
 clear HB2
 go_wp2_with (first | ((with_reducible refine ats ?_); (refine wpList_store_part rfl rfl 44 (.tmp 15) (.tmp 14) rfl (W1.heap.size) 5 rfl [.int .i64 kx, .int .i64 mx, .string sx, .int .i64 slx, .bool lox, .int .i64 ox, .slice Ax Nx Cx] rfl HB3.out kle krf k1c ?_; intro W5 hB5 hk5; replace hB5 : Cells W5 (W1.heap.size) 63 [.int .i64 1, .int .i64 0, .int .i64 0, .string a1, .string ⟨#[]⟩, .int .i64 kx, .int .i64 mx, .string sx, .int .i64 slx, .bool lox, .int .i64 ox, .slice Ax Nx Cx, .int .i64 0, .int .i64 0, .string ⟨#[]⟩, .int .i64 0, .bool false, .int .i64 0, .slice none 0 0, .slice none 0 0, .slice none 0 0, .int .i64 0, .int .i64 0, .int .i64 0, .bool false] := (by simpa using hB5); have HB5 := aP hB5; clear hB5)) | ((with_reducible refine atl ?_); (refine wpList_load_cells rfl 63 (.tmp 3) rfl (W1.heap.size) rfl _ Tryz.underlying63 rfl HB5.out krf ?_)) | ((with_reducible refine ats ?_); (refine wpList_store_all rfl rfl 63 (.tmp 2) (.tmp 16) rfl (w.heap.size) rfl [.int .i64 1, .int .i64 0, .int .i64 0, .string a1, .string ⟨#[]⟩, .int .i64 kx, .int .i64 mx, .string sx, .int .i64 slx, .bool lox, .int .i64 ox, .slice Ax Nx Cx, .int .i64 0, .int .i64 0, .string ⟨#[]⟩, .int .i64 0, .bool false, .int .i64 0, .slice none 0 0, .slice none 0 0, .slice none 0 0, .int .i64 0, .int .i64 0, .int .i64 0, .bool false] rfl (HB4.out.kept hk5 kom) (by rfl) krf k1c ?_; intro W6 hB6 hk6; have HB6 := aP hB6; clear hB6)))
 refine ret_box Tryz.results69 rfl HB6.out Tryz.underlying63 rfl krf rfl (Parsed.ok HS.out ⟨_, rfl, ?_⟩ kdr kp)
 exact SV.mk 1 a1 ⟨#[]⟩ (((HEVx.out.kept hk5 (fun g _ h => by have h : g = W1.heap.size := h; show g < _; first | omega | (rw [World.size_alloc]; omega))).kept hk6 (fun g _ h => by have h : g = w.heap.size := h; show g < _; first | omega | (rw [World.size_alloc]; omega))).mono (fun g _ h => by have h : g < w.heap.size := h; show g < _; first | omega | (rw [World.size_alloc]; omega))) (EV.zero _ _) (RowV.nil _ _) (RowV.nil _ _)
theorem send_calls (hops : ∀ W, S.inv W → OpsAt W) (h : DR w R S k) : Calls Tryz.prog 74 #[.pointer (some ⟨R, 0, none⟩)] w (Parsed w R S retSt (sendS S k)) := by
 have HS : Hid (sendS S k = thn (nameS S k) fun s k => thn (worthS S k) fun e k => .ok (mkS 11 s ⟨#[]⟩ e zeroT [] [], k)) := aP rfl
 have HX := aP (fun W k (h : DR W R S k) => worth_calls hops h)
 clear hops
 have hRl := h.lt
 have hB := Cells.fresh w 63 zeroSt
 have HB := aP hB
 have hsz : (w.alloc (.cells zeroSt.toArray 63)).heap.size = w.heap.size + 1 := by simp
 clear hB
 go_enter Tryz.func74, Tryz.ntmps74
 go_wp2_with fail
 refine ((name_calls (S := S) (k := k) kdr)).mono ?_
 intro e W1 hq
 rcases hq.cases with ⟨kx, hr, hm, hk1⟩ | ⟨a1, k1, hr, hret, hd1, hk1⟩
 ·exact k_3
 replace HS := aP (HS.out.trans (by rw [hr, thn_ok]))
 clear hr hq
 have hret : e = _ := hret
 subst hret
 have lb1 := hk1.size
 rw [World.size_alloc] at lb1
 clear hsz
 go_wp2_with ((with_reducible refine ats ?_); (refine wpList_store_all rfl rfl 63 (.tmp 3) (.tmp 8) rfl (W1.heap.size) rfl [.int .i64 11, .int .i64 0, .int .i64 0, .string a1, .string ⟨#[]⟩, .int .i64 0, .int .i64 0, .string ⟨#[]⟩, .int .i64 0, .bool false, .int .i64 0, .slice none 0 0, .int .i64 0, .int .i64 0, .string ⟨#[]⟩, .int .i64 0, .bool false, .int .i64 0, .slice none 0 0, .slice none 0 0, .slice none 0 0, .int .i64 0, .int .i64 0, .int .i64 0, .bool false] rfl (Cells.fresh W1 63 zeroSt) (by rfl) krf k1c ?_; intro W2 hB2 hk2; have HB2 := aP hB2; clear hB2))
 have lb2 := hk2.size
 rw [World.size_alloc] at lb2
 refine ((HX.out _ k1 kdr)).mono ?_
 intro e W4 hq
 rcases hq.cases with ⟨kx, hr, hm, hk4⟩ | ⟨a4, k4, hr, hret, hd4, hk4⟩
 ·exact k_3
 replace HS := aP (HS.out.trans (by rw [hr, thn_ok]))
 clear hr hq
 have lb4 := hk4.size
 obtain ⟨csx, rfl, hevx⟩ := hret
 obtain ⟨kx, mx, sx, slx, lox, ox, Ax, Nx, Cx, rfl⟩ := hevx.form
 have HEVx := aP hevx
 clear hevx
 have HB3 := aP (show Cells W4 W1.heap.size 63 [.int .i64 11, .int .i64 0, .int .i64 0, .string a1, .string ⟨#[]⟩, .int .i64 0, .int .i64 0, .string ⟨#[]⟩, .int .i64 0, .bool false, .int .i64 0, .slice none 0 0, .int .i64 0, .int .i64 0, .string ⟨#[]⟩, .int .i64 0, .bool false, .int .i64 0, .slice none 0 0, .slice none 0 0, .slice none 0 0, .int .i64 0, .int .i64 0, .int .i64 0, .bool false] from (have q := HB2.out; kcl))
 have HB4 := aP (show Cells W4 w.heap.size 63 zeroSt from (have q := HB.out; kcl))
 clear HB2
 go_wp2_with (first | ((with_reducible refine ats ?_); (refine wpList_store_part rfl rfl 44 (.tmp 11) (.tmp 10) rfl (W1.heap.size) 5 rfl [.int .i64 kx, .int .i64 mx, .string sx, .int .i64 slx, .bool lox, .int .i64 ox, .slice Ax Nx Cx] rfl HB3.out kle krf k1c ?_; intro W5 hB5 hk5; replace hB5 : Cells W5 (W1.heap.size) 63 [.int .i64 11, .int .i64 0, .int .i64 0, .string a1, .string ⟨#[]⟩, .int .i64 kx, .int .i64 mx, .string sx, .int .i64 slx, .bool lox, .int .i64 ox, .slice Ax Nx Cx, .int .i64 0, .int .i64 0, .string ⟨#[]⟩, .int .i64 0, .bool false, .int .i64 0, .slice none 0 0, .slice none 0 0, .slice none 0 0, .int .i64 0, .int .i64 0, .int .i64 0, .bool false] := (by simpa using hB5); have HB5 := aP hB5; clear hB5)) | ((with_reducible refine atl ?_); (refine wpList_load_cells rfl 63 (.tmp 3) rfl (W1.heap.size) rfl _ Tryz.underlying63 rfl HB5.out krf ?_)) | ((with_reducible refine ats ?_); (refine wpList_store_all rfl rfl 63 (.tmp 2) (.tmp 12) rfl (w.heap.size) rfl [.int .i64 11, .int .i64 0, .int .i64 0, .string a1, .string ⟨#[]⟩, .int .i64 kx, .int .i64 mx, .string sx, .int .i64 slx, .bool lox, .int .i64 ox, .slice Ax Nx Cx, .int .i64 0, .int .i64 0, .string ⟨#[]⟩, .int .i64 0, .bool false, .int .i64 0, .slice none 0 0, .slice none 0 0, .slice none 0 0, .int .i64 0, .int .i64 0, .int .i64 0, .bool false] rfl (HB4.out.kept hk5 kom) (by rfl) krf k1c ?_; intro W6 hB6 hk6; have HB6 := aP hB6; clear hB6)))
 refine ret_box Tryz.results74 rfl HB6.out Tryz.underlying63 rfl krf rfl (Parsed.ok HS.out ⟨_, rfl, ?_⟩ kdr kp)
 exact SV.mk 11 a1 ⟨#[]⟩ (((HEVx.out.kept hk5 (fun g _ h => by have h : g = W1.heap.size := h; show g < _; first | omega | (rw [World.size_alloc]; omega))).kept hk6 (fun g _ h => by have h : g = w.heap.size := h; show g < _; first | omega | (rw [World.size_alloc]; omega))).mono (fun g _ h => by have h : g < w.heap.size := h; show g < _; first | omega | (rw [World.size_alloc]; omega))) (EV.zero _ _) (RowV.nil _ _) (RowV.nil _ _)
theorem print_calls (hops : ∀ W, S.inv W → OpsAt W) (h : DR w R S k) : Calls Tryz.prog 76 #[.pointer (some ⟨R, 0, none⟩)] w (Parsed w R S retSt (printS S k)) := by
 have HS : Hid (printS S k = thn (worthS S k) fun e k => .ok (mkS 15 ⟨#[]⟩ ⟨#[]⟩ e zeroT [] [], k)) := aP rfl
 have HX := aP (fun W k (h : DR W R S k) => worth_calls hops h)
 clear hops
 have hRl := h.lt
 have hB := Cells.fresh w 63 zeroSt
 have HB := aP hB
 have hsz : (w.alloc (.cells zeroSt.toArray 63)).heap.size = w.heap.size + 1 := by simp
 clear hB
 go_enter Tryz.func76, Tryz.ntmps76
 go_wp2_with fail
 refine ((HX.out _ k kdr)).mono ?_
 intro e W1 hq
 rcases hq.cases with ⟨kx, hr, hm, hk1⟩ | ⟨a1, k1, hr, hret, hd1, hk1⟩
 ·exact k_3
 replace HS := aP (HS.out.trans (by rw [hr, thn_ok]))
 clear hr hq
 have lb1 := hk1.size
 rw [World.size_alloc] at lb1
 obtain ⟨csx, rfl, hevx⟩ := hret
 obtain ⟨kx, mx, sx, slx, lox, ox, Ax, Nx, Cx, rfl⟩ := hevx.form
 have HEVx := aP hevx
 clear hevx
 have HB4 := aP (show Cells W1 w.heap.size 63 zeroSt from (have q := HB.out; kcl))
 go_wp2_with (first | ((with_reducible refine ats ?_); (refine wpList_store_all rfl rfl 63 (.tmp 2) (.tmp 5) rfl (w.heap.size) rfl [.int .i64 15, .int .i64 0, .int .i64 0, .string ⟨#[]⟩, .string ⟨#[]⟩, .int .i64 kx, .int .i64 mx, .string sx, .int .i64 slx, .bool lox, .int .i64 ox, .slice Ax Nx Cx, .int .i64 0, .int .i64 0, .string ⟨#[]⟩, .int .i64 0, .bool false, .int .i64 0, .slice none 0 0, .slice none 0 0, .slice none 0 0, .int .i64 0, .int .i64 0, .int .i64 0, .bool false] rfl HB4.out (by rfl) krf k1c ?_; intro W2 hB2 hk2; have HB2 := aP hB2; clear hB2)))
 clear hsz
 refine ret_box Tryz.results76 rfl HB2.out Tryz.underlying63 rfl krf rfl (Parsed.ok HS.out ⟨_, rfl, ?_⟩ kdr kp)
 exact SV.mk 15 ⟨#[]⟩ ⟨#[]⟩ ((HEVx.out.kept hk2 (fun g _ h => by have h : g = w.heap.size := h; show g < _; first | omega | (rw [World.size_alloc]; omega))).mono (fun g _ h => by have h : g < w.heap.size := h; show g < _; first | omega | (rw [World.size_alloc]; omega))) (EV.zero _ _) (RowV.nil _ _) (RowV.nil _ _)
theorem join_calls (h : DR w R S k) : Calls Tryz.prog 75 #[.pointer (some ⟨R, 0, none⟩)] w (Parsed w R S retSt (joinS S k)) := by
 have HS : Hid (joinS S k = thn (wantS S k ⟨#[59]⟩) fun _ k => .ok (mkS 14 ⟨#[]⟩ ⟨#[]⟩ zeroT zeroT [] [], k)) := aP rfl
 have hRl := h.lt
 have hB := Cells.fresh w 63 zeroSt
 have HB := aP hB
 have hsz : (w.alloc (.cells zeroSt.toArray 63)).heap.size = w.heap.size + 1 := by simp
 clear hB
 go_enter Tryz.func75, Tryz.ntmps75
 go_wp2_with fail
 refine ((want_any (S := S) (k := k) (s := ⟨#[59]⟩) (by decide) kdr)).mono ?_
 intro e W1 hq
 rcases hq.cases with ⟨kx, hr, hm, hk1⟩ | ⟨a1, k1, hr, hret, hd1, hk1⟩
 ·exact k_3
 replace HS := aP (HS.out.trans (by rw [hr, thn_ok]))
 clear hr hq
 have hret : e = _ := hret
 subst hret
 have lb1 := hk1.size
 rw [World.size_alloc] at lb1
 have HB4 := aP (show Cells W1 w.heap.size 63 zeroSt from (have q := HB.out; kcl))
 go_wp2_with (first | ((with_reducible refine ats ?_); (refine wpList_store_all rfl rfl 63 (.tmp 2) (.tmp 7) rfl (w.heap.size) rfl [.int .i64 14, .int .i64 0, .int .i64 0, .string ⟨#[]⟩, .string ⟨#[]⟩, .int .i64 0, .int .i64 0, .string ⟨#[]⟩, .int .i64 0, .bool false, .int .i64 0, .slice none 0 0, .int .i64 0, .int .i64 0, .string ⟨#[]⟩, .int .i64 0, .bool false, .int .i64 0, .slice none 0 0, .slice none 0 0, .slice none 0 0, .int .i64 0, .int .i64 0, .int .i64 0, .bool false] rfl HB4.out (by rfl) krf k1c ?_; intro W2 hB2 hk2; have HB2 := aP hB2; clear hB2)))
 clear hsz
 refine ret_box Tryz.results75 rfl HB2.out Tryz.underlying63 rfl krf rfl (Parsed.ok HS.out ⟨_, rfl, ?_⟩ kdr kp)
 exact SV.mk 14 ⟨#[]⟩ ⟨#[]⟩ (EV.zero _ _) (EV.zero _ _) (RowV.nil _ _) (RowV.nil _ _)
end
def kindsL : List ByteArray := [⟨#[]⟩, ⟨#[108, 101, 116]⟩, ⟨#[]⟩, ⟨#[]⟩, ⟨#[105, 102]⟩, ⟨#[119, 104, 105, 108, 101]⟩, ⟨#[108, 111, 99, 107]⟩, ⟨#[117, 110, 108, 111, 99, 107]⟩, ⟨#[119, 97, 105, 116]⟩, ⟨#[115, 105, 103, 110, 97, 108]⟩, ⟨#[97, 108, 108]⟩, ⟨#[115, 101, 110, 100]⟩, ⟨#[114, 101, 99, 118]⟩, ⟨#[115, 112, 97, 119, 110]⟩, ⟨#[106, 111, 105, 110]⟩, ⟨#[112, 114, 105, 110, 116]⟩]
def kElse : ByteArray := ⟨#[101, 108, 115, 101]⟩
abbrev RS : Type := Nat × Bool
section
variable (n : Nat) (T : Nat → TokD)
def isR (st : RS) (s : ByteArray) : Bool := isP n T st.1 st.2 s
def muR (st : RS) (s : ByteArray) : RS := mustK n T st.1 st.2 s
def naR (st : RS) : ByteArray × RS := (nameOf n T st.1 st.2, kindStep n T st.1 st.2 1, kindBad n T st.1 st.2 1)
def nuR (st : RS) : Int × RS := (numOf n T st.1 st.2, kindStep n T st.1 st.2 2, kindBad n T st.1 st.2 2)
def exR (st : RS) : ET × RS := exprP n T (n * 10 + 10) 1 st.1 st.2
def nextR (st : RS) : RS := (st.1 + 1, st.2)
def kindUp (st : RS) : Nat → Nat
 | 0 => 0
 | j + 1 => if !((kindsL.getD (j + 1) ⟨#[]⟩).toList.isEmpty) && isR n T st (kindsL.getD (j + 1) ⟨#[]⟩) then j + 1 else kindUp st j
def kindR (st : RS) : Nat := kindUp n T st 15
def stR (st : RS) (q : Int) (s t : ByteArray) (e x : ET) (b l : List ST) : ST := .node q (lineOf n T st.1) (colOf n T st.1) s t e x b l 0 0 0 false
def setR (s0 : RS) (a : ByteArray × RS) : ST × RS :=
 (stR n T s0 2 a.1 ⟨#[]⟩ (exR n T (muR n T a.2 ⟨#[61]⟩)).1 zeroT [] [], muR n T (exR n T (muR n T a.2 ⟨#[61]⟩)).2 ⟨#[59]⟩)
def putR (s0 : RS) (a : ByteArray × RS) (x : ET × RS) : ST × RS :=
 (stR n T s0 3 a.1 ⟨#[]⟩ (exR n T (muR n T (muR n T x.2 ⟨#[93]⟩) ⟨#[61]⟩)).1 x.1 [] [], muR n T (exR n T (muR n T (muR n T x.2 ⟨#[93]⟩) ⟨#[61]⟩)).2 ⟨#[59]⟩)
def letR (s0 : RS) (a : ByteArray × RS) : ST × RS :=
 (stR n T s0 1 a.1 ⟨#[]⟩ (exR n T (muR n T a.2 ⟨#[61]⟩)).1 zeroT [] [], muR n T (exR n T (muR n T a.2 ⟨#[61]⟩)).2 ⟨#[59]⟩)
def nameR (s0 : RS) (q : Int) (a : ByteArray × RS) : ST × RS := (stR n T s0 q a.1 ⟨#[]⟩ zeroT zeroT [] [], muR n T a.2 ⟨#[59]⟩)
def twoR (s0 : RS) (q : Int) (a b : ByteArray × RS) : ST × RS := (stR n T s0 q a.1 b.1 zeroT zeroT [] [], muR n T b.2 ⟨#[59]⟩)
def sendR (s0 : RS) (a : ByteArray × RS) (e : ET × RS) : ST × RS := (stR n T s0 11 a.1 ⟨#[]⟩ e.1 zeroT [] [], muR n T e.2 ⟨#[59]⟩)
def joinR (s0 : RS) (st : RS) : ST × RS := (stR n T s0 14 ⟨#[]⟩ ⟨#[]⟩ zeroT zeroT [] [], muR n T st ⟨#[59]⟩)
def printR (s0 : RS) (e : ET × RS) : ST × RS := (stR n T s0 15 ⟨#[]⟩ ⟨#[]⟩ e.1 zeroT [] [], muR n T e.2 ⟨#[59]⟩)
mutual
def stmtR : Nat → RS → ST × RS
 | 0, st => (stR n T st 0 ⟨#[]⟩ ⟨#[]⟩ zeroT zeroT [] [], st)
 | f + 1, st =>
  if kindR n T st = 0 then
   if isR n T (naR n T st).2 ⟨#[91]⟩ then putR n T st (naR n T st) (exR n T (nextR (naR n T st).2))
   else setR n T st (naR n T st)
  else if kindR n T st = 1 then letR n T st (naR n T (nextR st))
  else if kindR n T st = 4 then
   if isR n T (blockR f (exR n T (nextR st)).2).2 kElse then
    (stR n T st 4 ⟨#[]⟩ ⟨#[]⟩ (exR n T (nextR st)).1 zeroT (blockR f (exR n T (nextR st)).2).1 (blockR f (nextR (blockR f (exR n T (nextR st)).2).2)).1, (blockR f (nextR (blockR f (exR n T (nextR st)).2).2)).2)
   else (stR n T st 4 ⟨#[]⟩ ⟨#[]⟩ (exR n T (nextR st)).1 zeroT (blockR f (exR n T (nextR st)).2).1 [], (blockR f (exR n T (nextR st)).2).2)
  else if kindR n T st = 5 then (stR n T st 5 ⟨#[]⟩ ⟨#[]⟩ (exR n T (nextR st)).1 zeroT (blockR f (exR n T (nextR st)).2).1 [], (blockR f (exR n T (nextR st)).2).2)
  else if kindR n T st = 8 ∨ kindR n T st = 12 then twoR n T st (kindR n T st : Nat) (naR n T (nextR st)) (naR n T (naR n T (nextR st)).2)
  else if kindR n T st = 11 then sendR n T st (naR n T (nextR st)) (exR n T (naR n T (nextR st)).2)
  else if kindR n T st = 14 then joinR n T st (nextR st)
  else if kindR n T st = 15 then printR n T st (exR n T (nextR st))
  else nameR n T st (kindR n T st : Nat) (naR n T (nextR st))
def blockR : Nat → RS → List ST × RS
 | 0, st => ([], st)
 | f + 1, st => ((restR f (muR n T st ⟨#[123]⟩)).1, muR n T (restR f (muR n T st ⟨#[123]⟩)).2 ⟨#[125]⟩)
def restR : Nat → RS → List ST × RS
 | 0, st => ([], st)
 | f + 1, st =>
  if st.2 || isR n T st ⟨#[125]⟩ then ([], st)
  else ((stmtR f st).1 :: (restR f (stmtR f st).2).1, (restR f (stmtR f st).2).2)
end
def On (st : RS) (st' : RS) : Prop := st.1 ≤ st'.1 ∧ (st.1 ≤ n → st'.1 ≤ n)
variable {n T}
theorem On.refl (st : RS) : On n st st := ⟨Nat.le_refl _, fun h => h⟩
theorem On.trans {a b c : RS} (h : On n a b) (k : On n b c) : On n a c := ⟨Nat.le_trans h.1 k.1, fun hn => k.2 (h.2 hn)⟩
theorem muR_on (st : RS) (s : ByteArray) : On n st (muR n T st s) := ⟨stepP_le n T st.1 st.2 s, fun h => stepP_in h⟩
theorem naR_on (st : RS) : On n st (naR n T st).2 := ⟨kindStep_le n T st.1 st.2 1, fun h => kindStep_in h⟩
theorem nuR_on (st : RS) : On n st (nuR n T st).2 := ⟨kindStep_le n T st.1 st.2 2, fun h => kindStep_in h⟩
theorem exR_on (st : RS) : On n st (exR n T st).2 := ⟨(reads_on n T _).2.2.1 1 st.1 st.2, fun h => (reads_in n T _).2.2.1 1 st.1 st.2 h⟩
theorem kindUp_lt {st : RS} : ∀ {j : Nat}, kindUp n T st j ≠ 0 → st.1 < n ∧ st.2 = false
 | 0, h => absurd rfl h
 | j + 1, h => by
  rw [kindUp] at h
  by_cases hc : (!((kindsL.getD (j + 1) ⟨#[]⟩).toList.isEmpty) && isR n T st (kindsL.getD (j + 1) ⟨#[]⟩)) = true
  ·rw [Bool.and_eq_true] at hc
   exact isP_lt hc.2
  ·rw [if_neg hc] at h
   exact kindUp_lt h
theorem kindUp_le {st : RS} : ∀ (j : Nat), kindUp n T st j ≤ j
 | 0 => Nat.le_refl _
 | j + 1 => by
  rw [kindUp]
  split
  ·exact Nat.le_refl _
  ·have := kindUp_le (st := st) j; omega
theorem isR_lt {st : RS} {s : ByteArray} (h : isR n T st s = true) : st.1 < n ∧ st.2 = false := isP_lt h
theorem nextR_on {st : RS} (h : st.1 < n) : On n st (nextR st) := ⟨Nat.le_succ _, fun _ => h⟩
theorem setR_on (s0 : RS) (a : ByteArray × RS) : On n a.2 (setR n T s0 a).2 := ((muR_on _ _).trans (exR_on _)).trans (muR_on _ _)
theorem putR_on (s0 : RS) (a : ByteArray × RS) (x : ET × RS) : On n x.2 (putR n T s0 a x).2 := ((((muR_on _ _).trans (muR_on _ _)).trans (exR_on _))).trans (muR_on _ _)
theorem letR_on (s0 : RS) (a : ByteArray × RS) : On n a.2 (letR n T s0 a).2 := ((muR_on _ _).trans (exR_on _)).trans (muR_on _ _)
theorem stmts_on : ∀ f, (∀ st, On n st (stmtR n T f st).2) ∧ (∀ st, On n st (blockR n T f st).2) ∧ (∀ st, On n st (restR n T f st).2) := by
 intro f
 induction f with
 | zero => exact ⟨fun st => (by rw [stmtR]; exact On.refl _), fun st => (by rw [blockR]; exact On.refl _), fun st => (by rw [restR]; exact On.refl _)⟩
 | succ f ih =>
  obtain ⟨h1, h2, h3⟩ := ih
  refine ⟨fun st => ?_, fun st => ?_, fun st => ?_⟩
  ·rw [stmtR]
   by_cases hk : kindR n T st = 0
   ·rw [if_pos hk]
    split
    ·rename_i hb
     exact ((naR_on _).trans (nextR_on (isR_lt hb).1)).trans ((exR_on _).trans (putR_on _ _ _))
    ·exact (naR_on _).trans (setR_on _ _)
   ·rw [if_neg hk]
    have hnx : On n st (nextR st) := nextR_on (kindUp_lt hk).1
    split
    ·exact (hnx.trans (naR_on _)).trans (letR_on _ _)
    ·split
     ·split
      ·rename_i hb
       exact ((hnx.trans (exR_on _)).trans (h2 _)).trans ((nextR_on (isR_lt hb).1).trans (h2 _))
      ·exact (hnx.trans (exR_on _)).trans (h2 _)
     ·split
      ·exact (hnx.trans (exR_on _)).trans (h2 _)
      ·split
       ·exact ((hnx.trans (naR_on _)).trans (naR_on _)).trans (muR_on _ _)
       ·split
        ·exact ((hnx.trans (naR_on _)).trans (exR_on _)).trans (muR_on _ _)
        ·split
         ·exact hnx.trans (muR_on _ _)
         ·split
          ·exact (hnx.trans (exR_on _)).trans (muR_on _ _)
          ·exact (hnx.trans (naR_on _)).trans (muR_on _ _)
  ·rw [blockR]
   exact ((muR_on _ _).trans (h3 _)).trans (muR_on _ _)
  ·rw [restR]
   split
   ·exact On.refl _
   ·exact (h1 _).trans (h3 _)
end
abbrev RAt (W : World) (R : Nat) (v : Value) (n : Nat) (T : Nat → TokD) (st : RS) : Prop := R2 W R v n T st.1 st.2
def ReadsS (w : World) (R : Nat) (v : Value) (n : Nat) (T : Nat → TokD) (r : ST × RS) (e : Ending) (W' : World) : Prop :=
 ∃ cs, e = .returned (.agg cs.toArray) ∧ SV W' (· < w.heap.size) cs r.1 ∧ RAt W' R v n T r.2 ∧ Kept (· = R) w W'
def ReadsB (w : World) (R : Nat) (v : Value) (n : Nat) (T : Nat → TokD) (r : List ST × RS) (e : Ending) (W' : World) : Prop :=
 ∃ u, e = .returned u ∧ RowV W' (· < w.heap.size) u (ST.ds r.1) ∧ RAt W' R v n T r.2 ∧ Kept (· = R) w W'
def StmC (n : Nat) (T : Nat → TokD) (f : Nat) : Prop := ∀ R v st w, RAt w R v n T st → st.1 ≤ n → (n - st.1) * 3 + 1 ≤ f → Calls Tryz.prog 138 #[.pointer (some ⟨R, 0, none⟩)] w (ReadsS w R v n T (stmtR n T f st))
def BlkC (n : Nat) (T : Nat → TokD) (f : Nat) : Prop := ∀ R v st w, RAt w R v n T st → st.1 ≤ n → (n - st.1) * 3 + 3 ≤ f → Calls Tryz.prog 87 #[.pointer (some ⟨R, 0, none⟩)] w (ReadsB w R v n T (blockR n T f st))
section
variable {R : Nat} {v : Value} {n : Nat} {T : Nat → TokD} {st : RS} {w : World}
theorem isR_any (h : RAt w R v n T st) (s : ByteArray) : Calls Tryz.prog 82 #[.pointer (some ⟨R, 0, none⟩), .string s] w fun e w' => e = .returned (.bool (isR n T st s)) ∧ Kept noX w w' := rdis_any R v n T st.1 st.2 s w h
theorem muR_any (h : RAt w R v n T st) (s : ByteArray) : Calls Tryz.prog 84 #[.pointer (some ⟨R, 0, none⟩), .string s] w fun e w' => e = .returned (.tuple #[]) ∧ RAt w' R v n T (muR n T st s) ∧ Kept (· = R) w w' := rdmust_any R v n T st.1 st.2 s w h
theorem naR_any (h : RAt w R v n T st) : Calls Tryz.prog 83 #[.pointer (some ⟨R, 0, none⟩)] w fun e w' => e = .returned (.string (naR n T st).1) ∧ RAt w' R v n T (naR n T st).2 ∧ Kept (· = R) w w' := rdname_any R v n T st.1 st.2 w h
theorem nuR_any (h : RAt w R v n T st) : Calls Tryz.prog 86 #[.pointer (some ⟨R, 0, none⟩)] w fun e w' => e = .returned (.int .i64 (nuR n T st).1) ∧ RAt w' R v n T (nuR n T st).2 ∧ Kept (· = R) w w' := rdnumber_any R v n T st.1 st.2 w h
theorem tkR_yes (h : RAt w R v n T st) {s : ByteArray} (hs : isR n T st s = true) : Calls Tryz.prog 85 #[.pointer (some ⟨R, 0, none⟩), .string s] w fun e w' => e = .returned (.bool true) ∧ RAt w' R v n T (nextR st) ∧ Kept (· = R) w w' := by
 have := rdtake_any R v n T st.1 st.2 s w h
 rw [show isP n T st.1 st.2 s = true from hs, show stepP n T st.1 st.2 s = st.1 + 1 from by unfold stepP; rw [show isP n T st.1 st.2 s = true from hs, if_pos rfl]] at this
 exact this
theorem tkR_no (h : RAt w R v n T st) {s : ByteArray} (hs : isR n T st s = false) : Calls Tryz.prog 85 #[.pointer (some ⟨R, 0, none⟩), .string s] w fun e w' => e = .returned (.bool false) ∧ RAt w' R v n T st ∧ Kept (· = R) w w' := by
 have := rdtake_any R v n T st.1 st.2 s w h
 rw [show isP n T st.1 st.2 s = false from hs, show stepP n T st.1 st.2 s = st.1 from by unfold stepP; rw [show isP n T st.1 st.2 s = false from hs, if_neg Bool.false_ne_true]] at this
 exact this
theorem exR_any (h : RAt w R v n T st) (hn : st.1 ≤ n) : Calls Tryz.prog 171 #[.pointer (some ⟨R, 0, none⟩), .int .i64 1] w fun e W' => ∃ cs, e = .returned (.agg cs.toArray) ∧ EV W' (· < w.heap.size) cs (exR n T st).1 ∧ RAt W' R v n T (exR n T st).2 ∧ Kept (· = R) w W' :=
 (rexprs_all n T _).2.2 R v 1 st.1 st.2 w h hn (Nat.le_refl _) (by decide) (by have : (n - st.1) * 10 ≤ n * 10 := Nat.mul_le_mul_right _ (Nat.sub_le _ _); omega)
theorem pos_any (h : RAt w R v n T st) : Calls Tryz.prog 81 #[.pointer (some ⟨R, 0, none⟩)] w fun e w' => e = .returned (.agg #[.int .i64 (lineOf n T st.1), .int .i64 (colOf n T st.1)]) ∧ Kept noX w w' := rdpos_any R v n T st.1 st.2 w h
theorem RAt.own_lt (h : RAt w R v n T st) : ∀ g, v.ownBlock = some g → g < w.heap.size := fun g hg => by
 obtain ⟨xs, ho, _⟩ := h.row
 exact (ho.lt g hg).2
theorem RAt.next (h : RAt w R v n T st) : RAt (w.setCell ⟨R, 1, none⟩ (.int .i64 ((st.1 + 1 : Nat) : Int))) R v n T (nextR st) ∧ Kept (· = R) w (w.setCell ⟨R, 1, none⟩ (.int .i64 ((st.1 + 1 : Nat) : Int))) := R2.step h (st.1 + 1)
end
theorem rkinds_any (w : World) : Calls Tryz.prog 152 #[] w fun e w' => e = .returned (.slice (some ⟨w.heap.size, 0, none⟩) 16 16) ∧ Cells w' w.heap.size 9 (kindsL.map .string) ∧ Kept noX w w' := by
 have hc := Cells.fresh w 9 (kindsL.map .string)
 have hk : Kept noX w (w.alloc (.cells (kindsL.map Value.string).toArray 9)) := (Kept.refl _ _).alloc _
 have HC := aP hc
 have HK := aP hk
 clear hc hk
 simp only [kindsL, List.map_cons, List.map_nil] at HC HK ⊢
 go_enter Tryz.func152, Tryz.ntmps152
 go_wp2
 go_ret
 exact ⟨rfl, HC.out, HK.out⟩
theorem kinds_cell {w : World} {g : Nat} (h : Cells w g 9 (kindsL.map .string)) {j : Nat} (hj : j < 16) : w.cell? ⟨g, j, none⟩ = some (.string (kindsL.getD j ⟨#[]⟩)) := by
 rw [h.cell j, List.getElem?_map, List.getD_eq_getElem?_getD, List.getElem?_eq_getElem (show j < kindsL.length from hj)]
 rfl
def hdSt (q li co : Int) : List Value := [.int .i64 q, .int .i64 li, .int .i64 co] ++ zeroSt.drop 3
def KdI (R : Nat) (v : Value) (n : Nat) (T : Nat → TokD) (st : RS) (B E G : Nat) (Wl : World) (i : Value) (wr : World) : Prop :=
 ∃ j : Nat, 1 ≤ j ∧ j ≤ 16 ∧ i = .int .i64 j ∧ Cells wr E 63 (hdSt (kindUp n T st (j - 1) : Nat) (lineOf n T st.1) (colOf n T st.1)) ∧ Cells wr B 63 zeroSt ∧ Cells wr G 9 (kindsL.map .string) ∧ RAt wr R v n T st ∧ Kept (· = E) Wl wr
end Go.Proofs.YtjkgepppoopheaaGreatDoor
