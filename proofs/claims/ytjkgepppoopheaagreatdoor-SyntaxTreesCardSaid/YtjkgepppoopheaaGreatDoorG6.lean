/- The project's reader of expressions, as a function of the words, and what its calls do (conditions: at most 1000000 words). -/
import Derived.Test.YtjkgepppoopheaaGreatDoorG5
namespace Go.Proofs.YtjkgepppoopheaaGreatDoor
open Go.RowKit Go.Shelf

section
variable (S : Src)
/-- The operator that stands next: its number, its rank, is there one? -/
def opAt (k : Nat) : (ByteArray × Int) × Nat × Bool := rankedP (signP (S.tok k).text)
/-- Nothing more belongs to what is read? -/
def stopS (least has k : Nat) : Bool := !(opAt S k).2.2 || decide ((opAt S k).2.1 < least) || decide (has < leftS (opAt S k).2.1)
mutual
/-- The first number bounds the calls still to come. -/
def operandS : Nat → Nat → Except Nat (ET × Nat)
  | 0, k => .error k
  | f + 1, k =>
    if takeB S k ⟨#[45]⟩ then thn (operandS f (k + 1)) fun e k => .ok (negE e, k)
    else if takeB S k ⟨#[33]⟩ then thn (operandS f (k + 1)) fun e k => .ok (notE e, k)
    else if takeB S k ⟨#[40]⟩ then thn (aboveS f 0 (k + 1)) fun e k => thn (wantS S k ⟨#[41]⟩) fun _ k => .ok (e, k)
    else if kindB S k 2 then thn (numS S k) fun n k => .ok (numE n, k)
    else thn (nameS S k) fun s k =>
      if takeB S k ⟨#[91]⟩ then thn (aboveS f 0 (k + 1)) fun e k => thn (wantS S k ⟨#[93]⟩) fun _ k => .ok (cellE s e, k)
      else .ok (nameE s, k)
def aboveS : Nat → Nat → Nat → Except Nat (ET × Nat)
  | 0, _, k => .error k
  | f + 1, least, k => thn (operandS f k) fun e k => climbS f least e 5 k
def climbS : Nat → Nat → ET → Nat → Nat → Except Nat (ET × Nat)
  | 0, _, _, _, k => .error k
  | f + 1, least, e, has, k =>
    if stopS S least has k then .ok (e, k)
    else thn (aboveS f ((opAt S k).2.1 + 1) (k + 1)) fun e2 k2 => climbS f least (binE (opAt S k).1.2 e e2) (opAt S k).2.1 k2
end
end

def OperC (S : Src) (f : Nat) : Prop := ∀ R k w, DR w R S k → (S.n - k) * 3 + 1 ≤ f → Calls Tryz.prog 185 #[.pointer (some ⟨R, 0, none⟩)] w (Parsed w R S retE (operandS S f k))
def AboveC (S : Src) (f : Nat) : Prop := ∀ R (least : Nat) k w, DR w R S k → least ≤ 5 → (S.n - k) * 3 + 2 ≤ f → Calls Tryz.prog 169 #[.pointer (some ⟨R, 0, none⟩), .int .i64 (least : Nat)] w (Parsed w R S retE (aboveS S f least k))

abbrev zeroE : List Value := [.int .i64 0, .int .i64 0, .string ⟨#[]⟩, .int .i64 0, .bool false, .int .i64 0, .slice none 0 0]

section
variable {S : Src} {f R k : Nat} {w : World}

set_option maxRecDepth 100000 in
set_option maxHeartbeats 1000000 in
theorem expr_calls (hA : AboveC S f) (h : DR w R S k) (hf : (S.n - k) * 3 + 2 ≤ f) : Calls Tryz.prog 127 #[.pointer (some ⟨R, 0, none⟩)] w (Parsed w R S retE (aboveS S f 0 k)) := by
  have HS : Hid (aboveS S f 0 k = thn (aboveS S f 0 k) fun e k => .ok (e, k)) := Lib.hid (by cases aboveS S f 0 k <;> rfl)
  have HA := Lib.hid (fun W (h : DR W R S k) => hA R 0 k W h (by omega) hf)
  have hRl := h.lt
  have hB := Cells.fresh w 44 zeroE
  have HB := Lib.hid hB
  have hsz : (w.alloc (.cells zeroE.toArray 44)).heap.size = w.heap.size + 1 := by simp
  clear hA hB
  go_enter Tryz.func127, Tryz.ntmps127
  go_wp2_with fail
  refine ((HA.out _ (by repeat (first | assumption | (with_reducible refine DR.alloc ?_ _) | (with_reducible refine DR.drewN ?_ _) | (with_reducible refine DR.drew ?_) | (with_reducible refine DR.set ?_ (by first | omega | (simp; omega)) _) | (with_reducible refine DR.kept ?_ (by assumption) (fun g hg => by first | exact hg.elim | ((try dsimp only at hg); omega))))))).mono ?_
  intro e W1 hq
  rcases hq.cases with ⟨kx, hr, hm, hk1⟩ | ⟨a1, k1, hr, hret, hd1, hk1⟩
  · unfold Misfit at hm
    subst hm
    have HX := Lib.hid hr
    clear hr
    go_wp2
    exact ⟨rfl, Parsed.err (HS.out.trans (by rw [HX.out]; rfl)) rfl (by repeat (first | assumption | (with_reducible exact Kept.refl _ _) | (with_reducible refine Kept.alloc ?_ _) | (with_reducible refine Kept.drew ?_) | (with_reducible refine Kept.drewN ?_ _) | (with_reducible refine Kept.setCell ?_ ?_ _) | (with_reducible refine Kept.trans ?_ (by assumption)) | (with_reducible refine Kept.trans ?_ (Kept.any (by assumption))) | (with_reducible refine Kept.own ?_ (by assumption) (by omega)) | (intro hxx; first | rfl | ((try dsimp only at hxx ⊢); omega))))⟩
  replace HS := Lib.hid (HS.out.trans (by rw [hr, thn_ok]))
  clear hr hq
  obtain ⟨ra1, rb1, rc1⟩ := hk1.readsR (show _ = w.heap.size + 1 from hsz)
  obtain ⟨csx, rfl, hevx⟩ := hret
  obtain ⟨kx, mx, sx, slx, lox, ox, Ax, Nx, Cx, rfl⟩ := hevx.form
  have HEVx := Lib.hid hevx
  clear hevx
  have la1 : R < W1.heap.size := by omega
  have lb1 : w.heap.size < W1.heap.size := by omega
  clear hsz
  go_wp2
  refine fin_box (W := W1) (B := w.heap.size) (t := 44) (old := zeroE) Tryz.results127 [.int .i64 kx, .int .i64 mx, .string sx, .int .i64 slx, .bool lox, .int .i64 ox, .slice Ax Nx Cx] rfl (by repeat (first | (with_reducible exact HB.out) | (with_reducible refine Cells.alloc ?_ _) | (with_reducible refine Cells.drew ?_) | (with_reducible refine Cells.drewN ?_ _) | (with_reducible refine Cells.keep ?_ (by assumption)) | (with_reducible refine Cells.kept ?_ (by assumption) (by omega)) | (with_reducible refine Cells.far ?_ (by dsimp only; omega) _))) rfl hd1 (by omega) (by omega) (by repeat (first | assumption | (with_reducible exact Kept.refl _ _) | (with_reducible refine Kept.alloc ?_ _) | (with_reducible refine Kept.drew ?_) | (with_reducible refine Kept.drewN ?_ _) | (with_reducible refine Kept.setCell ?_ ?_ _) | (with_reducible refine Kept.trans ?_ (by assumption)) | (with_reducible refine Kept.trans ?_ (Kept.any (by assumption))) | (with_reducible refine Kept.own ?_ (by assumption) (by omega)) | (intro hxx; first | rfl | ((try dsimp only at hxx ⊢); omega)))) Tryz.underlying44 rfl (by kernel_rfl) rfl (by simp only [putL, Nat.reduceAdd]; repeat (first | (with_reducible exact Kept.refl _ _) | (with_reducible refine Kept.alloc ?_ _) | (with_reducible refine Kept.drewN ?_ _) | (with_reducible refine Kept.drew ?_))) (fun hdf hkf hkB hsB => Parsed.ok HS.out ⟨_, rfl, ?_⟩ hdf hkf)
  exact (HEVx.out.kept hkB (fun g _ h => by have h : g = w.heap.size := h; show g < _; first | omega | (rw [World.size_alloc]; omega))).mono (fun g _ h => by have h : g < w.heap.size := h; show g < _; first | omega | (rw [World.size_alloc]; omega))

set_option maxRecDepth 100000 in
set_option maxHeartbeats 1000000 in
theorem oper_minus (hO : OperC S f) (h : DR w R S k) (hf : (S.n - k) * 3 + 1 ≤ f + 1) (ht1 : takeB S k ⟨#[45]⟩ = true) :
    Calls Tryz.prog 185 #[.pointer (some ⟨R, 0, none⟩)] w (Parsed w R S retE (operandS S (f + 1) k)) := by
  have HS : Hid (operandS S (f + 1) k = thn (operandS S f (k + 1)) fun e k => .ok (negE e, k)) := Lib.hid (by rw [operandS, if_pos ht1])
  have hlt := takeB_lt ht1 (by decide)
  have HO := Lib.hid (fun W (h : DR W R S (k + 1)) => hO R (k + 1) W h (by omega))
  have HT1 := Lib.hid ht1
  have hRl := h.lt
  have hB := Cells.fresh w 44 zeroE
  have HB := Lib.hid hB
  have hsz : (w.alloc (.cells zeroE.toArray 44)).heap.size = w.heap.size + 1 := by simp
  clear ht1 hO hB
  go_enter Tryz.func185, Tryz.ntmps185
  go_wp2_with fail
  refine (take_any (S := S) (k := k) (by decide) (by repeat (first | assumption | (with_reducible refine DR.alloc ?_ _) | (with_reducible refine DR.drewN ?_ _) | (with_reducible refine DR.drew ?_) | (with_reducible refine DR.set ?_ (by first | omega | (simp; omega)) _) | (with_reducible refine DR.kept ?_ (by assumption) (fun g hg => by first | exact hg.elim | ((try dsimp only at hg); omega)))))).mono ?_
  rintro e W1 ⟨rfl, hd1, hk1⟩
  rw [HT1.out] at hd1 ⊢
  replace hd1 : DR W1 R S (k + 1) := hd1
  obtain ⟨ra1, rb1, rc1⟩ := hk1.readsR (show _ = w.heap.size + 1 from hsz)
  have la1 : R < W1.heap.size := by omega
  have lb1 : w.heap.size < W1.heap.size := by omega
  clear hsz
  go_wp2_with fail
  refine ((HO.out _ hd1)).mono ?_
  intro e W2 hq
  rcases hq.cases with ⟨kx, hr, hm, hk2⟩ | ⟨a2, k2, hr, hret, hd2, hk2⟩
  · unfold Misfit at hm
    subst hm
    have HX := Lib.hid hr
    clear hr
    go_wp2
    exact ⟨rfl, Parsed.err (HS.out.trans (by rw [HX.out]; rfl)) rfl (by repeat (first | assumption | (with_reducible exact Kept.refl _ _) | (with_reducible refine Kept.alloc ?_ _) | (with_reducible refine Kept.drew ?_) | (with_reducible refine Kept.drewN ?_ _) | (with_reducible refine Kept.setCell ?_ ?_ _) | (with_reducible refine Kept.trans ?_ (by assumption)) | (with_reducible refine Kept.trans ?_ (Kept.any (by assumption))) | (with_reducible refine Kept.own ?_ (by assumption) (by omega)) | (intro hxx; first | rfl | ((try dsimp only at hxx ⊢); omega))))⟩
  replace HS := Lib.hid (HS.out.trans (by rw [hr, thn_ok]))
  clear hr hq
  obtain ⟨ra2, rb2, rc2⟩ := hk2.readsR (show _ = W1.heap.size from rfl)
  obtain ⟨csx, rfl, hevx⟩ := hret
  obtain ⟨kx, mx, sx, slx, lox, ox, Ax, Nx, Cx, rfl⟩ := hevx.form
  have HEVx := Lib.hid hevx
  clear hevx
  have la2 : R < W2.heap.size := by omega
  have lb2 : w.heap.size < W2.heap.size := by omega
  go_wp2
  refine fin_box (W := W2) (B := w.heap.size) (t := 44) (old := zeroE) Tryz.results185 [.int .i64 4, .int .i64 0, .string ⟨#[]⟩, .int .i64 0, .bool false, .int .i64 0, .slice (some ⟨W2.heap.size, 0, none⟩) 1 1] rfl (by repeat (first | (with_reducible exact HB.out) | (with_reducible refine Cells.alloc ?_ _) | (with_reducible refine Cells.drew ?_) | (with_reducible refine Cells.drewN ?_ _) | (with_reducible refine Cells.keep ?_ (by assumption)) | (with_reducible refine Cells.kept ?_ (by assumption) (by omega)) | (with_reducible refine Cells.far ?_ (by dsimp only; omega) _))) rfl hd2 (by omega) (by omega) (by repeat (first | assumption | (with_reducible exact Kept.refl _ _) | (with_reducible refine Kept.alloc ?_ _) | (with_reducible refine Kept.drew ?_) | (with_reducible refine Kept.drewN ?_ _) | (with_reducible refine Kept.setCell ?_ ?_ _) | (with_reducible refine Kept.trans ?_ (by assumption)) | (with_reducible refine Kept.trans ?_ (Kept.any (by assumption))) | (with_reducible refine Kept.own ?_ (by assumption) (by omega)) | (intro hxx; first | rfl | ((try dsimp only at hxx ⊢); omega)))) Tryz.underlying44 rfl (by kernel_rfl) rfl (by simp only [putL, Nat.reduceAdd]; repeat (first | (with_reducible exact Kept.refl _ _) | (with_reducible refine Kept.alloc ?_ _) | (with_reducible refine Kept.drewN ?_ _) | (with_reducible refine Kept.drew ?_))) (fun hdf hkf hkB hsB => Parsed.ok HS.out ⟨_, rfl, ?_⟩ hdf hkf)
  have hev := EV.one (HEVx.out.kept hkB (fun g _ h => by have h : g = w.heap.size := h; show g < _; first | omega | (rw [World.size_alloc]; omega))) (by rw [hsB]; show ¬ _ < _; omega) 4 0 ⟨#[]⟩ 0 44
  rw [hsB] at hev
  exact hev.mono (fun g _ h => by have h : g < w.heap.size := h; show g < _; first | omega | (rw [World.size_alloc]; omega))

set_option maxRecDepth 100000 in
set_option maxHeartbeats 1000000 in
theorem oper_not (hO : OperC S f) (h : DR w R S k) (hf : (S.n - k) * 3 + 1 ≤ f + 1) (ht1 : takeB S k ⟨#[45]⟩ = false) (ht2 : takeB S k ⟨#[33]⟩ = true) :
    Calls Tryz.prog 185 #[.pointer (some ⟨R, 0, none⟩)] w (Parsed w R S retE (operandS S (f + 1) k)) := by
  have HS : Hid (operandS S (f + 1) k = thn (operandS S f (k + 1)) fun e k => .ok (notE e, k)) := Lib.hid (by rw [operandS, ht1, ht2]; rfl)
  have hlt := takeB_lt ht2 (by decide)
  have HO := Lib.hid (fun W (h : DR W R S (k + 1)) => hO R (k + 1) W h (by omega))
  clear hO
  have HT1 := Lib.hid ht1
  have HT2 := Lib.hid ht2
  have hRl := h.lt
  have hB := Cells.fresh w 44 zeroE
  have HB := Lib.hid hB
  have hsz : (w.alloc (.cells zeroE.toArray 44)).heap.size = w.heap.size + 1 := by simp
  clear hB ht1 ht2
  go_enter Tryz.func185, Tryz.ntmps185
  go_wp2_with fail
  refine (take_any (S := S) (k := k) (by decide) (by repeat (first | assumption | (with_reducible refine DR.alloc ?_ _) | (with_reducible refine DR.drewN ?_ _) | (with_reducible refine DR.drew ?_) | (with_reducible refine DR.set ?_ (by first | omega | (simp; omega)) _) | (with_reducible refine DR.kept ?_ (by assumption) (fun g hg => by first | exact hg.elim | ((try dsimp only at hg); omega)))))).mono ?_
  rintro e W1 ⟨rfl, hd1, hk1⟩
  rw [HT1.out] at hd1 ⊢
  replace hd1 : DR W1 R S k := hd1
  obtain ⟨ra1, rb1, rc1⟩ := hk1.readsR (show _ = w.heap.size + 1 from hsz)
  have la1 : R < W1.heap.size := by omega
  have lb1 : w.heap.size < W1.heap.size := by omega
  clear hsz
  go_wp2_with fail
  refine (take_any (S := S) (k := k) (by decide) (by repeat (first | assumption | (with_reducible refine DR.alloc ?_ _) | (with_reducible refine DR.drewN ?_ _) | (with_reducible refine DR.drew ?_) | (with_reducible refine DR.set ?_ (by first | omega | (simp; omega)) _) | (with_reducible refine DR.kept ?_ (by assumption) (fun g hg => by first | exact hg.elim | ((try dsimp only at hg); omega)))))).mono ?_
  rintro e W2 ⟨rfl, hd2, hk2⟩
  rw [HT2.out] at hd2 ⊢
  replace hd2 : DR W2 R S (k + 1) := hd2
  obtain ⟨ra2, rb2, rc2⟩ := hk2.readsR (show _ = W1.heap.size from rfl)
  have la2 : R < W2.heap.size := by omega
  have lb2 : w.heap.size < W2.heap.size := by omega
  go_wp2_with fail
  refine ((HO.out _ hd2)).mono ?_
  intro e W3 hq
  rcases hq.cases with ⟨kx, hr, hm, hk3⟩ | ⟨a3, k3, hr, hret, hd3, hk3⟩
  · unfold Misfit at hm
    subst hm
    have HX := Lib.hid hr
    clear hr
    go_wp2
    exact ⟨rfl, Parsed.err (HS.out.trans (by rw [HX.out]; rfl)) rfl (by repeat (first | assumption | (with_reducible exact Kept.refl _ _) | (with_reducible refine Kept.alloc ?_ _) | (with_reducible refine Kept.drew ?_) | (with_reducible refine Kept.drewN ?_ _) | (with_reducible refine Kept.setCell ?_ ?_ _) | (with_reducible refine Kept.trans ?_ (by assumption)) | (with_reducible refine Kept.trans ?_ (Kept.any (by assumption))) | (with_reducible refine Kept.own ?_ (by assumption) (by omega)) | (intro hxx; first | rfl | ((try dsimp only at hxx ⊢); omega))))⟩
  replace HS := Lib.hid (HS.out.trans (by rw [hr, thn_ok]))
  clear hr hq
  obtain ⟨ra3, rb3, rc3⟩ := hk3.readsR (show _ = W2.heap.size from rfl)
  obtain ⟨csx, rfl, hevx⟩ := hret
  obtain ⟨kx, mx, sx, slx, lox, ox, Ax, Nx, Cx, rfl⟩ := hevx.form
  have HEVx := Lib.hid hevx
  clear hevx
  have la3 : R < W3.heap.size := by omega
  have lb3 : w.heap.size < W3.heap.size := by omega
  go_wp2
  refine fin_box (W := W3) (B := w.heap.size) (t := 44) (old := zeroE) Tryz.results185 [.int .i64 5, .int .i64 0, .string ⟨#[]⟩, .int .i64 0, .bool false, .int .i64 0, .slice (some ⟨W3.heap.size, 0, none⟩) 1 1] rfl (by repeat (first | (with_reducible exact HB.out) | (with_reducible refine Cells.alloc ?_ _) | (with_reducible refine Cells.drew ?_) | (with_reducible refine Cells.drewN ?_ _) | (with_reducible refine Cells.keep ?_ (by assumption)) | (with_reducible refine Cells.kept ?_ (by assumption) (by omega)) | (with_reducible refine Cells.far ?_ (by dsimp only; omega) _))) rfl hd3 (by omega) (by omega) (by repeat (first | assumption | (with_reducible exact Kept.refl _ _) | (with_reducible refine Kept.alloc ?_ _) | (with_reducible refine Kept.drew ?_) | (with_reducible refine Kept.drewN ?_ _) | (with_reducible refine Kept.setCell ?_ ?_ _) | (with_reducible refine Kept.trans ?_ (by assumption)) | (with_reducible refine Kept.trans ?_ (Kept.any (by assumption))) | (with_reducible refine Kept.own ?_ (by assumption) (by omega)) | (intro hxx; first | rfl | ((try dsimp only at hxx ⊢); omega)))) Tryz.underlying44 rfl (by kernel_rfl) rfl (by simp only [putL, Nat.reduceAdd]; repeat (first | (with_reducible exact Kept.refl _ _) | (with_reducible refine Kept.alloc ?_ _) | (with_reducible refine Kept.drewN ?_ _) | (with_reducible refine Kept.drew ?_))) (fun hdf hkf hkB hsB => Parsed.ok HS.out ⟨_, rfl, ?_⟩ hdf hkf)
  have hev := EV.one (HEVx.out.kept hkB (fun g _ h => by have h : g = w.heap.size := h; show g < _; first | omega | (rw [World.size_alloc]; omega))) (by rw [hsB]; show ¬ _ < _; omega) 5 0 ⟨#[]⟩ 0 44
  rw [hsB] at hev
  exact hev.mono (fun g _ h => by have h : g < w.heap.size := h; show g < _; first | omega | (rw [World.size_alloc]; omega))

set_option maxRecDepth 100000 in
set_option maxHeartbeats 1000000 in
theorem oper_paren (hA : AboveC S f) (h : DR w R S k) (hf : (S.n - k) * 3 + 1 ≤ f + 1) (ht1 : takeB S k ⟨#[45]⟩ = false) (ht2 : takeB S k ⟨#[33]⟩ = false) (ht3 : takeB S k ⟨#[40]⟩ = true) :
    Calls Tryz.prog 185 #[.pointer (some ⟨R, 0, none⟩)] w (Parsed w R S retE (operandS S (f + 1) k)) := by
  have HS : Hid (operandS S (f + 1) k = thn (aboveS S f 0 (k + 1)) fun e k => thn (wantS S k ⟨#[41]⟩) fun _ k => .ok (e, k)) := Lib.hid (by rw [operandS, ht1, ht2, ht3]; rfl)
  have hlt := takeB_lt ht3 (by decide)
  have HO := Lib.hid (fun W (h : DR W R S (k + 1)) => expr_calls hA h (by omega))
  clear hA
  have HT1 := Lib.hid ht1
  have HT2 := Lib.hid ht2
  have HT3 := Lib.hid ht3
  have hRl := h.lt
  have hB := Cells.fresh w 44 zeroE
  have HB := Lib.hid hB
  have hsz : (w.alloc (.cells zeroE.toArray 44)).heap.size = w.heap.size + 1 := by simp
  clear hB ht1 ht2 ht3
  go_enter Tryz.func185, Tryz.ntmps185
  go_wp2_with fail
  refine (take_any (S := S) (k := k) (by decide) (by repeat (first | assumption | (with_reducible refine DR.alloc ?_ _) | (with_reducible refine DR.drewN ?_ _) | (with_reducible refine DR.drew ?_) | (with_reducible refine DR.set ?_ (by first | omega | (simp; omega)) _) | (with_reducible refine DR.kept ?_ (by assumption) (fun g hg => by first | exact hg.elim | ((try dsimp only at hg); omega)))))).mono ?_
  rintro e W1 ⟨rfl, hd1, hk1⟩
  rw [HT1.out] at hd1 ⊢
  replace hd1 : DR W1 R S k := hd1
  obtain ⟨ra1, rb1, rc1⟩ := hk1.readsR (show _ = w.heap.size + 1 from hsz)
  have la1 : R < W1.heap.size := by omega
  have lb1 : w.heap.size < W1.heap.size := by omega
  clear hsz
  go_wp2_with fail
  refine (take_any (S := S) (k := k) (by decide) (by repeat (first | assumption | (with_reducible refine DR.alloc ?_ _) | (with_reducible refine DR.drewN ?_ _) | (with_reducible refine DR.drew ?_) | (with_reducible refine DR.set ?_ (by first | omega | (simp; omega)) _) | (with_reducible refine DR.kept ?_ (by assumption) (fun g hg => by first | exact hg.elim | ((try dsimp only at hg); omega)))))).mono ?_
  rintro e W2 ⟨rfl, hd2, hk2⟩
  rw [HT2.out] at hd2 ⊢
  replace hd2 : DR W2 R S k := hd2
  obtain ⟨ra2, rb2, rc2⟩ := hk2.readsR (show _ = W1.heap.size from rfl)
  have la2 : R < W2.heap.size := by omega
  have lb2 : w.heap.size < W2.heap.size := by omega
  go_wp2_with fail
  refine (take_any (S := S) (k := k) (by decide) (by repeat (first | assumption | (with_reducible refine DR.alloc ?_ _) | (with_reducible refine DR.drewN ?_ _) | (with_reducible refine DR.drew ?_) | (with_reducible refine DR.set ?_ (by first | omega | (simp; omega)) _) | (with_reducible refine DR.kept ?_ (by assumption) (fun g hg => by first | exact hg.elim | ((try dsimp only at hg); omega)))))).mono ?_
  rintro e W3 ⟨rfl, hd3, hk3⟩
  rw [HT3.out] at hd3 ⊢
  replace hd3 : DR W3 R S (k + 1) := hd3
  obtain ⟨ra3, rb3, rc3⟩ := hk3.readsR (show _ = W2.heap.size from rfl)
  have la3 : R < W3.heap.size := by omega
  have lb3 : w.heap.size < W3.heap.size := by omega
  go_wp2_with fail
  refine ((HO.out _ hd3)).mono ?_
  intro e W4 hq
  rcases hq.cases with ⟨kx, hr, hm, hk4⟩ | ⟨a4, k4, hr, hret, hd4, hk4⟩
  · unfold Misfit at hm
    subst hm
    have HX := Lib.hid hr
    clear hr
    go_wp2
    exact ⟨rfl, Parsed.err (HS.out.trans (by rw [HX.out]; rfl)) rfl (by repeat (first | assumption | (with_reducible exact Kept.refl _ _) | (with_reducible refine Kept.alloc ?_ _) | (with_reducible refine Kept.drew ?_) | (with_reducible refine Kept.drewN ?_ _) | (with_reducible refine Kept.setCell ?_ ?_ _) | (with_reducible refine Kept.trans ?_ (by assumption)) | (with_reducible refine Kept.trans ?_ (Kept.any (by assumption))) | (with_reducible refine Kept.own ?_ (by assumption) (by omega)) | (intro hxx; first | rfl | ((try dsimp only at hxx ⊢); omega))))⟩
  replace HS := Lib.hid (HS.out.trans (by rw [hr, thn_ok]))
  clear hr hq
  obtain ⟨ra4, rb4, rc4⟩ := hk4.readsR (show _ = W3.heap.size from rfl)
  obtain ⟨csx, rfl, hevx⟩ := hret
  obtain ⟨kx, mx, sx, slx, lox, ox, Ax, Nx, Cx, rfl⟩ := hevx.form
  have HEVx := Lib.hid hevx
  clear hevx
  have la4 : R < W4.heap.size := by omega
  have lb4 : w.heap.size < W4.heap.size := by omega
  have hEX := HEVx.out.keep ((Kept.refl noX W4).alloc (.cells #[.int .i64 kx, .int .i64 mx, .string sx, .int .i64 slx, .bool lox, .int .i64 ox, .slice Ax Nx Cx] 44))
  have HEX := Lib.hid hEX
  clear hEX
  go_wp2_with fail
  refine ((want_any (S := S) (k := k4) (s := ⟨#[41]⟩) (by decide) (by repeat (first | assumption | (with_reducible refine DR.alloc ?_ _) | (with_reducible refine DR.drewN ?_ _) | (with_reducible refine DR.drew ?_) | (with_reducible refine DR.set ?_ (by first | omega | (simp; omega)) _) | (with_reducible refine DR.kept ?_ (by assumption) (fun g hg => by first | exact hg.elim | ((try dsimp only at hg); omega))))))).mono ?_
  intro e W5 hq
  rcases hq.cases with ⟨kx, hr, hm, hk5⟩ | ⟨a5, k5, hr, hret, hd5, hk5⟩
  · unfold Misfit at hm
    subst hm
    have HX := Lib.hid hr
    clear hr
    go_wp2
    exact ⟨rfl, Parsed.err (HS.out.trans (by rw [HX.out]; rfl)) rfl (by repeat (first | assumption | (with_reducible exact Kept.refl _ _) | (with_reducible refine Kept.alloc ?_ _) | (with_reducible refine Kept.drew ?_) | (with_reducible refine Kept.drewN ?_ _) | (with_reducible refine Kept.setCell ?_ ?_ _) | (with_reducible refine Kept.trans ?_ (by assumption)) | (with_reducible refine Kept.trans ?_ (Kept.any (by assumption))) | (with_reducible refine Kept.own ?_ (by assumption) (by omega)) | (intro hxx; first | rfl | ((try dsimp only at hxx ⊢); omega))))⟩
  replace HS := Lib.hid (HS.out.trans (by rw [hr, thn_ok]))
  clear hr hq
  obtain ⟨ra5, rb5, rc5⟩ := hk5.readsR (show _ = W4.heap.size + 1 from (World.size_alloc _ _))
  have hret : e = _ := hret
  subst hret
  have la5 : R < W5.heap.size := by omega
  have lb5 : w.heap.size < W5.heap.size := by omega
  have lx : R < W4.heap.size + 1 := by omega
  go_wp2
  refine fin_box (W := W5) (B := w.heap.size) (t := 44) (old := zeroE) Tryz.results185 [.int .i64 kx, .int .i64 mx, .string sx, .int .i64 slx, .bool lox, .int .i64 ox, .slice Ax Nx Cx] rfl (by repeat (first | (with_reducible exact HB.out) | (with_reducible refine Cells.alloc ?_ _) | (with_reducible refine Cells.drew ?_) | (with_reducible refine Cells.drewN ?_ _) | (with_reducible refine Cells.keep ?_ (by assumption)) | (with_reducible refine Cells.kept ?_ (by assumption) (by omega)) | (with_reducible refine Cells.far ?_ (by dsimp only; omega) _))) rfl hd5 (by omega) (by omega) (by repeat (first | assumption | (with_reducible exact Kept.refl _ _) | (with_reducible refine Kept.alloc ?_ _) | (with_reducible refine Kept.drew ?_) | (with_reducible refine Kept.drewN ?_ _) | (with_reducible refine Kept.setCell ?_ ?_ _) | (with_reducible refine Kept.trans ?_ (by assumption)) | (with_reducible refine Kept.trans ?_ (Kept.any (by assumption))) | (with_reducible refine Kept.own ?_ (by assumption) (by omega)) | (intro hxx; first | rfl | ((try dsimp only at hxx ⊢); omega)))) Tryz.underlying44 rfl (by kernel_rfl) rfl (by simp only [putL, Nat.reduceAdd]; repeat (first | (with_reducible exact Kept.refl _ _) | (with_reducible refine Kept.alloc ?_ _) | (with_reducible refine Kept.drewN ?_ _) | (with_reducible refine Kept.drew ?_))) (fun hdf hkf hkB hsB => Parsed.ok HS.out ⟨_, rfl, ?_⟩ hdf hkf)
  exact ((HEX.out.kept hk5 (fun g _ h => by have h : g = R := h; show g < _; first | omega | (rw [World.size_alloc]; omega))).kept hkB (fun g _ h => by have h : g = w.heap.size := h; show g < _; first | omega | (rw [World.size_alloc]; omega))).mono (fun g _ h => by have h : g < w.heap.size := h; show g < _; first | omega | (rw [World.size_alloc]; omega))

set_option maxRecDepth 100000 in
set_option maxHeartbeats 1000000 in
theorem oper_num (h : DR w R S k) (ht1 : takeB S k ⟨#[45]⟩ = false) (ht2 : takeB S k ⟨#[33]⟩ = false) (ht3 : takeB S k ⟨#[40]⟩ = false) (hkb : kindB S k 2 = true) :
    Calls Tryz.prog 185 #[.pointer (some ⟨R, 0, none⟩)] w (Parsed w R S retE (operandS S (f + 1) k)) := by
  have HS : Hid (operandS S (f + 1) k = thn (numS S k) fun n k => .ok (numE n, k)) := Lib.hid (by rw [operandS, ht1, ht2, ht3, hkb]; rfl)
  have hkt : ((S.tok k).kind == (2 : Int)) = true := by rw [beq_iff_eq]; exact of_decide_eq_true hkb
  clear hkb
  have HT1 := Lib.hid ht1
  have HT2 := Lib.hid ht2
  have HT3 := Lib.hid ht3
  have hRl := h.lt
  have hB := Cells.fresh w 44 zeroE
  have HB := Lib.hid hB
  have hsz : (w.alloc (.cells zeroE.toArray 44)).heap.size = w.heap.size + 1 := by simp
  clear hB ht1 ht2 ht3
  go_enter Tryz.func185, Tryz.ntmps185
  go_wp2_with fail
  refine (take_any (S := S) (k := k) (by decide) (by repeat (first | assumption | (with_reducible refine DR.alloc ?_ _) | (with_reducible refine DR.drewN ?_ _) | (with_reducible refine DR.drew ?_) | (with_reducible refine DR.set ?_ (by first | omega | (simp; omega)) _) | (with_reducible refine DR.kept ?_ (by assumption) (fun g hg => by first | exact hg.elim | ((try dsimp only at hg); omega)))))).mono ?_
  rintro e W1 ⟨rfl, hd1, hk1⟩
  rw [HT1.out] at hd1 ⊢
  replace hd1 : DR W1 R S k := hd1
  obtain ⟨ra1, rb1, rc1⟩ := hk1.readsR (show _ = w.heap.size + 1 from hsz)
  have la1 : R < W1.heap.size := by omega
  have lb1 : w.heap.size < W1.heap.size := by omega
  clear hsz
  go_wp2_with fail
  refine (take_any (S := S) (k := k) (by decide) (by repeat (first | assumption | (with_reducible refine DR.alloc ?_ _) | (with_reducible refine DR.drewN ?_ _) | (with_reducible refine DR.drew ?_) | (with_reducible refine DR.set ?_ (by first | omega | (simp; omega)) _) | (with_reducible refine DR.kept ?_ (by assumption) (fun g hg => by first | exact hg.elim | ((try dsimp only at hg); omega)))))).mono ?_
  rintro e W2 ⟨rfl, hd2, hk2⟩
  rw [HT2.out] at hd2 ⊢
  replace hd2 : DR W2 R S k := hd2
  obtain ⟨ra2, rb2, rc2⟩ := hk2.readsR (show _ = W1.heap.size from rfl)
  have la2 : R < W2.heap.size := by omega
  have lb2 : w.heap.size < W2.heap.size := by omega
  go_wp2_with fail
  refine (take_any (S := S) (k := k) (by decide) (by repeat (first | assumption | (with_reducible refine DR.alloc ?_ _) | (with_reducible refine DR.drewN ?_ _) | (with_reducible refine DR.drew ?_) | (with_reducible refine DR.set ?_ (by first | omega | (simp; omega)) _) | (with_reducible refine DR.kept ?_ (by assumption) (fun g hg => by first | exact hg.elim | ((try dsimp only at hg); omega)))))).mono ?_
  rintro e W3 ⟨rfl, hd3, hk3⟩
  rw [HT3.out] at hd3 ⊢
  replace hd3 : DR W3 R S k := hd3
  obtain ⟨ra3, rb3, rc3⟩ := hk3.readsR (show _ = W2.heap.size from rfl)
  have la3 : R < W3.heap.size := by omega
  have lb3 : w.heap.size < W3.heap.size := by omega
  go_wp2_with fail
  refine (next_any (S := S) (k := k) (by repeat (first | assumption | (with_reducible refine DR.alloc ?_ _) | (with_reducible refine DR.drewN ?_ _) | (with_reducible refine DR.drew ?_) | (with_reducible refine DR.set ?_ (by first | omega | (simp; omega)) _) | (with_reducible refine DR.kept ?_ (by assumption) (fun g hg => by first | exact hg.elim | ((try dsimp only at hg); omega)))))).mono ?_
  rintro e W4 ⟨rfl, hk4'⟩
  have hd4 := hd3.keep hk4'
  have hk4 : Kept (· = R) W3 W4 := hk4'.any
  simp only [TokD.cells]
  clear hk4'
  obtain ⟨ra4, rb4, rc4⟩ := hk4.readsR (show _ = W3.heap.size from rfl)
  have la4 : R < W4.heap.size := by omega
  have lb4 : w.heap.size < W4.heap.size := by omega
  go_wp2_with fail
  refine ((number_calls hd4)).mono ?_
  intro e W5 hq
  rcases hq.cases with ⟨kx, hr, hm, hk5⟩ | ⟨a5, k5, hr, hret, hd5, hk5⟩
  · unfold Misfit at hm
    subst hm
    have HX := Lib.hid hr
    clear hr
    go_wp2
    exact ⟨rfl, Parsed.err (HS.out.trans (by rw [HX.out]; rfl)) rfl (by repeat (first | assumption | (with_reducible exact Kept.refl _ _) | (with_reducible refine Kept.alloc ?_ _) | (with_reducible refine Kept.drew ?_) | (with_reducible refine Kept.drewN ?_ _) | (with_reducible refine Kept.setCell ?_ ?_ _) | (with_reducible refine Kept.trans ?_ (by assumption)) | (with_reducible refine Kept.trans ?_ (Kept.any (by assumption))) | (with_reducible refine Kept.own ?_ (by assumption) (by omega)) | (intro hxx; first | rfl | ((try dsimp only at hxx ⊢); omega))))⟩
  replace HS := Lib.hid (HS.out.trans (by rw [hr, thn_ok]))
  clear hr hq
  obtain ⟨ra5, rb5, rc5⟩ := hk5.readsR (show _ = W4.heap.size from rfl)
  have hret : e = _ := hret
  subst hret
  have la5 : R < W5.heap.size := by omega
  have lb5 : w.heap.size < W5.heap.size := by omega
  go_wp2
  refine fin_box (W := W5) (B := w.heap.size) (t := 44) (old := zeroE) Tryz.results185 [.int .i64 1, .int .i64 a5, .string ⟨#[]⟩, .int .i64 0, .bool false, .int .i64 0, .slice none 0 0] rfl (by repeat (first | (with_reducible exact HB.out) | (with_reducible refine Cells.alloc ?_ _) | (with_reducible refine Cells.drew ?_) | (with_reducible refine Cells.drewN ?_ _) | (with_reducible refine Cells.keep ?_ (by assumption)) | (with_reducible refine Cells.kept ?_ (by assumption) (by omega)) | (with_reducible refine Cells.far ?_ (by dsimp only; omega) _))) rfl hd5 (by omega) (by omega) (by repeat (first | assumption | (with_reducible exact Kept.refl _ _) | (with_reducible refine Kept.alloc ?_ _) | (with_reducible refine Kept.drew ?_) | (with_reducible refine Kept.drewN ?_ _) | (with_reducible refine Kept.setCell ?_ ?_ _) | (with_reducible refine Kept.trans ?_ (by assumption)) | (with_reducible refine Kept.trans ?_ (Kept.any (by assumption))) | (with_reducible refine Kept.own ?_ (by assumption) (by omega)) | (intro hxx; first | rfl | ((try dsimp only at hxx ⊢); omega)))) Tryz.underlying44 rfl (by kernel_rfl) rfl (by simp only [putL, Nat.reduceAdd]; repeat (first | (with_reducible exact Kept.refl _ _) | (with_reducible refine Kept.alloc ?_ _) | (with_reducible refine Kept.drewN ?_ _) | (with_reducible refine Kept.drew ?_))) (fun hdf hkf hkB hsB => Parsed.ok HS.out ⟨_, rfl, ?_⟩ hdf hkf)
  exact EV.leaf _ _ 1 a5 ⟨#[]⟩ 0

set_option maxRecDepth 100000 in
set_option maxHeartbeats 1000000 in
theorem oper_name (hA : AboveC S f) (h : DR w R S k) (hf : (S.n - k) * 3 + 1 ≤ f + 1) (ht1 : takeB S k ⟨#[45]⟩ = false) (ht2 : takeB S k ⟨#[33]⟩ = false) (ht3 : takeB S k ⟨#[40]⟩ = false) (hkb : kindB S k 2 = false) :
    Calls Tryz.prog 185 #[.pointer (some ⟨R, 0, none⟩)] w (Parsed w R S retE (operandS S (f + 1) k)) := by
  have HS : Hid (operandS S (f + 1) k = thn (nameS S k) fun s k =>
      if takeB S k ⟨#[91]⟩ then thn (aboveS S f 0 (k + 1)) fun e k => thn (wantS S k ⟨#[93]⟩) fun _ k => .ok (cellE s e, k)
      else .ok (nameE s, k)) := Lib.hid (by rw [operandS, ht1, ht2, ht3, hkb]; rfl)
  have hkt : ((S.tok k).kind == (2 : Int)) = false := by rw [beq_eq_false_iff_ne]; exact of_decide_eq_false hkb
  have HO := Lib.hid (fun W k (h : DR W R S k) (hm : (S.n - k) * 3 + 2 ≤ f) => expr_calls hA h hm)
  have HN : Hid (∀ p, nameS S k = .ok p → p.2 = k + 1 ∧ k < S.n) := Lib.hid (fun p hp => by
    unfold nameS ofS at hp
    cases hkq : kindB S k 1 with
    | true => rw [hkq] at hp; simp only [if_true, thn_ok] at hp; injection hp with hp; subst hp; exact ⟨rfl, Src.tok_lt hkq (by decide)⟩
    | false => rw [hkq] at hp; cases hp)
  clear hkb hA
  have HT1 := Lib.hid ht1
  have HT2 := Lib.hid ht2
  have HT3 := Lib.hid ht3
  have hRl := h.lt
  have hB := Cells.fresh w 44 zeroE
  have HB := Lib.hid hB
  have hsz : (w.alloc (.cells zeroE.toArray 44)).heap.size = w.heap.size + 1 := by simp
  clear hB ht1 ht2 ht3
  go_enter Tryz.func185, Tryz.ntmps185
  go_wp2_with fail
  refine (take_any (S := S) (k := k) (by decide) (by repeat (first | assumption | (with_reducible refine DR.alloc ?_ _) | (with_reducible refine DR.drewN ?_ _) | (with_reducible refine DR.drew ?_) | (with_reducible refine DR.set ?_ (by first | omega | (simp; omega)) _) | (with_reducible refine DR.kept ?_ (by assumption) (fun g hg => by first | exact hg.elim | ((try dsimp only at hg); omega)))))).mono ?_
  rintro e W1 ⟨rfl, hd1, hk1⟩
  rw [HT1.out] at hd1 ⊢
  replace hd1 : DR W1 R S k := hd1
  obtain ⟨ra1, rb1, rc1⟩ := hk1.readsR (show _ = w.heap.size + 1 from hsz)
  have la1 : R < W1.heap.size := by omega
  have lb1 : w.heap.size < W1.heap.size := by omega
  clear hsz
  go_wp2_with fail
  refine (take_any (S := S) (k := k) (by decide) (by repeat (first | assumption | (with_reducible refine DR.alloc ?_ _) | (with_reducible refine DR.drewN ?_ _) | (with_reducible refine DR.drew ?_) | (with_reducible refine DR.set ?_ (by first | omega | (simp; omega)) _) | (with_reducible refine DR.kept ?_ (by assumption) (fun g hg => by first | exact hg.elim | ((try dsimp only at hg); omega)))))).mono ?_
  rintro e W2 ⟨rfl, hd2, hk2⟩
  rw [HT2.out] at hd2 ⊢
  replace hd2 : DR W2 R S k := hd2
  obtain ⟨ra2, rb2, rc2⟩ := hk2.readsR (show _ = W1.heap.size from rfl)
  have la2 : R < W2.heap.size := by omega
  have lb2 : w.heap.size < W2.heap.size := by omega
  go_wp2_with fail
  refine (take_any (S := S) (k := k) (by decide) (by repeat (first | assumption | (with_reducible refine DR.alloc ?_ _) | (with_reducible refine DR.drewN ?_ _) | (with_reducible refine DR.drew ?_) | (with_reducible refine DR.set ?_ (by first | omega | (simp; omega)) _) | (with_reducible refine DR.kept ?_ (by assumption) (fun g hg => by first | exact hg.elim | ((try dsimp only at hg); omega)))))).mono ?_
  rintro e W3 ⟨rfl, hd3, hk3⟩
  rw [HT3.out] at hd3 ⊢
  replace hd3 : DR W3 R S k := hd3
  obtain ⟨ra3, rb3, rc3⟩ := hk3.readsR (show _ = W2.heap.size from rfl)
  have la3 : R < W3.heap.size := by omega
  have lb3 : w.heap.size < W3.heap.size := by omega
  go_wp2_with fail
  refine (next_any (S := S) (k := k) (by repeat (first | assumption | (with_reducible refine DR.alloc ?_ _) | (with_reducible refine DR.drewN ?_ _) | (with_reducible refine DR.drew ?_) | (with_reducible refine DR.set ?_ (by first | omega | (simp; omega)) _) | (with_reducible refine DR.kept ?_ (by assumption) (fun g hg => by first | exact hg.elim | ((try dsimp only at hg); omega)))))).mono ?_
  rintro e W4 ⟨rfl, hk4'⟩
  have hd4 := hd3.keep hk4'
  have hk4 : Kept (· = R) W3 W4 := hk4'.any
  simp only [TokD.cells]
  clear hk4'
  obtain ⟨ra4, rb4, rc4⟩ := hk4.readsR (show _ = W3.heap.size from rfl)
  have la4 : R < W4.heap.size := by omega
  have lb4 : w.heap.size < W4.heap.size := by omega
  go_wp2_with fail
  refine (name_calls hd4).mono ?_
  intro e W5 hq
  rcases hq.cases with ⟨kx, hr, hm, hk5⟩ | ⟨a5, k5, hr, hret, hd5, hk5⟩
  · unfold Misfit at hm
    subst hm
    have HX := Lib.hid hr
    clear hr
    go_wp2
    exact ⟨rfl, Parsed.err (HS.out.trans (by rw [HX.out]; rfl)) rfl (by repeat (first | assumption | (with_reducible exact Kept.refl _ _) | (with_reducible refine Kept.alloc ?_ _) | (with_reducible refine Kept.drew ?_) | (with_reducible refine Kept.drewN ?_ _) | (with_reducible refine Kept.setCell ?_ ?_ _) | (with_reducible refine Kept.trans ?_ (by assumption)) | (with_reducible refine Kept.trans ?_ (Kept.any (by assumption))) | (with_reducible refine Kept.own ?_ (by assumption) (by omega)) | (intro hxx; first | rfl | ((try dsimp only at hxx ⊢); omega))))⟩
  obtain ⟨hk5e, hkn⟩ := HN.out _ hr
  replace HS := Lib.hid (HS.out.trans (by rw [hr, thn_ok]))
  have hk5e : k5 = k + 1 := hk5e
  have hf5 : (S.n - k5) * 3 + 2 ≤ f := by omega
  clear hr hq hk5e
  obtain ⟨ra5, rb5, rc5⟩ := hk5.readsR (show _ = W4.heap.size from rfl)
  have hret : e = _ := hret
  subst hret
  have la5 : R < W5.heap.size := by omega
  have lb5 : w.heap.size < W5.heap.size := by omega
  have lx : R < W5.heap.size + 1 := by omega
  cases ht4 : takeB S k5 ⟨#[91]⟩ with
  | false =>
    rw [ht4, if_neg Bool.false_ne_true] at HS
    have HT6 := Lib.hid ht4
    clear ht4
    go_wp2_with fail
    refine (take_any (S := S) (k := k5) (by decide) (by repeat (first | assumption | (with_reducible refine DR.alloc ?_ _) | (with_reducible refine DR.drewN ?_ _) | (with_reducible refine DR.drew ?_) | (with_reducible refine DR.set ?_ (by first | omega | (simp; omega)) _) | (with_reducible refine DR.kept ?_ (by assumption) (fun g hg => by first | exact hg.elim | ((try dsimp only at hg); omega)))))).mono ?_
    rintro e W6 ⟨rfl, hd6, hk6⟩
    rw [HT6.out] at hd6 ⊢
    replace hd6 : DR W6 R S k5 := hd6
    obtain ⟨ra6, rb6, rc6⟩ := hk6.readsR (show _ = W5.heap.size + 1 from (World.size_alloc _ _))
    have la6 : R < W6.heap.size := by omega
    have lb6 : w.heap.size < W6.heap.size := by omega
    go_wp2
    refine fin_box (W := W6) (B := w.heap.size) (t := 44) (old := zeroE) Tryz.results185 [.int .i64 2, .int .i64 0, .string a5, .int .i64 0, .bool false, .int .i64 0, .slice none 0 0] rfl (by repeat (first | (with_reducible exact HB.out) | (with_reducible refine Cells.alloc ?_ _) | (with_reducible refine Cells.drew ?_) | (with_reducible refine Cells.drewN ?_ _) | (with_reducible refine Cells.keep ?_ (by assumption)) | (with_reducible refine Cells.kept ?_ (by assumption) (by omega)) | (with_reducible refine Cells.far ?_ (by dsimp only; omega) _))) rfl hd6 (by omega) (by omega) (by repeat (first | assumption | (with_reducible exact Kept.refl _ _) | (with_reducible refine Kept.alloc ?_ _) | (with_reducible refine Kept.drew ?_) | (with_reducible refine Kept.drewN ?_ _) | (with_reducible refine Kept.setCell ?_ ?_ _) | (with_reducible refine Kept.trans ?_ (by assumption)) | (with_reducible refine Kept.trans ?_ (Kept.any (by assumption))) | (with_reducible refine Kept.own ?_ (by assumption) (by omega)) | (intro hxx; first | rfl | ((try dsimp only at hxx ⊢); omega)))) Tryz.underlying44 rfl (by kernel_rfl) rfl (by simp only [putL, Nat.reduceAdd]; repeat (first | (with_reducible exact Kept.refl _ _) | (with_reducible refine Kept.alloc ?_ _) | (with_reducible refine Kept.drewN ?_ _) | (with_reducible refine Kept.drew ?_))) (fun hdf hkf hkB hsB => Parsed.ok HS.out ⟨_, rfl, ?_⟩ hdf hkf)
    exact EV.leaf _ _ 2 0 a5 0
  | true =>
    rw [ht4, if_pos rfl] at HS
    have HT6 := Lib.hid ht4
    clear ht4
    go_wp2_with fail
    refine (take_any (S := S) (k := k5) (by decide) (by repeat (first | assumption | (with_reducible refine DR.alloc ?_ _) | (with_reducible refine DR.drewN ?_ _) | (with_reducible refine DR.drew ?_) | (with_reducible refine DR.set ?_ (by first | omega | (simp; omega)) _) | (with_reducible refine DR.kept ?_ (by assumption) (fun g hg => by first | exact hg.elim | ((try dsimp only at hg); omega)))))).mono ?_
    rintro e W6 ⟨rfl, hd6, hk6⟩
    rw [HT6.out] at hd6 ⊢
    replace hd6 : DR W6 R S (k5 + 1) := hd6
    obtain ⟨ra6, rb6, rc6⟩ := hk6.readsR (show _ = W5.heap.size + 1 from (World.size_alloc _ _))
    have la6 : R < W6.heap.size := by omega
    have lb6 : w.heap.size < W6.heap.size := by omega
    have lc : W5.heap.size < W6.heap.size := by omega
    go_wp2_with fail
    refine ((HO.out _ _ hd6 (by omega))).mono ?_
    intro e W7 hq
    rcases hq.cases with ⟨kx, hr, hm, hk7⟩ | ⟨a7, k7, hr, hret, hd7, hk7⟩
    · unfold Misfit at hm
      subst hm
      have HX := Lib.hid hr
      clear hr
      go_wp2
      exact ⟨rfl, Parsed.err (HS.out.trans (by rw [HX.out]; rfl)) rfl (by repeat (first | assumption | (with_reducible exact Kept.refl _ _) | (with_reducible refine Kept.alloc ?_ _) | (with_reducible refine Kept.drew ?_) | (with_reducible refine Kept.drewN ?_ _) | (with_reducible refine Kept.setCell ?_ ?_ _) | (with_reducible refine Kept.trans ?_ (by assumption)) | (with_reducible refine Kept.trans ?_ (Kept.any (by assumption))) | (with_reducible refine Kept.own ?_ (by assumption) (by omega)) | (intro hxx; first | rfl | ((try dsimp only at hxx ⊢); omega))))⟩
    replace HS := Lib.hid (HS.out.trans (by rw [hr, thn_ok]))
    clear hr hq
    obtain ⟨ra7, rb7, rc7⟩ := hk7.readsR (show _ = W6.heap.size from rfl)
    obtain ⟨csx, rfl, hevx⟩ := hret
    obtain ⟨kx, mx, sx, slx, lox, ox, Ax, Nx, Cx, rfl⟩ := hevx.form
    have HEVx := Lib.hid hevx
    clear hevx
    have la7 : R < W7.heap.size := by omega
    have lb7 : w.heap.size < W7.heap.size := by omega
    have ld : W5.heap.size < W7.heap.size := by omega
    have hs7 : ((W7.setCell ⟨W5.heap.size, 0, none⟩ (.int .i64 3)).setCell ⟨W5.heap.size, 6, none⟩ (.slice (some ⟨W7.heap.size, 0, none⟩) 1 1)).heap.size = W7.heap.size := by simp
    have hev := EV.one ((HEVx.out.kept (X := (· = W5.heap.size)) ((Kept.refl _ _).setCell (p := ⟨W5.heap.size, 0, none⟩) (fun _ => by rfl) (.int .i64 3)) (fun g _ h => by have h : g = W5.heap.size := h; show g < _; first | omega | (rw [World.size_alloc]; omega))).kept (X := (· = W5.heap.size)) ((Kept.refl _ _).setCell (p := ⟨W5.heap.size, 6, none⟩) (fun _ => by rfl) (.slice (some ⟨W7.heap.size, 0, none⟩) 1 1)) (fun g _ h => by have h : g = W5.heap.size := h; show g < _; first | omega | (rw [World.size_alloc]; omega))) (by rw [hs7]; show ¬ _ < _; omega) 3 0 a5 0 44
    rw [hs7] at hev
    have HEV2 := Lib.hid hev
    clear hev hs7
    go_wp2_with fail
    refine ((want_any (S := S) (k := k7) (s := ⟨#[93]⟩) (by decide) (by repeat (first | assumption | (with_reducible refine DR.alloc ?_ _) | (with_reducible refine DR.drewN ?_ _) | (with_reducible refine DR.drew ?_) | (with_reducible refine DR.set ?_ (by first | omega | (simp; omega)) _) | (with_reducible refine DR.kept ?_ (by assumption) (fun g hg => by first | exact hg.elim | ((try dsimp only at hg); omega))))))).mono ?_
    intro e W8 hq
    rcases hq.cases with ⟨kx, hr, hm, hk8⟩ | ⟨a8, k8, hr, hret, hd8, hk8⟩
    · unfold Misfit at hm
      subst hm
      have HX := Lib.hid hr
      clear hr
      go_wp2
      exact ⟨rfl, Parsed.err (HS.out.trans (by rw [HX.out]; rfl)) rfl (by repeat (first | assumption | (with_reducible exact Kept.refl _ _) | (with_reducible refine Kept.alloc ?_ _) | (with_reducible refine Kept.drew ?_) | (with_reducible refine Kept.drewN ?_ _) | (with_reducible refine Kept.setCell ?_ ?_ _) | (with_reducible refine Kept.trans ?_ (by assumption)) | (with_reducible refine Kept.trans ?_ (Kept.any (by assumption))) | (with_reducible refine Kept.own ?_ (by assumption) (by omega)) | (intro hxx; first | rfl | ((try dsimp only at hxx ⊢); omega))))⟩
    replace HS := Lib.hid (HS.out.trans (by rw [hr, thn_ok]))
    clear hr hq
    obtain ⟨ra8, rb8, rc8⟩ := hk8.readsR (show _ = W7.heap.size + 1 from (by simp))
    have hret : e = _ := hret
    subst hret
    have la8 : R < W8.heap.size := by omega
    have lb8 : w.heap.size < W8.heap.size := by omega
    have le : W5.heap.size < W8.heap.size := by omega
    have lf : W5.heap.size < W7.heap.size + 1 := by omega
    have lg : w.heap.size < W7.heap.size + 1 := by omega
    have lh : w.heap.size ≠ W5.heap.size := by omega
    go_wp2
    refine fin_box (W := W8) (B := w.heap.size) (t := 44) (old := zeroE) Tryz.results185 [.int .i64 3, .int .i64 0, .string a5, .int .i64 0, .bool false, .int .i64 0, .slice (some ⟨W7.heap.size, 0, none⟩) 1 1] rfl (by repeat (first | (with_reducible exact HB.out) | (with_reducible refine Cells.alloc ?_ _) | (with_reducible refine Cells.drew ?_) | (with_reducible refine Cells.drewN ?_ _) | (with_reducible refine Cells.keep ?_ (by assumption)) | (with_reducible refine Cells.kept ?_ (by assumption) (by omega)) | (with_reducible refine Cells.far ?_ (by dsimp only; omega) _))) rfl hd8 (by omega) (by omega) (by repeat (first | assumption | (with_reducible exact Kept.refl _ _) | (with_reducible refine Kept.alloc ?_ _) | (with_reducible refine Kept.drew ?_) | (with_reducible refine Kept.drewN ?_ _) | (with_reducible refine Kept.setCell ?_ ?_ _) | (with_reducible refine Kept.trans ?_ (by assumption)) | (with_reducible refine Kept.trans ?_ (Kept.any (by assumption))) | (with_reducible refine Kept.own ?_ (by assumption) (by omega)) | (intro hxx; first | rfl | ((try dsimp only at hxx ⊢); omega)))) Tryz.underlying44 rfl (by kernel_rfl) rfl (by simp only [putL, Nat.reduceAdd]; repeat (first | (with_reducible exact Kept.refl _ _) | (with_reducible refine Kept.alloc ?_ _) | (with_reducible refine Kept.drewN ?_ _) | (with_reducible refine Kept.drew ?_))) (fun hdf hkf hkB hsB => Parsed.ok HS.out ⟨_, rfl, ?_⟩ hdf hkf)
    exact ((HEV2.out.kept hk8 (fun g _ h => by have h : g = R := h; show g < _; first | omega | (rw [World.size_alloc]; omega))).kept hkB (fun g _ h => by have h : g = w.heap.size := h; show g < _; first | omega | (rw [World.size_alloc]; omega))).mono (fun g _ h => by have h : g < w.heap.size := h; show g < _; first | omega | (rw [World.size_alloc]; omega))
end
end Go.Proofs.YtjkgepppoopheaaGreatDoor
