/- The project's readers of statements, each from behind its keyword on (conditions: at most 1000000 words; the table of operators stands). -/
import Derived.Test.YtjkgepppoopheaaGreatDoorG7
namespace Go.Proofs.YtjkgepppoopheaaGreatDoor
open Go.RowKit Go.Shelf

def zeroT : ET := .node 0 0 ⟨#[]⟩ 0 false 0 []
abbrev zeroSt : List Value := [.int .i64 0, .int .i64 0, .int .i64 0, .string ⟨#[]⟩, .string ⟨#[]⟩, .int .i64 0, .int .i64 0, .string ⟨#[]⟩, .int .i64 0, .bool false, .int .i64 0, .slice none 0 0, .int .i64 0, .int .i64 0, .string ⟨#[]⟩, .int .i64 0, .bool false, .int .i64 0, .slice none 0 0, .slice none 0 0, .slice none 0 0, .int .i64 0, .int .i64 0, .int .i64 0, .bool false]
/-- A statement, with no place yet. -/
def mkS (k : Int) (s t : ByteArray) (e x : ET) (b l : List ST) : ST := .node k 0 0 s t e x b l 0 0 0 false

theorem EV.zero (W : World) (Z : Nat → Prop) : EV W Z [.int .i64 0, .int .i64 0, .string ⟨#[]⟩, .int .i64 0, .bool false, .int .i64 0, .slice none 0 0] zeroT := EV.leaf W Z 0 0 ⟨#[]⟩ 0
/-- The cells of a statement out of its parts. -/
theorem SV.mk {W : World} {Z : Nat → Prop} {ce cx : List Value} {vb vl : Value} {e x : ET} {b l : List ST} (k : Int) (s t : ByteArray) (he : EV W Z ce e) (hx : EV W Z cx x) (hb : RowV W Z vb (ST.ds b)) (hl : RowV W Z vl (ST.ds l)) :
    SV W Z ([.int .i64 k, .int .i64 0, .int .i64 0, .string s, .string t] ++ ce ++ cx ++ [vb, vl, .int .i64 0, .int .i64 0, .int .i64 0, .bool false]) (mkS k s t e x b l) :=
  SV.iff.2 ⟨ce, cx, vb, vl, rfl, he, hx, hb, hl⟩

section
variable (S : Src)
def exprS (k : Nat) : Except Nat (ET × Nat) := aboveS S (S.n * 3 + 2) 0 k
def worthS (k : Nat) : Except Nat (ET × Nat) := thn (exprS S k) fun e k => thn (wantS S k ⟨#[59]⟩) fun _ k => .ok (e, k)
def letS (k : Nat) : Except Nat (ST × Nat) := thn (nameS S k) fun s k => thn (wantS S k ⟨#[61]⟩) fun _ k => thn (worthS S k) fun e k => .ok (mkS 1 s ⟨#[]⟩ e zeroT [] [], k)
def sendS (k : Nat) : Except Nat (ST × Nat) := thn (nameS S k) fun s k => thn (worthS S k) fun e k => .ok (mkS 11 s ⟨#[]⟩ e zeroT [] [], k)
def joinS (k : Nat) : Except Nat (ST × Nat) := thn (wantS S k ⟨#[59]⟩) fun _ k => .ok (mkS 14 ⟨#[]⟩ ⟨#[]⟩ zeroT zeroT [] [], k)
def printS (k : Nat) : Except Nat (ST × Nat) := thn (worthS S k) fun e k => .ok (mkS 15 ⟨#[]⟩ ⟨#[]⟩ e zeroT [] [], k)
def namingS (q : Int) (k : Nat) : Except Nat (ST × Nat) := thn (nameS S k) fun s k => thn (wantS S k ⟨#[59]⟩) fun _ k => .ok (mkS q s ⟨#[]⟩ zeroT zeroT [] [], k)
def namingTwoS (q : Int) (k : Nat) : Except Nat (ST × Nat) := thn (nameS S k) fun s k => thn (nameS S k) fun t k => thn (wantS S k ⟨#[59]⟩) fun _ k => .ok (mkS q s t zeroT zeroT [] [], k)
def putS (s : ByteArray) (k : Nat) : Except Nat (ST × Nat) := thn (exprS S k) fun x k => thn (wantS S k ⟨#[93]⟩) fun _ k => thn (wantS S k ⟨#[61]⟩) fun _ k => thn (worthS S k) fun e k => .ok (mkS 3 s ⟨#[]⟩ e x [] [], k)
def setS (s : ByteArray) (k : Nat) : Except Nat (ST × Nat) := thn (wantS S k ⟨#[61]⟩) fun _ k => thn (worthS S k) fun e k => .ok (mkS 2 s ⟨#[]⟩ e zeroT [] [], k)
def assignS (k : Nat) : Except Nat (ST × Nat) := thn (nameS S k) fun s k => if takeB S k ⟨#[91]⟩ then putS S s (k + 1) else setS S s k
end

section
variable {S : Src} {f R k : Nat} {w : World}

theorem exprS_calls (hops : ∀ W, S.inv W → OpsAt W) (h : DR w R S k) : Calls Tryz.prog 127 #[.pointer (some ⟨R, 0, none⟩)] w (Parsed w R S retE (exprS S k)) :=
  expr_calls (above_all hops _).2 h (by omega)

set_option maxRecDepth 100000 in
set_option maxHeartbeats 1000000 in
theorem worth_calls (hops : ∀ W, S.inv W → OpsAt W) (h : DR w R S k) : Calls Tryz.prog 126 #[.pointer (some ⟨R, 0, none⟩)] w (Parsed w R S retE (worthS S k)) := by
  have HS : Hid (worthS S k = thn (exprS S k) fun e k => thn (wantS S k ⟨#[59]⟩) fun _ k => .ok (e, k)) := Lib.hid rfl
  have HX := Lib.hid (fun W (h : DR W R S k) => exprS_calls hops h)
  clear hops
  have hRl := h.lt
  have hB := Cells.fresh w 44 zeroE
  have HB := Lib.hid hB
  have hsz : (w.alloc (.cells zeroE.toArray 44)).heap.size = w.heap.size + 1 := by simp
  clear hB
  go_enter Tryz.func126, Tryz.ntmps126
  go_wp2_with fail
  refine ((HX.out _ (by repeat (first | assumption | (with_reducible refine DR.alloc ?_ _) | (with_reducible refine DR.drewN ?_ _) | (with_reducible refine DR.drew ?_) | (with_reducible refine DR.set ?_ (by first | omega | (simp; omega)) _) | (with_reducible refine DR.kept ?_ (by assumption) (fun g hg => by first | exact hg.elim | ((try dsimp only at hg); omega))))))).mono ?_
  intro e W1 hq
  rcases hq.cases with ⟨kx, hr, hm, hk1⟩ | ⟨a1, k1, hr, hret, hd1, hk1⟩
  · unfold Misfit at hm
    subst hm
    have HX := Lib.hid hr
    clear hr
    go_wp2
    exact ⟨rfl, Parsed.err (HS.out.trans (by rw [HX.out]; rfl)) rfl (by repeat (first | assumption | (with_reducible exact Kept.refl _ _) | (with_reducible refine Kept.alloc ?_ _) | (with_reducible refine Kept.drew ?_) | (with_reducible refine Kept.drewN ?_ _) | (with_reducible refine Kept.setCell ?_ ?_ _) | (with_reducible refine Kept.trans ?_ (by assumption)) | (with_reducible refine Kept.trans ?_ (Kept.any (by assumption))) | (with_reducible refine Kept.own ?_ (by assumption) (by omega)) | (intro hxx; first | rfl | ((try dsimp only at hxx ⊢); omega))))⟩
  replace HS := Lib.hid (HS.out.trans (by rw [hr, thn_ok]))
  clear hr hq
  obtain ⟨ra1, rb1, rc1⟩ := hk1.readsR (show _ = w.heap.size + 1 from hsz)
  obtain ⟨csx, rfl, hevx⟩ := hret
  obtain ⟨kx, mx, sx, slx, lox, ox, Ax, Nx, Cx, rfl⟩ := hevx.form
  have HEVx := Lib.hid hevx
  clear hevx
  have la1 : R < W1.heap.size := by omega
  have lb1 : w.heap.size < W1.heap.size := by omega
  have hEX := HEVx.out.keep ((Kept.refl noX W1).alloc (.cells #[.int .i64 kx, .int .i64 mx, .string sx, .int .i64 slx, .bool lox, .int .i64 ox, .slice Ax Nx Cx] 44))
  have HEX := Lib.hid hEX
  clear hEX hsz
  go_wp2_with fail
  refine ((want_any (S := S) (k := k1) (s := ⟨#[59]⟩) (by decide) (by repeat (first | assumption | (with_reducible refine DR.alloc ?_ _) | (with_reducible refine DR.drewN ?_ _) | (with_reducible refine DR.drew ?_) | (with_reducible refine DR.set ?_ (by first | omega | (simp; omega)) _) | (with_reducible refine DR.kept ?_ (by assumption) (fun g hg => by first | exact hg.elim | ((try dsimp only at hg); omega))))))).mono ?_
  intro e W2 hq
  rcases hq.cases with ⟨kx, hr, hm, hk2⟩ | ⟨a2, k2, hr, hret, hd2, hk2⟩
  · unfold Misfit at hm
    subst hm
    have HX := Lib.hid hr
    clear hr
    go_wp2
    exact ⟨rfl, Parsed.err (HS.out.trans (by rw [HX.out]; rfl)) rfl (by repeat (first | assumption | (with_reducible exact Kept.refl _ _) | (with_reducible refine Kept.alloc ?_ _) | (with_reducible refine Kept.drew ?_) | (with_reducible refine Kept.drewN ?_ _) | (with_reducible refine Kept.setCell ?_ ?_ _) | (with_reducible refine Kept.trans ?_ (by assumption)) | (with_reducible refine Kept.trans ?_ (Kept.any (by assumption))) | (with_reducible refine Kept.own ?_ (by assumption) (by omega)) | (intro hxx; first | rfl | ((try dsimp only at hxx ⊢); omega))))⟩
  replace HS := Lib.hid (HS.out.trans (by rw [hr, thn_ok]))
  clear hr hq
  obtain ⟨ra2, rb2, rc2⟩ := hk2.readsR (show _ = W1.heap.size + 1 from (World.size_alloc _ _))
  have hret : e = _ := hret
  subst hret
  have la2 : R < W2.heap.size := by omega
  have lb2 : w.heap.size < W2.heap.size := by omega
  have lx : R < W1.heap.size + 1 := by omega
  go_wp2
  refine fin_box (W := W2) (B := w.heap.size) (t := 44) (old := zeroE) Tryz.results126 [.int .i64 kx, .int .i64 mx, .string sx, .int .i64 slx, .bool lox, .int .i64 ox, .slice Ax Nx Cx] rfl (by repeat (first | (with_reducible exact HB.out) | (with_reducible refine Cells.alloc ?_ _) | (with_reducible refine Cells.drew ?_) | (with_reducible refine Cells.drewN ?_ _) | (with_reducible refine Cells.keep ?_ (by assumption)) | (with_reducible refine Cells.kept ?_ (by assumption) (by omega)) | (with_reducible refine Cells.far ?_ (by dsimp only; omega) _))) rfl hd2 (by omega) (by omega) (by repeat (first | assumption | (with_reducible exact Kept.refl _ _) | (with_reducible refine Kept.alloc ?_ _) | (with_reducible refine Kept.drew ?_) | (with_reducible refine Kept.drewN ?_ _) | (with_reducible refine Kept.setCell ?_ ?_ _) | (with_reducible refine Kept.trans ?_ (by assumption)) | (with_reducible refine Kept.trans ?_ (Kept.any (by assumption))) | (with_reducible refine Kept.own ?_ (by assumption) (by omega)) | (intro hxx; first | rfl | ((try dsimp only at hxx ⊢); omega)))) Tryz.underlying44 rfl (by kernel_rfl) rfl (by simp only [putL, Nat.reduceAdd]; repeat (first | (with_reducible exact Kept.refl _ _) | (with_reducible refine Kept.alloc ?_ _) | (with_reducible refine Kept.drewN ?_ _) | (with_reducible refine Kept.drew ?_))) (fun hdf hkf hkB hsB => Parsed.ok HS.out ⟨_, rfl, ?_⟩ hdf hkf)
  exact ((HEX.out.kept hk2 (fun g _ h => by have h : g = R := h; show g < _; first | omega | (rw [World.size_alloc]; omega))).kept hkB (fun g _ h => by have h : g = w.heap.size := h; show g < _; first | omega | (rw [World.size_alloc]; omega))).mono (fun g _ h => by have h : g < w.heap.size := h; show g < _; first | omega | (rw [World.size_alloc]; omega))

set_option maxRecDepth 100000 in
set_option maxHeartbeats 1000000 in
theorem let_calls (hops : ∀ W, S.inv W → OpsAt W) (h : DR w R S k) : Calls Tryz.prog 69 #[.pointer (some ⟨R, 0, none⟩)] w (Parsed w R S retSt (letS S k)) := by
  have HS : Hid (letS S k = thn (nameS S k) fun s k => thn (wantS S k ⟨#[61]⟩) fun _ k => thn (worthS S k) fun e k => .ok (mkS 1 s ⟨#[]⟩ e zeroT [] [], k)) := Lib.hid rfl
  have HX := Lib.hid (fun W k (h : DR W R S k) => worth_calls hops h)
  clear hops
  have hRl := h.lt
  have hB := Cells.fresh w 63 zeroSt
  have HB := Lib.hid hB
  have hsz : (w.alloc (.cells zeroSt.toArray 63)).heap.size = w.heap.size + 1 := by simp
  clear hB
  go_enter Tryz.func69, Tryz.ntmps69
  go_wp2_with fail
  refine ((name_calls (S := S) (k := k) (by repeat (first | assumption | (with_reducible refine DR.alloc ?_ _) | (with_reducible refine DR.drewN ?_ _) | (with_reducible refine DR.drew ?_) | (with_reducible refine DR.set ?_ (by first | omega | (simp; omega)) _) | (with_reducible refine DR.kept ?_ (by assumption) (fun g hg => by first | exact hg.elim | ((try dsimp only at hg); omega))))))).mono ?_
  intro e W1 hq
  rcases hq.cases with ⟨kx, hr, hm, hk1⟩ | ⟨a1, k1, hr, hret, hd1, hk1⟩
  · unfold Misfit at hm
    subst hm
    have HX := Lib.hid hr
    clear hr
    go_wp2
    exact ⟨rfl, Parsed.err (HS.out.trans (by rw [HX.out]; rfl)) rfl (by repeat (first | assumption | (with_reducible exact Kept.refl _ _) | (with_reducible refine Kept.alloc ?_ _) | (with_reducible refine Kept.drew ?_) | (with_reducible refine Kept.drewN ?_ _) | (with_reducible refine Kept.setCell ?_ ?_ _) | (with_reducible refine Kept.trans ?_ (by assumption)) | (with_reducible refine Kept.trans ?_ (Kept.any (by assumption))) | (with_reducible refine Kept.own ?_ (by assumption) (by omega)) | (intro hxx; first | rfl | ((try dsimp only at hxx ⊢); omega))))⟩
  replace HS := Lib.hid (HS.out.trans (by rw [hr, thn_ok]))
  clear hr hq
  have hret : e = _ := hret
  subst hret
  have lb1 := hk1.size
  rw [World.size_alloc] at lb1
  clear hsz
  go_wp2_with ((with_reducible show wpList _ _ _ (Oper.mk none (Op.store _ _ _) _ _ _ _ :: _) _ _); (refine wpList_store_part rfl rfl 63 (.tmp 3) (.tmp 8) rfl (W1.heap.size) 0 rfl [.int .i64 1, .int .i64 0, .int .i64 0, .string a1, .string ⟨#[]⟩, .int .i64 0, .int .i64 0, .string ⟨#[]⟩, .int .i64 0, .bool false, .int .i64 0, .slice none 0 0, .int .i64 0, .int .i64 0, .string ⟨#[]⟩, .int .i64 0, .bool false, .int .i64 0, .slice none 0 0, .slice none 0 0, .slice none 0 0, .int .i64 0, .int .i64 0, .int .i64 0, .bool false] rfl (Cells.fresh W1 63 zeroSt) (Nat.le_of_ble_eq_true rfl) (by kernel_rfl) (by simp [Value.oneCell']) ?_; intro W2 hB2 hk2; replace hB2 : Cells W2 (W1.heap.size) 63 [.int .i64 1, .int .i64 0, .int .i64 0, .string a1, .string ⟨#[]⟩, .int .i64 0, .int .i64 0, .string ⟨#[]⟩, .int .i64 0, .bool false, .int .i64 0, .slice none 0 0, .int .i64 0, .int .i64 0, .string ⟨#[]⟩, .int .i64 0, .bool false, .int .i64 0, .slice none 0 0, .slice none 0 0, .slice none 0 0, .int .i64 0, .int .i64 0, .int .i64 0, .bool false] := (by simpa using hB2); have HB2 := Lib.hid hB2; clear hB2))
  have lb2 := hk2.size
  rw [World.size_alloc] at lb2
  refine ((want_any (S := S) (k := k1) (s := ⟨#[61]⟩) (by decide) (by repeat (first | assumption | (with_reducible refine DR.alloc ?_ _) | (with_reducible refine DR.drewN ?_ _) | (with_reducible refine DR.drew ?_) | (with_reducible refine DR.set ?_ (by first | omega | (simp; omega)) _) | (with_reducible refine DR.kept ?_ (by assumption) (fun g hg => by first | exact hg.elim | ((try dsimp only at hg); omega))))))).mono ?_
  intro e W3 hq
  rcases hq.cases with ⟨kx, hr, hm, hk3⟩ | ⟨a3, k3, hr, hret, hd3, hk3⟩
  · unfold Misfit at hm
    subst hm
    have HX := Lib.hid hr
    clear hr
    go_wp2
    exact ⟨rfl, Parsed.err (HS.out.trans (by rw [HX.out]; rfl)) rfl (by repeat (first | assumption | (with_reducible exact Kept.refl _ _) | (with_reducible refine Kept.alloc ?_ _) | (with_reducible refine Kept.drew ?_) | (with_reducible refine Kept.drewN ?_ _) | (with_reducible refine Kept.setCell ?_ ?_ _) | (with_reducible refine Kept.trans ?_ (by assumption)) | (with_reducible refine Kept.trans ?_ (Kept.any (by assumption))) | (with_reducible refine Kept.own ?_ (by assumption) (by omega)) | (intro hxx; first | rfl | ((try dsimp only at hxx ⊢); omega))))⟩
  replace HS := Lib.hid (HS.out.trans (by rw [hr, thn_ok]))
  clear hr hq
  have hret : e = _ := hret
  subst hret
  have lb3 := hk3.size
  go_wp2_with fail
  refine ((HX.out _ _ hd3)).mono ?_
  intro e W4 hq
  rcases hq.cases with ⟨kx, hr, hm, hk4⟩ | ⟨a4, k4, hr, hret, hd4, hk4⟩
  · unfold Misfit at hm
    subst hm
    have HX := Lib.hid hr
    clear hr
    go_wp2
    exact ⟨rfl, Parsed.err (HS.out.trans (by rw [HX.out]; rfl)) rfl (by repeat (first | assumption | (with_reducible exact Kept.refl _ _) | (with_reducible refine Kept.alloc ?_ _) | (with_reducible refine Kept.drew ?_) | (with_reducible refine Kept.drewN ?_ _) | (with_reducible refine Kept.setCell ?_ ?_ _) | (with_reducible refine Kept.trans ?_ (by assumption)) | (with_reducible refine Kept.trans ?_ (Kept.any (by assumption))) | (with_reducible refine Kept.own ?_ (by assumption) (by omega)) | (intro hxx; first | rfl | ((try dsimp only at hxx ⊢); omega))))⟩
  replace HS := Lib.hid (HS.out.trans (by rw [hr, thn_ok]))
  clear hr hq
  have lb4 := hk4.size
  obtain ⟨csx, rfl, hevx⟩ := hret
  obtain ⟨kx, mx, sx, slx, lox, ox, Ax, Nx, Cx, rfl⟩ := hevx.form
  have HEVx := Lib.hid hevx
  clear hevx
  have HB3 := Lib.hid (show Cells W4 W1.heap.size 63 [.int .i64 1, .int .i64 0, .int .i64 0, .string a1, .string ⟨#[]⟩, .int .i64 0, .int .i64 0, .string ⟨#[]⟩, .int .i64 0, .bool false, .int .i64 0, .slice none 0 0, .int .i64 0, .int .i64 0, .string ⟨#[]⟩, .int .i64 0, .bool false, .int .i64 0, .slice none 0 0, .slice none 0 0, .slice none 0 0, .int .i64 0, .int .i64 0, .int .i64 0, .bool false] from (by repeat (first | (with_reducible exact HB2.out) | (with_reducible refine Cells.alloc ?_ _) | (with_reducible refine Cells.drew ?_) | (with_reducible refine Cells.drewN ?_ _) | (with_reducible refine Cells.keep ?_ (by assumption)) | (with_reducible refine Cells.kept ?_ (by assumption) (by omega)) | (with_reducible refine Cells.far ?_ (by dsimp only; omega) _))))
  have HB4 := Lib.hid (show Cells W4 w.heap.size 63 zeroSt from (by repeat (first | (with_reducible exact HB.out) | (with_reducible refine Cells.alloc ?_ _) | (with_reducible refine Cells.drew ?_) | (with_reducible refine Cells.drewN ?_ _) | (with_reducible refine Cells.keep ?_ (by assumption)) | (with_reducible refine Cells.kept ?_ (by assumption) (by omega)) | (with_reducible refine Cells.far ?_ (by dsimp only; omega) _))))
  clear HB2
  go_wp2_with (first | ((with_reducible show wpList _ _ _ (Oper.mk none (Op.store _ _ _) _ _ _ _ :: _) _ _); (refine wpList_store_part rfl rfl 44 (.tmp 15) (.tmp 14) rfl (W1.heap.size) 5 rfl [.int .i64 kx, .int .i64 mx, .string sx, .int .i64 slx, .bool lox, .int .i64 ox, .slice Ax Nx Cx] rfl HB3.out (Nat.le_of_ble_eq_true rfl) (by kernel_rfl) (by simp [Value.oneCell']) ?_; intro W5 hB5 hk5; replace hB5 : Cells W5 (W1.heap.size) 63 [.int .i64 1, .int .i64 0, .int .i64 0, .string a1, .string ⟨#[]⟩, .int .i64 kx, .int .i64 mx, .string sx, .int .i64 slx, .bool lox, .int .i64 ox, .slice Ax Nx Cx, .int .i64 0, .int .i64 0, .string ⟨#[]⟩, .int .i64 0, .bool false, .int .i64 0, .slice none 0 0, .slice none 0 0, .slice none 0 0, .int .i64 0, .int .i64 0, .int .i64 0, .bool false] := (by simpa using hB5); have HB5 := Lib.hid hB5; clear hB5)) | ((with_reducible show wpList _ _ _ (Oper.mk _ (Op.load _ _) _ _ _ _ :: _) _ _); (refine wpList_load_cells rfl 63 (.tmp 3) rfl (W1.heap.size) rfl _ Tryz.underlying63 rfl HB5.out (by kernel_rfl) ?_)) | ((with_reducible show wpList _ _ _ (Oper.mk none (Op.store _ _ _) _ _ _ _ :: _) _ _); (refine wpList_store_part rfl rfl 63 (.tmp 2) (.tmp 16) rfl (w.heap.size) 0 rfl [.int .i64 1, .int .i64 0, .int .i64 0, .string a1, .string ⟨#[]⟩, .int .i64 kx, .int .i64 mx, .string sx, .int .i64 slx, .bool lox, .int .i64 ox, .slice Ax Nx Cx, .int .i64 0, .int .i64 0, .string ⟨#[]⟩, .int .i64 0, .bool false, .int .i64 0, .slice none 0 0, .slice none 0 0, .slice none 0 0, .int .i64 0, .int .i64 0, .int .i64 0, .bool false] rfl (HB4.out.kept hk5 (by omega)) (Nat.le_of_ble_eq_true rfl) (by kernel_rfl) (by simp [Value.oneCell']) ?_; intro W6 hB6 hk6; replace hB6 : Cells W6 (w.heap.size) 63 [.int .i64 1, .int .i64 0, .int .i64 0, .string a1, .string ⟨#[]⟩, .int .i64 kx, .int .i64 mx, .string sx, .int .i64 slx, .bool lox, .int .i64 ox, .slice Ax Nx Cx, .int .i64 0, .int .i64 0, .string ⟨#[]⟩, .int .i64 0, .bool false, .int .i64 0, .slice none 0 0, .slice none 0 0, .slice none 0 0, .int .i64 0, .int .i64 0, .int .i64 0, .bool false] := (by simpa using hB6); have HB6 := Lib.hid hB6; clear hB6)))
  refine ret_box Tryz.results69 rfl HB6.out Tryz.underlying63 rfl (by kernel_rfl) rfl (Parsed.ok HS.out ⟨_, rfl, ?_⟩ (by repeat (first | assumption | (with_reducible refine DR.alloc ?_ _) | (with_reducible refine DR.drewN ?_ _) | (with_reducible refine DR.drew ?_) | (with_reducible refine DR.set ?_ (by first | omega | (simp; omega)) _) | (with_reducible refine DR.kept ?_ (by assumption) (fun g hg => by first | exact hg.elim | ((try dsimp only at hg); omega))))) (by repeat (first | assumption | (with_reducible exact Kept.refl _ _) | (with_reducible refine Kept.alloc ?_ _) | (with_reducible refine Kept.drew ?_) | (with_reducible refine Kept.drewN ?_ _) | (with_reducible refine Kept.setCell ?_ ?_ _) | (with_reducible refine Kept.trans ?_ (by assumption)) | (with_reducible refine Kept.trans ?_ (Kept.any (by assumption))) | (with_reducible refine Kept.own ?_ (by assumption) (by omega)) | (intro hxx; first | rfl | ((try dsimp only at hxx ⊢); omega)))))
  exact SV.mk 1 a1 ⟨#[]⟩ (((HEVx.out.kept hk5 (fun g _ h => by have h : g = W1.heap.size := h; show g < _; first | omega | (rw [World.size_alloc]; omega))).kept hk6 (fun g _ h => by have h : g = w.heap.size := h; show g < _; first | omega | (rw [World.size_alloc]; omega))).mono (fun g _ h => by have h : g < w.heap.size := h; show g < _; first | omega | (rw [World.size_alloc]; omega))) (EV.zero _ _) (RowV.nil _ _) (RowV.nil _ _)

set_option maxRecDepth 100000 in
set_option maxHeartbeats 1000000 in
theorem send_calls (hops : ∀ W, S.inv W → OpsAt W) (h : DR w R S k) : Calls Tryz.prog 74 #[.pointer (some ⟨R, 0, none⟩)] w (Parsed w R S retSt (sendS S k)) := by
  have HS : Hid (sendS S k = thn (nameS S k) fun s k => thn (worthS S k) fun e k => .ok (mkS 11 s ⟨#[]⟩ e zeroT [] [], k)) := Lib.hid rfl
  have HX := Lib.hid (fun W k (h : DR W R S k) => worth_calls hops h)
  clear hops
  have hRl := h.lt
  have hB := Cells.fresh w 63 zeroSt
  have HB := Lib.hid hB
  have hsz : (w.alloc (.cells zeroSt.toArray 63)).heap.size = w.heap.size + 1 := by simp
  clear hB
  go_enter Tryz.func74, Tryz.ntmps74
  go_wp2_with fail
  refine ((name_calls (S := S) (k := k) (by repeat (first | assumption | (with_reducible refine DR.alloc ?_ _) | (with_reducible refine DR.drewN ?_ _) | (with_reducible refine DR.drew ?_) | (with_reducible refine DR.set ?_ (by first | omega | (simp; omega)) _) | (with_reducible refine DR.kept ?_ (by assumption) (fun g hg => by first | exact hg.elim | ((try dsimp only at hg); omega))))))).mono ?_
  intro e W1 hq
  rcases hq.cases with ⟨kx, hr, hm, hk1⟩ | ⟨a1, k1, hr, hret, hd1, hk1⟩
  · unfold Misfit at hm
    subst hm
    have HX := Lib.hid hr
    clear hr
    go_wp2
    exact ⟨rfl, Parsed.err (HS.out.trans (by rw [HX.out]; rfl)) rfl (by repeat (first | assumption | (with_reducible exact Kept.refl _ _) | (with_reducible refine Kept.alloc ?_ _) | (with_reducible refine Kept.drew ?_) | (with_reducible refine Kept.drewN ?_ _) | (with_reducible refine Kept.setCell ?_ ?_ _) | (with_reducible refine Kept.trans ?_ (by assumption)) | (with_reducible refine Kept.trans ?_ (Kept.any (by assumption))) | (with_reducible refine Kept.own ?_ (by assumption) (by omega)) | (intro hxx; first | rfl | ((try dsimp only at hxx ⊢); omega))))⟩
  replace HS := Lib.hid (HS.out.trans (by rw [hr, thn_ok]))
  clear hr hq
  have hret : e = _ := hret
  subst hret
  have lb1 := hk1.size
  rw [World.size_alloc] at lb1
  clear hsz
  go_wp2_with ((with_reducible show wpList _ _ _ (Oper.mk none (Op.store _ _ _) _ _ _ _ :: _) _ _); (refine wpList_store_part rfl rfl 63 (.tmp 3) (.tmp 8) rfl (W1.heap.size) 0 rfl [.int .i64 11, .int .i64 0, .int .i64 0, .string a1, .string ⟨#[]⟩, .int .i64 0, .int .i64 0, .string ⟨#[]⟩, .int .i64 0, .bool false, .int .i64 0, .slice none 0 0, .int .i64 0, .int .i64 0, .string ⟨#[]⟩, .int .i64 0, .bool false, .int .i64 0, .slice none 0 0, .slice none 0 0, .slice none 0 0, .int .i64 0, .int .i64 0, .int .i64 0, .bool false] rfl (Cells.fresh W1 63 zeroSt) (Nat.le_of_ble_eq_true rfl) (by kernel_rfl) (by simp [Value.oneCell']) ?_; intro W2 hB2 hk2; replace hB2 : Cells W2 (W1.heap.size) 63 [.int .i64 11, .int .i64 0, .int .i64 0, .string a1, .string ⟨#[]⟩, .int .i64 0, .int .i64 0, .string ⟨#[]⟩, .int .i64 0, .bool false, .int .i64 0, .slice none 0 0, .int .i64 0, .int .i64 0, .string ⟨#[]⟩, .int .i64 0, .bool false, .int .i64 0, .slice none 0 0, .slice none 0 0, .slice none 0 0, .int .i64 0, .int .i64 0, .int .i64 0, .bool false] := (by simpa using hB2); have HB2 := Lib.hid hB2; clear hB2))
  have lb2 := hk2.size
  rw [World.size_alloc] at lb2
  refine ((HX.out _ k1 (by repeat (first | assumption | (with_reducible refine DR.alloc ?_ _) | (with_reducible refine DR.drewN ?_ _) | (with_reducible refine DR.drew ?_) | (with_reducible refine DR.set ?_ (by first | omega | (simp; omega)) _) | (with_reducible refine DR.kept ?_ (by assumption) (fun g hg => by first | exact hg.elim | ((try dsimp only at hg); omega))))))).mono ?_
  intro e W4 hq
  rcases hq.cases with ⟨kx, hr, hm, hk4⟩ | ⟨a4, k4, hr, hret, hd4, hk4⟩
  · unfold Misfit at hm
    subst hm
    have HX := Lib.hid hr
    clear hr
    go_wp2
    exact ⟨rfl, Parsed.err (HS.out.trans (by rw [HX.out]; rfl)) rfl (by repeat (first | assumption | (with_reducible exact Kept.refl _ _) | (with_reducible refine Kept.alloc ?_ _) | (with_reducible refine Kept.drew ?_) | (with_reducible refine Kept.drewN ?_ _) | (with_reducible refine Kept.setCell ?_ ?_ _) | (with_reducible refine Kept.trans ?_ (by assumption)) | (with_reducible refine Kept.trans ?_ (Kept.any (by assumption))) | (with_reducible refine Kept.own ?_ (by assumption) (by omega)) | (intro hxx; first | rfl | ((try dsimp only at hxx ⊢); omega))))⟩
  replace HS := Lib.hid (HS.out.trans (by rw [hr, thn_ok]))
  clear hr hq
  have lb4 := hk4.size
  obtain ⟨csx, rfl, hevx⟩ := hret
  obtain ⟨kx, mx, sx, slx, lox, ox, Ax, Nx, Cx, rfl⟩ := hevx.form
  have HEVx := Lib.hid hevx
  clear hevx
  have HB3 := Lib.hid (show Cells W4 W1.heap.size 63 [.int .i64 11, .int .i64 0, .int .i64 0, .string a1, .string ⟨#[]⟩, .int .i64 0, .int .i64 0, .string ⟨#[]⟩, .int .i64 0, .bool false, .int .i64 0, .slice none 0 0, .int .i64 0, .int .i64 0, .string ⟨#[]⟩, .int .i64 0, .bool false, .int .i64 0, .slice none 0 0, .slice none 0 0, .slice none 0 0, .int .i64 0, .int .i64 0, .int .i64 0, .bool false] from (by repeat (first | (with_reducible exact HB2.out) | (with_reducible refine Cells.alloc ?_ _) | (with_reducible refine Cells.drew ?_) | (with_reducible refine Cells.drewN ?_ _) | (with_reducible refine Cells.keep ?_ (by assumption)) | (with_reducible refine Cells.kept ?_ (by assumption) (by omega)) | (with_reducible refine Cells.far ?_ (by dsimp only; omega) _))))
  have HB4 := Lib.hid (show Cells W4 w.heap.size 63 zeroSt from (by repeat (first | (with_reducible exact HB.out) | (with_reducible refine Cells.alloc ?_ _) | (with_reducible refine Cells.drew ?_) | (with_reducible refine Cells.drewN ?_ _) | (with_reducible refine Cells.keep ?_ (by assumption)) | (with_reducible refine Cells.kept ?_ (by assumption) (by omega)) | (with_reducible refine Cells.far ?_ (by dsimp only; omega) _))))
  clear HB2
  go_wp2_with (first | ((with_reducible show wpList _ _ _ (Oper.mk none (Op.store _ _ _) _ _ _ _ :: _) _ _); (refine wpList_store_part rfl rfl 44 (.tmp 11) (.tmp 10) rfl (W1.heap.size) 5 rfl [.int .i64 kx, .int .i64 mx, .string sx, .int .i64 slx, .bool lox, .int .i64 ox, .slice Ax Nx Cx] rfl HB3.out (Nat.le_of_ble_eq_true rfl) (by kernel_rfl) (by simp [Value.oneCell']) ?_; intro W5 hB5 hk5; replace hB5 : Cells W5 (W1.heap.size) 63 [.int .i64 11, .int .i64 0, .int .i64 0, .string a1, .string ⟨#[]⟩, .int .i64 kx, .int .i64 mx, .string sx, .int .i64 slx, .bool lox, .int .i64 ox, .slice Ax Nx Cx, .int .i64 0, .int .i64 0, .string ⟨#[]⟩, .int .i64 0, .bool false, .int .i64 0, .slice none 0 0, .slice none 0 0, .slice none 0 0, .int .i64 0, .int .i64 0, .int .i64 0, .bool false] := (by simpa using hB5); have HB5 := Lib.hid hB5; clear hB5)) | ((with_reducible show wpList _ _ _ (Oper.mk _ (Op.load _ _) _ _ _ _ :: _) _ _); (refine wpList_load_cells rfl 63 (.tmp 3) rfl (W1.heap.size) rfl _ Tryz.underlying63 rfl HB5.out (by kernel_rfl) ?_)) | ((with_reducible show wpList _ _ _ (Oper.mk none (Op.store _ _ _) _ _ _ _ :: _) _ _); (refine wpList_store_part rfl rfl 63 (.tmp 2) (.tmp 12) rfl (w.heap.size) 0 rfl [.int .i64 11, .int .i64 0, .int .i64 0, .string a1, .string ⟨#[]⟩, .int .i64 kx, .int .i64 mx, .string sx, .int .i64 slx, .bool lox, .int .i64 ox, .slice Ax Nx Cx, .int .i64 0, .int .i64 0, .string ⟨#[]⟩, .int .i64 0, .bool false, .int .i64 0, .slice none 0 0, .slice none 0 0, .slice none 0 0, .int .i64 0, .int .i64 0, .int .i64 0, .bool false] rfl (HB4.out.kept hk5 (by omega)) (Nat.le_of_ble_eq_true rfl) (by kernel_rfl) (by simp [Value.oneCell']) ?_; intro W6 hB6 hk6; replace hB6 : Cells W6 (w.heap.size) 63 [.int .i64 11, .int .i64 0, .int .i64 0, .string a1, .string ⟨#[]⟩, .int .i64 kx, .int .i64 mx, .string sx, .int .i64 slx, .bool lox, .int .i64 ox, .slice Ax Nx Cx, .int .i64 0, .int .i64 0, .string ⟨#[]⟩, .int .i64 0, .bool false, .int .i64 0, .slice none 0 0, .slice none 0 0, .slice none 0 0, .int .i64 0, .int .i64 0, .int .i64 0, .bool false] := (by simpa using hB6); have HB6 := Lib.hid hB6; clear hB6)))
  refine ret_box Tryz.results74 rfl HB6.out Tryz.underlying63 rfl (by kernel_rfl) rfl (Parsed.ok HS.out ⟨_, rfl, ?_⟩ (by repeat (first | assumption | (with_reducible refine DR.alloc ?_ _) | (with_reducible refine DR.drewN ?_ _) | (with_reducible refine DR.drew ?_) | (with_reducible refine DR.set ?_ (by first | omega | (simp; omega)) _) | (with_reducible refine DR.kept ?_ (by assumption) (fun g hg => by first | exact hg.elim | ((try dsimp only at hg); omega))))) (by repeat (first | assumption | (with_reducible exact Kept.refl _ _) | (with_reducible refine Kept.alloc ?_ _) | (with_reducible refine Kept.drew ?_) | (with_reducible refine Kept.drewN ?_ _) | (with_reducible refine Kept.setCell ?_ ?_ _) | (with_reducible refine Kept.trans ?_ (by assumption)) | (with_reducible refine Kept.trans ?_ (Kept.any (by assumption))) | (with_reducible refine Kept.own ?_ (by assumption) (by omega)) | (intro hxx; first | rfl | ((try dsimp only at hxx ⊢); omega)))))
  exact SV.mk 11 a1 ⟨#[]⟩ (((HEVx.out.kept hk5 (fun g _ h => by have h : g = W1.heap.size := h; show g < _; first | omega | (rw [World.size_alloc]; omega))).kept hk6 (fun g _ h => by have h : g = w.heap.size := h; show g < _; first | omega | (rw [World.size_alloc]; omega))).mono (fun g _ h => by have h : g < w.heap.size := h; show g < _; first | omega | (rw [World.size_alloc]; omega))) (EV.zero _ _) (RowV.nil _ _) (RowV.nil _ _)

set_option maxRecDepth 100000 in
set_option maxHeartbeats 1000000 in
theorem print_calls (hops : ∀ W, S.inv W → OpsAt W) (h : DR w R S k) : Calls Tryz.prog 76 #[.pointer (some ⟨R, 0, none⟩)] w (Parsed w R S retSt (printS S k)) := by
  have HS : Hid (printS S k = thn (worthS S k) fun e k => .ok (mkS 15 ⟨#[]⟩ ⟨#[]⟩ e zeroT [] [], k)) := Lib.hid rfl
  have HX := Lib.hid (fun W k (h : DR W R S k) => worth_calls hops h)
  clear hops
  have hRl := h.lt
  have hB := Cells.fresh w 63 zeroSt
  have HB := Lib.hid hB
  have hsz : (w.alloc (.cells zeroSt.toArray 63)).heap.size = w.heap.size + 1 := by simp
  clear hB
  go_enter Tryz.func76, Tryz.ntmps76
  go_wp2_with fail
  refine ((HX.out _ k (by repeat (first | assumption | (with_reducible refine DR.alloc ?_ _) | (with_reducible refine DR.drewN ?_ _) | (with_reducible refine DR.drew ?_) | (with_reducible refine DR.set ?_ (by first | omega | (simp; omega)) _) | (with_reducible refine DR.kept ?_ (by assumption) (fun g hg => by first | exact hg.elim | ((try dsimp only at hg); omega))))))).mono ?_
  intro e W1 hq
  rcases hq.cases with ⟨kx, hr, hm, hk1⟩ | ⟨a1, k1, hr, hret, hd1, hk1⟩
  · unfold Misfit at hm
    subst hm
    have HX := Lib.hid hr
    clear hr
    go_wp2
    exact ⟨rfl, Parsed.err (HS.out.trans (by rw [HX.out]; rfl)) rfl (by repeat (first | assumption | (with_reducible exact Kept.refl _ _) | (with_reducible refine Kept.alloc ?_ _) | (with_reducible refine Kept.drew ?_) | (with_reducible refine Kept.drewN ?_ _) | (with_reducible refine Kept.setCell ?_ ?_ _) | (with_reducible refine Kept.trans ?_ (by assumption)) | (with_reducible refine Kept.trans ?_ (Kept.any (by assumption))) | (with_reducible refine Kept.own ?_ (by assumption) (by omega)) | (intro hxx; first | rfl | ((try dsimp only at hxx ⊢); omega))))⟩
  replace HS := Lib.hid (HS.out.trans (by rw [hr, thn_ok]))
  clear hr hq
  have lb1 := hk1.size
  rw [World.size_alloc] at lb1
  obtain ⟨csx, rfl, hevx⟩ := hret
  obtain ⟨kx, mx, sx, slx, lox, ox, Ax, Nx, Cx, rfl⟩ := hevx.form
  have HEVx := Lib.hid hevx
  clear hevx
  have HB4 := Lib.hid (show Cells W1 w.heap.size 63 zeroSt from (by repeat (first | (with_reducible exact HB.out) | (with_reducible refine Cells.alloc ?_ _) | (with_reducible refine Cells.drew ?_) | (with_reducible refine Cells.drewN ?_ _) | (with_reducible refine Cells.keep ?_ (by assumption)) | (with_reducible refine Cells.kept ?_ (by assumption) (by omega)) | (with_reducible refine Cells.far ?_ (by dsimp only; omega) _))))
  go_wp2_with (first | ((with_reducible show wpList _ _ _ (Oper.mk none (Op.store _ _ _) _ _ _ _ :: _) _ _); (refine wpList_store_part rfl rfl 63 (.tmp 2) (.tmp 5) rfl (w.heap.size) 0 rfl [.int .i64 15, .int .i64 0, .int .i64 0, .string ⟨#[]⟩, .string ⟨#[]⟩, .int .i64 kx, .int .i64 mx, .string sx, .int .i64 slx, .bool lox, .int .i64 ox, .slice Ax Nx Cx, .int .i64 0, .int .i64 0, .string ⟨#[]⟩, .int .i64 0, .bool false, .int .i64 0, .slice none 0 0, .slice none 0 0, .slice none 0 0, .int .i64 0, .int .i64 0, .int .i64 0, .bool false] rfl HB4.out (Nat.le_of_ble_eq_true rfl) (by kernel_rfl) (by simp [Value.oneCell']) ?_; intro W2 hB2 hk2; replace hB2 : Cells W2 (w.heap.size) 63 [.int .i64 15, .int .i64 0, .int .i64 0, .string ⟨#[]⟩, .string ⟨#[]⟩, .int .i64 kx, .int .i64 mx, .string sx, .int .i64 slx, .bool lox, .int .i64 ox, .slice Ax Nx Cx, .int .i64 0, .int .i64 0, .string ⟨#[]⟩, .int .i64 0, .bool false, .int .i64 0, .slice none 0 0, .slice none 0 0, .slice none 0 0, .int .i64 0, .int .i64 0, .int .i64 0, .bool false] := (by simpa using hB2); have HB2 := Lib.hid hB2; clear hB2)))
  clear hsz
  refine ret_box Tryz.results76 rfl HB2.out Tryz.underlying63 rfl (by kernel_rfl) rfl (Parsed.ok HS.out ⟨_, rfl, ?_⟩ (by repeat (first | assumption | (with_reducible refine DR.alloc ?_ _) | (with_reducible refine DR.drewN ?_ _) | (with_reducible refine DR.drew ?_) | (with_reducible refine DR.set ?_ (by first | omega | (simp; omega)) _) | (with_reducible refine DR.kept ?_ (by assumption) (fun g hg => by first | exact hg.elim | ((try dsimp only at hg); omega))))) (by repeat (first | assumption | (with_reducible exact Kept.refl _ _) | (with_reducible refine Kept.alloc ?_ _) | (with_reducible refine Kept.drew ?_) | (with_reducible refine Kept.drewN ?_ _) | (with_reducible refine Kept.setCell ?_ ?_ _) | (with_reducible refine Kept.trans ?_ (by assumption)) | (with_reducible refine Kept.trans ?_ (Kept.any (by assumption))) | (with_reducible refine Kept.own ?_ (by assumption) (by omega)) | (intro hxx; first | rfl | ((try dsimp only at hxx ⊢); omega)))))
  exact SV.mk 15 ⟨#[]⟩ ⟨#[]⟩ ((HEVx.out.kept hk2 (fun g _ h => by have h : g = w.heap.size := h; show g < _; first | omega | (rw [World.size_alloc]; omega))).mono (fun g _ h => by have h : g < w.heap.size := h; show g < _; first | omega | (rw [World.size_alloc]; omega))) (EV.zero _ _) (RowV.nil _ _) (RowV.nil _ _)

set_option maxRecDepth 100000 in
set_option maxHeartbeats 1000000 in
theorem join_calls (h : DR w R S k) : Calls Tryz.prog 75 #[.pointer (some ⟨R, 0, none⟩)] w (Parsed w R S retSt (joinS S k)) := by
  have HS : Hid (joinS S k = thn (wantS S k ⟨#[59]⟩) fun _ k => .ok (mkS 14 ⟨#[]⟩ ⟨#[]⟩ zeroT zeroT [] [], k)) := Lib.hid rfl
  have hRl := h.lt
  have hB := Cells.fresh w 63 zeroSt
  have HB := Lib.hid hB
  have hsz : (w.alloc (.cells zeroSt.toArray 63)).heap.size = w.heap.size + 1 := by simp
  clear hB
  go_enter Tryz.func75, Tryz.ntmps75
  go_wp2_with fail
  refine ((want_any (S := S) (k := k) (s := ⟨#[59]⟩) (by decide) (by repeat (first | assumption | (with_reducible refine DR.alloc ?_ _) | (with_reducible refine DR.drewN ?_ _) | (with_reducible refine DR.drew ?_) | (with_reducible refine DR.set ?_ (by first | omega | (simp; omega)) _) | (with_reducible refine DR.kept ?_ (by assumption) (fun g hg => by first | exact hg.elim | ((try dsimp only at hg); omega))))))).mono ?_
  intro e W1 hq
  rcases hq.cases with ⟨kx, hr, hm, hk1⟩ | ⟨a1, k1, hr, hret, hd1, hk1⟩
  · unfold Misfit at hm
    subst hm
    have HX := Lib.hid hr
    clear hr
    go_wp2
    exact ⟨rfl, Parsed.err (HS.out.trans (by rw [HX.out]; rfl)) rfl (by repeat (first | assumption | (with_reducible exact Kept.refl _ _) | (with_reducible refine Kept.alloc ?_ _) | (with_reducible refine Kept.drew ?_) | (with_reducible refine Kept.drewN ?_ _) | (with_reducible refine Kept.setCell ?_ ?_ _) | (with_reducible refine Kept.trans ?_ (by assumption)) | (with_reducible refine Kept.trans ?_ (Kept.any (by assumption))) | (with_reducible refine Kept.own ?_ (by assumption) (by omega)) | (intro hxx; first | rfl | ((try dsimp only at hxx ⊢); omega))))⟩
  replace HS := Lib.hid (HS.out.trans (by rw [hr, thn_ok]))
  clear hr hq
  have hret : e = _ := hret
  subst hret
  have lb1 := hk1.size
  rw [World.size_alloc] at lb1
  have HB4 := Lib.hid (show Cells W1 w.heap.size 63 zeroSt from (by repeat (first | (with_reducible exact HB.out) | (with_reducible refine Cells.alloc ?_ _) | (with_reducible refine Cells.drew ?_) | (with_reducible refine Cells.drewN ?_ _) | (with_reducible refine Cells.keep ?_ (by assumption)) | (with_reducible refine Cells.kept ?_ (by assumption) (by omega)) | (with_reducible refine Cells.far ?_ (by dsimp only; omega) _))))
  go_wp2_with (first | ((with_reducible show wpList _ _ _ (Oper.mk none (Op.store _ _ _) _ _ _ _ :: _) _ _); (refine wpList_store_part rfl rfl 63 (.tmp 2) (.tmp 7) rfl (w.heap.size) 0 rfl [.int .i64 14, .int .i64 0, .int .i64 0, .string ⟨#[]⟩, .string ⟨#[]⟩, .int .i64 0, .int .i64 0, .string ⟨#[]⟩, .int .i64 0, .bool false, .int .i64 0, .slice none 0 0, .int .i64 0, .int .i64 0, .string ⟨#[]⟩, .int .i64 0, .bool false, .int .i64 0, .slice none 0 0, .slice none 0 0, .slice none 0 0, .int .i64 0, .int .i64 0, .int .i64 0, .bool false] rfl HB4.out (Nat.le_of_ble_eq_true rfl) (by kernel_rfl) (by simp [Value.oneCell']) ?_; intro W2 hB2 hk2; replace hB2 : Cells W2 (w.heap.size) 63 [.int .i64 14, .int .i64 0, .int .i64 0, .string ⟨#[]⟩, .string ⟨#[]⟩, .int .i64 0, .int .i64 0, .string ⟨#[]⟩, .int .i64 0, .bool false, .int .i64 0, .slice none 0 0, .int .i64 0, .int .i64 0, .string ⟨#[]⟩, .int .i64 0, .bool false, .int .i64 0, .slice none 0 0, .slice none 0 0, .slice none 0 0, .int .i64 0, .int .i64 0, .int .i64 0, .bool false] := (by simpa using hB2); have HB2 := Lib.hid hB2; clear hB2)))
  clear hsz
  refine ret_box Tryz.results75 rfl HB2.out Tryz.underlying63 rfl (by kernel_rfl) rfl (Parsed.ok HS.out ⟨_, rfl, ?_⟩ (by repeat (first | assumption | (with_reducible refine DR.alloc ?_ _) | (with_reducible refine DR.drewN ?_ _) | (with_reducible refine DR.drew ?_) | (with_reducible refine DR.set ?_ (by first | omega | (simp; omega)) _) | (with_reducible refine DR.kept ?_ (by assumption) (fun g hg => by first | exact hg.elim | ((try dsimp only at hg); omega))))) (by repeat (first | assumption | (with_reducible exact Kept.refl _ _) | (with_reducible refine Kept.alloc ?_ _) | (with_reducible refine Kept.drew ?_) | (with_reducible refine Kept.drewN ?_ _) | (with_reducible refine Kept.setCell ?_ ?_ _) | (with_reducible refine Kept.trans ?_ (by assumption)) | (with_reducible refine Kept.trans ?_ (Kept.any (by assumption))) | (with_reducible refine Kept.own ?_ (by assumption) (by omega)) | (intro hxx; first | rfl | ((try dsimp only at hxx ⊢); omega)))))
  exact SV.mk 14 ⟨#[]⟩ ⟨#[]⟩ (EV.zero _ _) (EV.zero _ _) (RowV.nil _ _) (RowV.nil _ _)
end
end Go.Proofs.YtjkgepppoopheaaGreatDoor
