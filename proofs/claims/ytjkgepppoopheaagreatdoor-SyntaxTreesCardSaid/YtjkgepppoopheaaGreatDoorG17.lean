/- The project's readers of assignments and of statements with blocks (conditions: at most 1000000 words; the table of operators stands). -/
import Derived.Test.YtjkgepppoopheaaGreatDoorG16
namespace Go.Proofs.YtjkgepppoopheaaGreatDoor
open Go.RowKit Go.Shelf

section
variable (S : Src) (B : Nat → Except Nat (List ST × Nat))
def choiceS (k : Nat) : Except Nat (ST × Nat) := thn (exprS S k) fun e k => thn (B k) fun b k =>
  if takeB S k ⟨#[101, 108, 115, 101]⟩ then thn (B (k + 1)) fun l k => .ok (mkS 4 ⟨#[]⟩ ⟨#[]⟩ e zeroT b l, k) else .ok (mkS 4 ⟨#[]⟩ ⟨#[]⟩ e zeroT b [], k)
def loopS (k : Nat) : Except Nat (ST × Nat) := thn (exprS S k) fun e k => thn (B k) fun b k => .ok (mkS 5 ⟨#[]⟩ ⟨#[]⟩ e zeroT b [], k)
end

section
variable {S : Src} {f R k : Nat} {w : World}

set_option maxRecDepth 100000 in
set_option maxHeartbeats 1000000 in
theorem assign_calls (hops : ∀ W, S.inv W → OpsAt W) (h : DR w R S k) : Calls Tryz.prog 187 #[.pointer (some ⟨R, 0, none⟩)] w (Parsed w R S retSt (assignS S k)) := by
  have HS : Hid (assignS S k = thn (nameS S k) fun s k => if takeB S k ⟨#[91]⟩ then putS S s (k + 1) else setS S s k) := Lib.hid rfl
  have HW := Lib.hid (fun W k (h : DR W R S k) => worth_calls hops h)
  have HX := Lib.hid (fun W k (h : DR W R S k) => exprS_calls hops h)
  clear hops
  have hRl := h.lt
  have hB := Cells.fresh w 63 zeroSt
  have HB := Lib.hid hB
  have hsz : (w.alloc (.cells zeroSt.toArray 63)).heap.size = w.heap.size + 1 := by simp
  clear hB
  go_enter Tryz.func187, Tryz.ntmps187
  go_wp2_with fail
  refine (name_calls (S := S) (k := k) (by repeat (first | assumption | (with_reducible refine DR.alloc ?_ _) | (with_reducible refine DR.drewN ?_ _) | (with_reducible refine DR.drew ?_) | (with_reducible refine DR.set ?_ (by first | omega | (simp; omega)) _) | (with_reducible refine DR.kept ?_ (by assumption) (fun g hg => by first | exact hg.elim | ((try dsimp only at hg); omega)))))).mono ?_
  intro e W1 hq
  rcases hq.cases with ⟨kx, hr, hm, hk1⟩ | ⟨a1, k1, hr, hret, hd1, hk1⟩
  · unfold Misfit at hm
    subst hm
    have HX := Lib.hid hr
    clear hr
    go_wp2
    exact ⟨rfl, Parsed.err (HS.out.trans (by rw [HX.out]; rfl)) rfl (by repeat (first | assumption | (with_reducible exact Kept.refl _ _) | (with_reducible refine Kept.alloc ?_ _) | (with_reducible refine Kept.drew ?_) | (with_reducible refine Kept.drewN ?_ _) | (with_reducible refine Kept.setCell ?_ ?_ _) | (with_reducible refine Kept.trans ?_ (by assumption)) | (with_reducible refine Kept.trans ?_ (Kept.any (by assumption))) | (with_reducible refine Kept.own ?_ (by assumption) (by omega)) | (intro hxx; first | rfl | ((try dsimp only at hxx ⊢); omega))))⟩
  replace HS := Lib.hid (HS.out.trans (by rw [hr, thn_ok]))
  clear hr hq
  have hret : e = _ := hret
  subst hret
  have lb1 := hk1.size
  rw [World.size_alloc] at lb1
  clear hsz
  go_wp2_with ((with_reducible show wpList _ _ _ (Oper.mk none (Op.store _ _ _) _ _ _ _ :: _) _ _); (refine wpList_store_part rfl rfl 63 (.tmp 3) (.tmp 8) rfl (W1.heap.size) 0 rfl [.int .i64 2, .int .i64 0, .int .i64 0, .string a1, .string ⟨#[]⟩, .int .i64 0, .int .i64 0, .string ⟨#[]⟩, .int .i64 0, .bool false, .int .i64 0, .slice none 0 0, .int .i64 0, .int .i64 0, .string ⟨#[]⟩, .int .i64 0, .bool false, .int .i64 0, .slice none 0 0, .slice none 0 0, .slice none 0 0, .int .i64 0, .int .i64 0, .int .i64 0, .bool false] rfl (Cells.fresh W1 63 zeroSt) (Nat.le_of_ble_eq_true rfl) (by kernel_rfl) (by simp [Value.oneCell']) ?_; intro W2 hB2 hk2; replace hB2 : Cells W2 (W1.heap.size) 63 [.int .i64 2, .int .i64 0, .int .i64 0, .string a1, .string ⟨#[]⟩, .int .i64 0, .int .i64 0, .string ⟨#[]⟩, .int .i64 0, .bool false, .int .i64 0, .slice none 0 0, .int .i64 0, .int .i64 0, .string ⟨#[]⟩, .int .i64 0, .bool false, .int .i64 0, .slice none 0 0, .slice none 0 0, .slice none 0 0, .int .i64 0, .int .i64 0, .int .i64 0, .bool false] := (by simpa using hB2); have HB2 := Lib.hid hB2; clear hB2))
  have lb2 := hk2.size
  rw [World.size_alloc] at lb2
  have hd2 : DR W2 R S k1 := (by repeat (first | assumption | (with_reducible refine DR.alloc ?_ _) | (with_reducible refine DR.drewN ?_ _) | (with_reducible refine DR.drew ?_) | (with_reducible refine DR.set ?_ (by first | omega | (simp; omega)) _) | (with_reducible refine DR.kept ?_ (by assumption) (fun g hg => by first | exact hg.elim | ((try dsimp only at hg); omega)))))
  cases ht3 : takeB S k1 ⟨#[91]⟩ with
  | false =>
    rw [ht3, if_neg Bool.false_ne_true] at HS
    have HT3 := Lib.hid ht3
    clear ht3
    refine (take_any (S := S) (k := k1) (by decide) hd2).mono ?_
    rintro e W3 ⟨rfl, hd3, hk3⟩
    rw [HT3.out] at hd3 ⊢
    replace hd3 : DR W3 R S k1 := hd3
    have lb3 := hk3.size
    unfold setS at HS
    go_wp2_with fail
    refine (want_any (S := S) (k := k1) (s := ⟨#[61]⟩) (by decide) hd3).mono ?_
    intro e W4 hq
    rcases hq.cases with ⟨kx, hr, hm, hk4⟩ | ⟨a4, k4, hr, hret, hd4, hk4⟩
    · unfold Misfit at hm
      subst hm
      have HX := Lib.hid hr
      clear hr
      go_wp2
      exact ⟨rfl, Parsed.err (HS.out.trans (by rw [HX.out]; rfl)) rfl (by repeat (first | assumption | (with_reducible exact Kept.refl _ _) | (with_reducible refine Kept.alloc ?_ _) | (with_reducible refine Kept.drew ?_) | (with_reducible refine Kept.drewN ?_ _) | (with_reducible refine Kept.setCell ?_ ?_ _) | (with_reducible refine Kept.trans ?_ (by assumption)) | (with_reducible refine Kept.trans ?_ (Kept.any (by assumption))) | (with_reducible refine Kept.own ?_ (by assumption) (by omega)) | (intro hxx; first | rfl | ((try dsimp only at hxx ⊢); omega))))⟩
    replace HS := Lib.hid (HS.out.trans (by rw [hr, thn_ok]))
    clear hr hq
    have hret : e = _ := hret
    subst hret
    have lb4 := hk4.size
    go_wp2_with fail
    refine (HW.out _ _ hd4).mono ?_
    intro e W5 hq
    rcases hq.cases with ⟨kx, hr, hm, hk5⟩ | ⟨a5, k5, hr, hret, hd5, hk5⟩
    · unfold Misfit at hm
      subst hm
      have HX := Lib.hid hr
      clear hr
      go_wp2
      exact ⟨rfl, Parsed.err (HS.out.trans (by rw [HX.out]; rfl)) rfl (by repeat (first | assumption | (with_reducible exact Kept.refl _ _) | (with_reducible refine Kept.alloc ?_ _) | (with_reducible refine Kept.drew ?_) | (with_reducible refine Kept.drewN ?_ _) | (with_reducible refine Kept.setCell ?_ ?_ _) | (with_reducible refine Kept.trans ?_ (by assumption)) | (with_reducible refine Kept.trans ?_ (Kept.any (by assumption))) | (with_reducible refine Kept.own ?_ (by assumption) (by omega)) | (intro hxx; first | rfl | ((try dsimp only at hxx ⊢); omega))))⟩
    replace HS := Lib.hid (HS.out.trans (by rw [hr, thn_ok]))
    clear hr hq
    have lb5 := hk5.size
    obtain ⟨csx, rfl, hevx⟩ := hret
    obtain ⟨kx, mx, sx, slx, lox, ox, Ax, Nx, Cx, rfl⟩ := hevx.form
    have HEVx := Lib.hid hevx
    clear hevx
    have HB3 := Lib.hid (show Cells W5 W1.heap.size 63 [.int .i64 2, .int .i64 0, .int .i64 0, .string a1, .string ⟨#[]⟩, .int .i64 0, .int .i64 0, .string ⟨#[]⟩, .int .i64 0, .bool false, .int .i64 0, .slice none 0 0, .int .i64 0, .int .i64 0, .string ⟨#[]⟩, .int .i64 0, .bool false, .int .i64 0, .slice none 0 0, .slice none 0 0, .slice none 0 0, .int .i64 0, .int .i64 0, .int .i64 0, .bool false] from (by repeat (first | (with_reducible exact HB2.out) | (with_reducible refine Cells.alloc ?_ _) | (with_reducible refine Cells.drew ?_) | (with_reducible refine Cells.drewN ?_ _) | (with_reducible refine Cells.keep ?_ (by assumption)) | (with_reducible refine Cells.kept ?_ (by assumption) (by omega)) | (with_reducible refine Cells.far ?_ (by dsimp only; omega) _))))
    have HB4 := Lib.hid (show Cells W5 w.heap.size 63 zeroSt from (by repeat (first | (with_reducible exact HB.out) | (with_reducible refine Cells.alloc ?_ _) | (with_reducible refine Cells.drew ?_) | (with_reducible refine Cells.drewN ?_ _) | (with_reducible refine Cells.keep ?_ (by assumption)) | (with_reducible refine Cells.kept ?_ (by assumption) (by omega)) | (with_reducible refine Cells.far ?_ (by dsimp only; omega) _))))
    have HK5 : Hid (Kept (· = R) w W5) := Lib.hid (by repeat (first | assumption | (with_reducible exact Kept.refl _ _) | (with_reducible refine Kept.alloc ?_ _) | (with_reducible refine Kept.drew ?_) | (with_reducible refine Kept.drewN ?_ _) | (with_reducible refine Kept.setCell ?_ ?_ _) | (with_reducible refine Kept.trans ?_ (by assumption)) | (with_reducible refine Kept.trans ?_ (Kept.any (by assumption))) | (with_reducible refine Kept.own ?_ (by assumption) (by omega)) | (intro hxx; first | rfl | ((try dsimp only at hxx ⊢); omega))))
    clear HB2
    go_wp2_with (first | ((with_reducible show wpList _ _ _ (Oper.mk none (Op.store _ _ _) _ _ _ _ :: _) _ _); (refine wpList_store_part rfl rfl 44 (.tmp 27) (.tmp 26) rfl (W1.heap.size) 5 rfl [.int .i64 kx, .int .i64 mx, .string sx, .int .i64 slx, .bool lox, .int .i64 ox, .slice Ax Nx Cx] rfl HB3.out (Nat.le_of_ble_eq_true rfl) (by kernel_rfl) (by simp [Value.oneCell']) ?_; intro W6 hB6 hk6; replace hB6 : Cells W6 (W1.heap.size) 63 [.int .i64 2, .int .i64 0, .int .i64 0, .string a1, .string ⟨#[]⟩, .int .i64 kx, .int .i64 mx, .string sx, .int .i64 slx, .bool lox, .int .i64 ox, .slice Ax Nx Cx, .int .i64 0, .int .i64 0, .string ⟨#[]⟩, .int .i64 0, .bool false, .int .i64 0, .slice none 0 0, .slice none 0 0, .slice none 0 0, .int .i64 0, .int .i64 0, .int .i64 0, .bool false] := (by simpa using hB6); have HB6 := Lib.hid hB6; clear hB6)) | ((with_reducible show wpList _ _ _ (Oper.mk _ (Op.load _ _) _ _ _ _ :: _) _ _); (refine wpList_load_cells rfl 63 (.tmp 3) rfl (W1.heap.size) rfl _ Tryz.underlying63 rfl HB6.out (by kernel_rfl) ?_)) | ((with_reducible show wpList _ _ _ (Oper.mk none (Op.store _ _ _) _ _ _ _ :: _) _ _); (refine wpList_store_part rfl rfl 63 (.tmp 2) (.tmp 28) rfl (w.heap.size) 0 rfl [.int .i64 2, .int .i64 0, .int .i64 0, .string a1, .string ⟨#[]⟩, .int .i64 kx, .int .i64 mx, .string sx, .int .i64 slx, .bool lox, .int .i64 ox, .slice Ax Nx Cx, .int .i64 0, .int .i64 0, .string ⟨#[]⟩, .int .i64 0, .bool false, .int .i64 0, .slice none 0 0, .slice none 0 0, .slice none 0 0, .int .i64 0, .int .i64 0, .int .i64 0, .bool false] rfl (HB4.out.kept hk6 (by omega)) (Nat.le_of_ble_eq_true rfl) (by kernel_rfl) (by simp [Value.oneCell']) ?_; intro W7 hB7 hk7; replace hB7 : Cells W7 (w.heap.size) 63 [.int .i64 2, .int .i64 0, .int .i64 0, .string a1, .string ⟨#[]⟩, .int .i64 kx, .int .i64 mx, .string sx, .int .i64 slx, .bool lox, .int .i64 ox, .slice Ax Nx Cx, .int .i64 0, .int .i64 0, .string ⟨#[]⟩, .int .i64 0, .bool false, .int .i64 0, .slice none 0 0, .slice none 0 0, .slice none 0 0, .int .i64 0, .int .i64 0, .int .i64 0, .bool false] := (by simpa using hB7); have HB7 := Lib.hid hB7; clear hB7)))
    refine ret_box Tryz.results187 rfl HB7.out Tryz.underlying63 rfl (by kernel_rfl) rfl (Parsed.ok HS.out ⟨_, rfl, ?_⟩ (by repeat (first | assumption | (with_reducible refine DR.alloc ?_ _) | (with_reducible refine DR.drewN ?_ _) | (with_reducible refine DR.drew ?_) | (with_reducible refine DR.set ?_ (by first | omega | (simp; omega)) _) | (with_reducible refine DR.kept ?_ (by assumption) (fun g hg => by first | exact hg.elim | ((try dsimp only at hg); omega))))) ((HK5.out.own hk6 (by omega)).own hk7 (by omega)))
    exact SV.mk 2 a1 ⟨#[]⟩ (((HEVx.out.kept hk6 (fun g _ h => by have h : g = W1.heap.size := h; show g < _; first | omega | (rw [World.size_alloc]; omega))).kept hk7 (fun g _ h => by have h : g = w.heap.size := h; show g < _; first | omega | (rw [World.size_alloc]; omega))).mono (fun g _ h => by have h : g < w.heap.size := h; show g < _; first | omega | (rw [World.size_alloc]; omega))) (EV.zero _ _) (RowV.nil _ _) (RowV.nil _ _)
  | true =>
    rw [ht3, if_pos rfl] at HS
    have HT3 := Lib.hid ht3
    clear ht3
    refine (take_any (S := S) (k := k1) (by decide) hd2).mono ?_
    rintro e W3 ⟨rfl, hd3, hk3⟩
    rw [HT3.out] at hd3 ⊢
    replace hd3 : DR W3 R S (k1 + 1) := hd3
    have lb3 := hk3.size
    unfold putS at HS
    go_wp2_with fail
    refine (HX.out _ _ hd3).mono ?_
    intro e W4 hq
    rcases hq.cases with ⟨kx, hr, hm, hk4⟩ | ⟨a4, k4, hr, hret, hd4, hk4⟩
    · unfold Misfit at hm
      subst hm
      have HX := Lib.hid hr
      clear hr
      go_wp2
      exact ⟨rfl, Parsed.err (HS.out.trans (by rw [HX.out]; rfl)) rfl (by repeat (first | assumption | (with_reducible exact Kept.refl _ _) | (with_reducible refine Kept.alloc ?_ _) | (with_reducible refine Kept.drew ?_) | (with_reducible refine Kept.drewN ?_ _) | (with_reducible refine Kept.setCell ?_ ?_ _) | (with_reducible refine Kept.trans ?_ (by assumption)) | (with_reducible refine Kept.trans ?_ (Kept.any (by assumption))) | (with_reducible refine Kept.own ?_ (by assumption) (by omega)) | (intro hxx; first | rfl | ((try dsimp only at hxx ⊢); omega))))⟩
    replace HS := Lib.hid (HS.out.trans (by rw [hr, thn_ok]))
    clear hr hq
    have lb4 := hk4.size
    obtain ⟨csx, rfl, hevx⟩ := hret
    obtain ⟨kx, mx, sx, slx, lox, ox, Ax, Nx, Cx, rfl⟩ := hevx.form
    have HEVx := Lib.hid hevx
    clear hevx
    have HB3 := Lib.hid (show Cells W4 W1.heap.size 63 [.int .i64 2, .int .i64 0, .int .i64 0, .string a1, .string ⟨#[]⟩, .int .i64 0, .int .i64 0, .string ⟨#[]⟩, .int .i64 0, .bool false, .int .i64 0, .slice none 0 0, .int .i64 0, .int .i64 0, .string ⟨#[]⟩, .int .i64 0, .bool false, .int .i64 0, .slice none 0 0, .slice none 0 0, .slice none 0 0, .int .i64 0, .int .i64 0, .int .i64 0, .bool false] from (by repeat (first | (with_reducible exact HB2.out) | (with_reducible refine Cells.alloc ?_ _) | (with_reducible refine Cells.drew ?_) | (with_reducible refine Cells.drewN ?_ _) | (with_reducible refine Cells.keep ?_ (by assumption)) | (with_reducible refine Cells.kept ?_ (by assumption) (by omega)) | (with_reducible refine Cells.far ?_ (by dsimp only; omega) _))))
    have HB4 := Lib.hid (show Cells W4 w.heap.size 63 zeroSt from (by repeat (first | (with_reducible exact HB.out) | (with_reducible refine Cells.alloc ?_ _) | (with_reducible refine Cells.drew ?_) | (with_reducible refine Cells.drewN ?_ _) | (with_reducible refine Cells.keep ?_ (by assumption)) | (with_reducible refine Cells.kept ?_ (by assumption) (by omega)) | (with_reducible refine Cells.far ?_ (by dsimp only; omega) _))))
    have HK4 : Hid (Kept (· = R) w W4) := Lib.hid (by repeat (first | assumption | (with_reducible exact Kept.refl _ _) | (with_reducible refine Kept.alloc ?_ _) | (with_reducible refine Kept.drew ?_) | (with_reducible refine Kept.drewN ?_ _) | (with_reducible refine Kept.setCell ?_ ?_ _) | (with_reducible refine Kept.trans ?_ (by assumption)) | (with_reducible refine Kept.trans ?_ (Kept.any (by assumption))) | (with_reducible refine Kept.own ?_ (by assumption) (by omega)) | (intro hxx; first | rfl | ((try dsimp only at hxx ⊢); omega))))
    clear HB2
    go_wp2_with (first | ((with_reducible show wpList _ _ _ (Oper.mk none (Op.store _ _ _) _ _ _ _ :: _) _ _); (refine wpList_store_part rfl rfl 61 (.tmp 15) (.const (.int .i64 3)) rfl (W1.heap.size) 0 rfl [.int .i64 3] rfl HB3.out (Nat.le_of_ble_eq_true rfl) (by kernel_rfl) (by simp [Value.oneCell']) ?_; intro W5 hB5 hk5; replace hB5 : Cells W5 (W1.heap.size) 63 [.int .i64 3, .int .i64 0, .int .i64 0, .string a1, .string ⟨#[]⟩, .int .i64 0, .int .i64 0, .string ⟨#[]⟩, .int .i64 0, .bool false, .int .i64 0, .slice none 0 0, .int .i64 0, .int .i64 0, .string ⟨#[]⟩, .int .i64 0, .bool false, .int .i64 0, .slice none 0 0, .slice none 0 0, .slice none 0 0, .int .i64 0, .int .i64 0, .int .i64 0, .bool false] := (by simpa using hB5); have HB5 := Lib.hid hB5; clear hB5)) | ((with_reducible show wpList _ _ _ (Oper.mk none (Op.store _ _ _) _ _ _ _ :: _) _ _); (refine wpList_store_part rfl rfl 44 (.tmp 16) (.tmp 14) rfl (W1.heap.size) 12 rfl [.int .i64 kx, .int .i64 mx, .string sx, .int .i64 slx, .bool lox, .int .i64 ox, .slice Ax Nx Cx] rfl HB5.out (Nat.le_of_ble_eq_true rfl) (by kernel_rfl) (by simp [Value.oneCell']) ?_; intro W6 hB6 hk6; replace hB6 : Cells W6 (W1.heap.size) 63 [.int .i64 3, .int .i64 0, .int .i64 0, .string a1, .string ⟨#[]⟩, .int .i64 0, .int .i64 0, .string ⟨#[]⟩, .int .i64 0, .bool false, .int .i64 0, .slice none 0 0, .int .i64 kx, .int .i64 mx, .string sx, .int .i64 slx, .bool lox, .int .i64 ox, .slice Ax Nx Cx, .slice none 0 0, .slice none 0 0, .int .i64 0, .int .i64 0, .int .i64 0, .bool false] := (by simpa using hB6); have HB6 := Lib.hid hB6; clear hB6)))
    have lb5 := hk5.size
    have lb6 := hk6.size
    have HB7 := Lib.hid ((HB4.out.kept hk5 (by omega)).kept hk6 (by omega))
    have HK6 := Lib.hid ((HK4.out.own hk5 (by omega)).own hk6 (by omega))
    have HX6 := Lib.hid ((HEVx.out.kept hk5 (fun g _ h => by have h : g = W1.heap.size := h; show g < _; first | omega | (rw [World.size_alloc]; omega))).kept hk6 (fun g _ h => by have h : g = W1.heap.size := h; show g < _; first | omega | (rw [World.size_alloc]; omega)))
    have hd6 : DR W6 R S k4 := (by repeat (first | assumption | (with_reducible refine DR.alloc ?_ _) | (with_reducible refine DR.drewN ?_ _) | (with_reducible refine DR.drew ?_) | (with_reducible refine DR.set ?_ (by first | omega | (simp; omega)) _) | (with_reducible refine DR.kept ?_ (by assumption) (fun g hg => by first | exact hg.elim | ((try dsimp only at hg); omega)))))
    clear HB3 HB5
    refine (want_any (S := S) (k := k4) (s := ⟨#[93]⟩) (by decide) hd6).mono ?_
    intro e W7 hq
    rcases hq.cases with ⟨kx, hr, hm, hk7⟩ | ⟨a7, k7, hr, hret, hd7, hk7⟩
    · unfold Misfit at hm
      subst hm
      have HX := Lib.hid hr
      clear hr
      go_wp2
      exact ⟨rfl, Parsed.err (HS.out.trans (by rw [HX.out]; rfl)) rfl (HK6.out.trans hk7)⟩
    replace HS := Lib.hid (HS.out.trans (by rw [hr, thn_ok]))
    clear hr hq
    have hret : e = _ := hret
    subst hret
    have lb7 := hk7.size
    go_wp2_with fail
    refine (want_any (S := S) (k := k7) (s := ⟨#[61]⟩) (by decide) hd7).mono ?_
    intro e W8 hq
    rcases hq.cases with ⟨kx, hr, hm, hk8⟩ | ⟨a8, k8, hr, hret, hd8, hk8⟩
    · unfold Misfit at hm
      subst hm
      have HX := Lib.hid hr
      clear hr
      go_wp2
      exact ⟨rfl, Parsed.err (HS.out.trans (by rw [HX.out]; rfl)) rfl ((HK6.out.trans hk7).trans hk8)⟩
    replace HS := Lib.hid (HS.out.trans (by rw [hr, thn_ok]))
    clear hr hq
    have hret : e = _ := hret
    subst hret
    have lb8 := hk8.size
    have HK8 := Lib.hid ((HK6.out.trans hk7).trans hk8)
    go_wp2_with fail
    refine (HW.out _ _ hd8).mono ?_
    intro e W9 hq
    rcases hq.cases with ⟨kx, hr, hm, hk9⟩ | ⟨a9, k9, hr, hret, hd9, hk9⟩
    · unfold Misfit at hm
      subst hm
      have HX := Lib.hid hr
      clear hr
      go_wp2
      exact ⟨rfl, Parsed.err (HS.out.trans (by rw [HX.out]; rfl)) rfl (HK8.out.trans hk9)⟩
    replace HS := Lib.hid (HS.out.trans (by rw [hr, thn_ok]))
    clear hr hq
    have lb9 := hk9.size
    obtain ⟨csy, rfl, hevy⟩ := hret
    obtain ⟨ky, my, sy, sly, loy, oy, Ay, Ny, Cy, rfl⟩ := hevy.form
    have HEVy := Lib.hid hevy
    clear hevy
    have HK9 := Lib.hid (HK8.out.trans hk9)
    have HBA := Lib.hid (((HB6.out.kept hk7 (by omega)).kept hk8 (by omega)).kept hk9 (by omega))
    have HBB := Lib.hid (((HB7.out.kept hk7 (by omega)).kept hk8 (by omega)).kept hk9 (by omega))
    have HX9 := Lib.hid (((HX6.out.kept hk7 (fun g _ h => by have h : g = R := h; show g < _; first | omega | (rw [World.size_alloc]; omega))).kept hk8 (fun g _ h => by have h : g = R := h; show g < _; first | omega | (rw [World.size_alloc]; omega))).kept hk9 (fun g _ h => by have h : g = R := h; show g < _; first | omega | (rw [World.size_alloc]; omega)))
    clear HB6 HB7
    go_wp2_with (first | ((with_reducible show wpList _ _ _ (Oper.mk none (Op.store _ _ _) _ _ _ _ :: _) _ _); (refine wpList_store_part rfl rfl 44 (.tmp 27) (.tmp 26) rfl (W1.heap.size) 5 rfl [.int .i64 ky, .int .i64 my, .string sy, .int .i64 sly, .bool loy, .int .i64 oy, .slice Ay Ny Cy] rfl HBA.out (Nat.le_of_ble_eq_true rfl) (by kernel_rfl) (by simp [Value.oneCell']) ?_; intro W10 hB10 hk10; replace hB10 : Cells W10 (W1.heap.size) 63 [.int .i64 3, .int .i64 0, .int .i64 0, .string a1, .string ⟨#[]⟩, .int .i64 ky, .int .i64 my, .string sy, .int .i64 sly, .bool loy, .int .i64 oy, .slice Ay Ny Cy, .int .i64 kx, .int .i64 mx, .string sx, .int .i64 slx, .bool lox, .int .i64 ox, .slice Ax Nx Cx, .slice none 0 0, .slice none 0 0, .int .i64 0, .int .i64 0, .int .i64 0, .bool false] := (by simpa using hB10); have HB10 := Lib.hid hB10; clear hB10)) | ((with_reducible show wpList _ _ _ (Oper.mk _ (Op.load _ _) _ _ _ _ :: _) _ _); (refine wpList_load_cells rfl 63 (.tmp 3) rfl (W1.heap.size) rfl _ Tryz.underlying63 rfl HB10.out (by kernel_rfl) ?_)) | ((with_reducible show wpList _ _ _ (Oper.mk none (Op.store _ _ _) _ _ _ _ :: _) _ _); (refine wpList_store_part rfl rfl 63 (.tmp 2) (.tmp 28) rfl (w.heap.size) 0 rfl [.int .i64 3, .int .i64 0, .int .i64 0, .string a1, .string ⟨#[]⟩, .int .i64 ky, .int .i64 my, .string sy, .int .i64 sly, .bool loy, .int .i64 oy, .slice Ay Ny Cy, .int .i64 kx, .int .i64 mx, .string sx, .int .i64 slx, .bool lox, .int .i64 ox, .slice Ax Nx Cx, .slice none 0 0, .slice none 0 0, .int .i64 0, .int .i64 0, .int .i64 0, .bool false] rfl (HBB.out.kept hk10 (by omega)) (Nat.le_of_ble_eq_true rfl) (by kernel_rfl) (by simp [Value.oneCell']) ?_; intro W11 hB11 hk11; replace hB11 : Cells W11 (w.heap.size) 63 [.int .i64 3, .int .i64 0, .int .i64 0, .string a1, .string ⟨#[]⟩, .int .i64 ky, .int .i64 my, .string sy, .int .i64 sly, .bool loy, .int .i64 oy, .slice Ay Ny Cy, .int .i64 kx, .int .i64 mx, .string sx, .int .i64 slx, .bool lox, .int .i64 ox, .slice Ax Nx Cx, .slice none 0 0, .slice none 0 0, .int .i64 0, .int .i64 0, .int .i64 0, .bool false] := (by simpa using hB11); have HB11 := Lib.hid hB11; clear hB11)))
    refine ret_box Tryz.results187 rfl HB11.out Tryz.underlying63 rfl (by kernel_rfl) rfl (Parsed.ok HS.out ⟨_, rfl, ?_⟩ (by repeat (first | assumption | (with_reducible refine DR.alloc ?_ _) | (with_reducible refine DR.drewN ?_ _) | (with_reducible refine DR.drew ?_) | (with_reducible refine DR.set ?_ (by first | omega | (simp; omega)) _) | (with_reducible refine DR.kept ?_ (by assumption) (fun g hg => by first | exact hg.elim | ((try dsimp only at hg); omega))))) ((HK9.out.own hk10 (by omega)).own hk11 (by omega)))
    exact SV.mk 3 a1 ⟨#[]⟩ (((HEVy.out.kept hk10 (fun g _ h => by have h : g = W1.heap.size := h; show g < _; first | omega | (rw [World.size_alloc]; omega))).kept hk11 (fun g _ h => by have h : g = w.heap.size := h; show g < _; first | omega | (rw [World.size_alloc]; omega))).mono (fun g _ h => by have h : g < w.heap.size := h; show g < _; first | omega | (rw [World.size_alloc]; omega))) (((HX9.out.kept hk10 (fun g _ h => by have h : g = W1.heap.size := h; show g < _; first | omega | (rw [World.size_alloc]; omega))).kept hk11 (fun g _ h => by have h : g = w.heap.size := h; show g < _; first | omega | (rw [World.size_alloc]; omega))).mono (fun g _ h => by have h : g < w.heap.size := h; show g < _; first | omega | (rw [World.size_alloc]; omega))) (RowV.nil _ _) (RowV.nil _ _)

theorem exprS_fwd {p : ET × Nat} (h : exprS S k = .ok p) : k < p.2 := (reads_fwd S _).2.1 _ _ _ h

set_option maxRecDepth 100000 in
set_option maxHeartbeats 1000000 in
theorem loop_calls (hops : ∀ W, S.inv W → OpsAt W) {B : Nat → Except Nat (List ST × Nat)} (hB : ∀ k' W, k < k' → DR W R S k' → Calls Tryz.prog 128 #[.pointer (some ⟨R, 0, none⟩)] W (Parsed W R S retB (B k'))) (h : DR w R S k) :
    Calls Tryz.prog 71 #[.pointer (some ⟨R, 0, none⟩)] w (Parsed w R S retSt (loopS S B k)) := by
  have HS : Hid (loopS S B k = thn (exprS S k) fun e k => thn (B k) fun b k => .ok (mkS 5 ⟨#[]⟩ ⟨#[]⟩ e zeroT b [], k)) := Lib.hid rfl
  have HX := Lib.hid (fun W k (h : DR W R S k) => exprS_calls hops h)
  have HFW := Lib.hid (fun p h => exprS_fwd (S := S) (k := k) (p := p) h)
  have HBL := Lib.hid hB
  clear hops hB
  have hRl := h.lt
  have hb := Cells.fresh w 63 zeroSt
  have HB := Lib.hid hb
  have hsz : (w.alloc (.cells zeroSt.toArray 63)).heap.size = w.heap.size + 1 := by simp
  clear hb
  go_enter Tryz.func71, Tryz.ntmps71
  go_wp2_with fail
  refine (HX.out _ k (by repeat (first | assumption | (with_reducible refine DR.alloc ?_ _) | (with_reducible refine DR.drewN ?_ _) | (with_reducible refine DR.drew ?_) | (with_reducible refine DR.set ?_ (by first | omega | (simp; omega)) _) | (with_reducible refine DR.kept ?_ (by assumption) (fun g hg => by first | exact hg.elim | ((try dsimp only at hg); omega)))))).mono ?_
  intro e W1 hq
  rcases hq.cases with ⟨kx, hr, hm, hk1⟩ | ⟨a1, k1, hr, hret, hd1, hk1⟩
  · unfold Misfit at hm
    subst hm
    have HX := Lib.hid hr
    clear hr
    go_wp2
    exact ⟨rfl, Parsed.err (HS.out.trans (by rw [HX.out]; rfl)) rfl (by repeat (first | assumption | (with_reducible exact Kept.refl _ _) | (with_reducible refine Kept.alloc ?_ _) | (with_reducible refine Kept.drew ?_) | (with_reducible refine Kept.drewN ?_ _) | (with_reducible refine Kept.setCell ?_ ?_ _) | (with_reducible refine Kept.trans ?_ (by assumption)) | (with_reducible refine Kept.trans ?_ (Kept.any (by assumption))) | (with_reducible refine Kept.own ?_ (by assumption) (by omega)) | (intro hxx; first | rfl | ((try dsimp only at hxx ⊢); omega))))⟩
  have hlk : k < k1 := HFW.out _ hr
  replace HS := Lib.hid (HS.out.trans (by rw [hr, thn_ok]))
  clear hr hq
  have lb1 := hk1.size
  rw [World.size_alloc] at lb1
  obtain ⟨csx, rfl, hevx⟩ := hret
  obtain ⟨kx, mx, sx, slx, lox, ox, Ax, Nx, Cx, rfl⟩ := hevx.form
  have HEVx := Lib.hid hevx
  clear hevx
  clear hsz
  go_wp2_with ((with_reducible show wpList _ _ _ (Oper.mk none (Op.store _ _ _) _ _ _ _ :: _) _ _); (refine wpList_store_part rfl rfl 63 (.tmp 3) (.tmp 6) rfl (W1.heap.size) 0 rfl [.int .i64 5, .int .i64 0, .int .i64 0, .string ⟨#[]⟩, .string ⟨#[]⟩, .int .i64 kx, .int .i64 mx, .string sx, .int .i64 slx, .bool lox, .int .i64 ox, .slice Ax Nx Cx, .int .i64 0, .int .i64 0, .string ⟨#[]⟩, .int .i64 0, .bool false, .int .i64 0, .slice none 0 0, .slice none 0 0, .slice none 0 0, .int .i64 0, .int .i64 0, .int .i64 0, .bool false] rfl (Cells.fresh W1 63 zeroSt) (Nat.le_of_ble_eq_true rfl) (by kernel_rfl) (by simp [Value.oneCell']) ?_; intro W2 hB2 hk2; replace hB2 : Cells W2 (W1.heap.size) 63 [.int .i64 5, .int .i64 0, .int .i64 0, .string ⟨#[]⟩, .string ⟨#[]⟩, .int .i64 kx, .int .i64 mx, .string sx, .int .i64 slx, .bool lox, .int .i64 ox, .slice Ax Nx Cx, .int .i64 0, .int .i64 0, .string ⟨#[]⟩, .int .i64 0, .bool false, .int .i64 0, .slice none 0 0, .slice none 0 0, .slice none 0 0, .int .i64 0, .int .i64 0, .int .i64 0, .bool false] := (by simpa using hB2); have HB2 := Lib.hid hB2; clear hB2))
  have lb2 := hk2.size
  rw [World.size_alloc] at lb2
  have hd2 : DR W2 R S k1 := (by repeat (first | assumption | (with_reducible refine DR.alloc ?_ _) | (with_reducible refine DR.drewN ?_ _) | (with_reducible refine DR.drew ?_) | (with_reducible refine DR.set ?_ (by first | omega | (simp; omega)) _) | (with_reducible refine DR.kept ?_ (by assumption) (fun g hg => by first | exact hg.elim | ((try dsimp only at hg); omega)))))
  have HX2 := Lib.hid (((HEVx.out.mono (Z' := fun g => g < w.heap.size + 1 ∨ W1.heap.size ≤ g) (fun g hg h => by have h : g < w.heap.size + 1 ∨ W1.heap.size ≤ g := h; show g < _; rw [World.size_alloc]; omega)).keep ((Kept.refl noX W1).alloc (.cells zeroSt.toArray 63))).kept hk2 (fun g _ h => by have h : g = W1.heap.size := h; show _ ∨ _; omega))
  clear HEVx
  have HK2 : Hid (Kept (· = R) w W2) := Lib.hid (by repeat (first | assumption | (with_reducible exact Kept.refl _ _) | (with_reducible refine Kept.alloc ?_ _) | (with_reducible refine Kept.drew ?_) | (with_reducible refine Kept.drewN ?_ _) | (with_reducible refine Kept.setCell ?_ ?_ _) | (with_reducible refine Kept.trans ?_ (by assumption)) | (with_reducible refine Kept.trans ?_ (Kept.any (by assumption))) | (with_reducible refine Kept.own ?_ (by assumption) (by omega)) | (intro hxx; first | rfl | ((try dsimp only at hxx ⊢); omega))))
  refine (HBL.out k1 _ hlk hd2).mono ?_
  intro e W3 hq
  rcases hq.cases with ⟨kx, hr, hm, hk3⟩ | ⟨a3, k3, hr, hret, hd3, hk3⟩
  · unfold Misfit at hm
    subst hm
    have HX := Lib.hid hr
    clear hr
    go_wp2
    exact ⟨rfl, Parsed.err (HS.out.trans (by rw [HX.out]; rfl)) rfl (HK2.out.trans hk3)⟩
  replace HS := Lib.hid (HS.out.trans (by rw [hr, thn_ok]))
  clear hr hq
  have lb3 := hk3.size
  obtain ⟨v, rfl, hrowv⟩ := hret
  obtain ⟨Av, Nv, Cv, rfl, hff⟩ := hrowv.form
  clear hff
  have HROWv := Lib.hid hrowv
  clear hrowv
  have HB3 := Lib.hid (show Cells W3 W1.heap.size 63 [.int .i64 5, .int .i64 0, .int .i64 0, .string ⟨#[]⟩, .string ⟨#[]⟩, .int .i64 kx, .int .i64 mx, .string sx, .int .i64 slx, .bool lox, .int .i64 ox, .slice Ax Nx Cx, .int .i64 0, .int .i64 0, .string ⟨#[]⟩, .int .i64 0, .bool false, .int .i64 0, .slice none 0 0, .slice none 0 0, .slice none 0 0, .int .i64 0, .int .i64 0, .int .i64 0, .bool false] from (by repeat (first | (with_reducible exact HB2.out) | (with_reducible refine Cells.alloc ?_ _) | (with_reducible refine Cells.drew ?_) | (with_reducible refine Cells.drewN ?_ _) | (with_reducible refine Cells.keep ?_ (by assumption)) | (with_reducible refine Cells.kept ?_ (by assumption) (by omega)) | (with_reducible refine Cells.far ?_ (by dsimp only; omega) _))))
  have HBW := Lib.hid (show Cells W3 w.heap.size 63 zeroSt from (by repeat (first | (with_reducible exact HB.out) | (with_reducible refine Cells.alloc ?_ _) | (with_reducible refine Cells.drew ?_) | (with_reducible refine Cells.drewN ?_ _) | (with_reducible refine Cells.keep ?_ (by assumption)) | (with_reducible refine Cells.kept ?_ (by assumption) (by omega)) | (with_reducible refine Cells.far ?_ (by dsimp only; omega) _))))
  have HK3 := Lib.hid (HK2.out.trans hk3)
  have HX3 := Lib.hid (HX2.out.kept hk3 (fun g _ h => by have h : g = R := h; show _ ∨ _; omega))
  clear HB2
  go_wp2_with (first | ((with_reducible show wpList _ _ _ (Oper.mk none (Op.store _ _ _) _ _ _ _ :: _) _ _); (refine wpList_store_part rfl rfl 52 (.tmp 9) (.tmp 8) rfl (W1.heap.size) 19 rfl [.slice Av Nv Cv] rfl HB3.out (Nat.le_of_ble_eq_true rfl) (by kernel_rfl) (by simp [Value.oneCell']) ?_; intro W4 hB4 hk4; replace hB4 : Cells W4 (W1.heap.size) 63 [.int .i64 5, .int .i64 0, .int .i64 0, .string ⟨#[]⟩, .string ⟨#[]⟩, .int .i64 kx, .int .i64 mx, .string sx, .int .i64 slx, .bool lox, .int .i64 ox, .slice Ax Nx Cx, .int .i64 0, .int .i64 0, .string ⟨#[]⟩, .int .i64 0, .bool false, .int .i64 0, .slice none 0 0, .slice Av Nv Cv, .slice none 0 0, .int .i64 0, .int .i64 0, .int .i64 0, .bool false] := (by simpa using hB4); have HB4 := Lib.hid hB4; clear hB4)) | ((with_reducible show wpList _ _ _ (Oper.mk _ (Op.load _ _) _ _ _ _ :: _) _ _); (refine wpList_load_cells rfl 63 (.tmp 3) rfl (W1.heap.size) rfl _ Tryz.underlying63 rfl HB4.out (by kernel_rfl) ?_)) | ((with_reducible show wpList _ _ _ (Oper.mk none (Op.store _ _ _) _ _ _ _ :: _) _ _); (refine wpList_store_part rfl rfl 63 (.tmp 2) (.tmp 10) rfl (w.heap.size) 0 rfl [.int .i64 5, .int .i64 0, .int .i64 0, .string ⟨#[]⟩, .string ⟨#[]⟩, .int .i64 kx, .int .i64 mx, .string sx, .int .i64 slx, .bool lox, .int .i64 ox, .slice Ax Nx Cx, .int .i64 0, .int .i64 0, .string ⟨#[]⟩, .int .i64 0, .bool false, .int .i64 0, .slice none 0 0, .slice Av Nv Cv, .slice none 0 0, .int .i64 0, .int .i64 0, .int .i64 0, .bool false] rfl (HBW.out.kept hk4 (by omega)) (Nat.le_of_ble_eq_true rfl) (by kernel_rfl) (by simp [Value.oneCell']) ?_; intro W5 hB5 hk5; replace hB5 : Cells W5 (w.heap.size) 63 [.int .i64 5, .int .i64 0, .int .i64 0, .string ⟨#[]⟩, .string ⟨#[]⟩, .int .i64 kx, .int .i64 mx, .string sx, .int .i64 slx, .bool lox, .int .i64 ox, .slice Ax Nx Cx, .int .i64 0, .int .i64 0, .string ⟨#[]⟩, .int .i64 0, .bool false, .int .i64 0, .slice none 0 0, .slice Av Nv Cv, .slice none 0 0, .int .i64 0, .int .i64 0, .int .i64 0, .bool false] := (by simpa using hB5); have HB5 := Lib.hid hB5; clear hB5)))
  refine ret_box Tryz.results71 rfl HB5.out Tryz.underlying63 rfl (by kernel_rfl) rfl (Parsed.ok HS.out ⟨_, rfl, ?_⟩ (by repeat (first | assumption | (with_reducible refine DR.alloc ?_ _) | (with_reducible refine DR.drewN ?_ _) | (with_reducible refine DR.drew ?_) | (with_reducible refine DR.set ?_ (by first | omega | (simp; omega)) _) | (with_reducible refine DR.kept ?_ (by assumption) (fun g hg => by first | exact hg.elim | ((try dsimp only at hg); omega))))) ((HK3.out.own hk4 (by omega)).own hk5 (by omega)))
  exact SV.mk 5 ⟨#[]⟩ ⟨#[]⟩ (((HX3.out.kept hk4 (fun g _ h => by have h : g = W1.heap.size := h; show _ ∨ _; omega)).kept hk5 (fun g _ h => by have h : g = w.heap.size := h; show _ ∨ _; omega)).mono (fun g _ h => by have h : g < w.heap.size := h; show _ ∨ _; omega)) (EV.zero _ _) (((HROWv.out.kept hk4 (fun g _ h => by have h : g = W1.heap.size := h; show g < _; first | omega | (rw [World.size_alloc]; omega))).kept hk5 (fun g _ h => by have h : g = w.heap.size := h; show g < _; first | omega | (rw [World.size_alloc]; omega))).mono (fun g _ h => by have h : g < w.heap.size := h; show g < _; first | omega | (rw [World.size_alloc]; omega))) (RowV.nil _ _)

set_option maxRecDepth 100000 in
set_option maxHeartbeats 1000000 in
theorem choice_calls (hops : ∀ W, S.inv W → OpsAt W) {B : Nat → Except Nat (List ST × Nat)} (hBm : ∀ k p, B k = .ok p → k < p.2) (hB : ∀ k' W, k < k' → DR W R S k' → Calls Tryz.prog 128 #[.pointer (some ⟨R, 0, none⟩)] W (Parsed W R S retB (B k'))) (h : DR w R S k) :
    Calls Tryz.prog 70 #[.pointer (some ⟨R, 0, none⟩)] w (Parsed w R S retSt (choiceS S B k)) := by
  have HS : Hid (choiceS S B k = thn (exprS S k) fun e k => thn (B k) fun b k => if takeB S k ⟨#[101, 108, 115, 101]⟩ then thn (B (k + 1)) fun l k => .ok (mkS 4 ⟨#[]⟩ ⟨#[]⟩ e zeroT b l, k) else .ok (mkS 4 ⟨#[]⟩ ⟨#[]⟩ e zeroT b [], k)) := Lib.hid rfl
  have HX := Lib.hid (fun W k (h : DR W R S k) => exprS_calls hops h)
  have HFW := Lib.hid (fun p h => exprS_fwd (S := S) (k := k) (p := p) h)
  have HBL := Lib.hid hB
  have HBM := Lib.hid hBm
  clear hops hB hBm
  have hRl := h.lt
  have hb := Cells.fresh w 63 zeroSt
  have HB := Lib.hid hb
  have hsz : (w.alloc (.cells zeroSt.toArray 63)).heap.size = w.heap.size + 1 := by simp
  clear hb
  go_enter Tryz.func70, Tryz.ntmps70
  go_wp2_with fail
  refine (HX.out _ k (by repeat (first | assumption | (with_reducible refine DR.alloc ?_ _) | (with_reducible refine DR.drewN ?_ _) | (with_reducible refine DR.drew ?_) | (with_reducible refine DR.set ?_ (by first | omega | (simp; omega)) _) | (with_reducible refine DR.kept ?_ (by assumption) (fun g hg => by first | exact hg.elim | ((try dsimp only at hg); omega)))))).mono ?_
  intro e W1 hq
  rcases hq.cases with ⟨kx, hr, hm, hk1⟩ | ⟨a1, k1, hr, hret, hd1, hk1⟩
  · unfold Misfit at hm
    subst hm
    have HX := Lib.hid hr
    clear hr
    go_wp2
    exact ⟨rfl, Parsed.err (HS.out.trans (by rw [HX.out]; rfl)) rfl (by repeat (first | assumption | (with_reducible exact Kept.refl _ _) | (with_reducible refine Kept.alloc ?_ _) | (with_reducible refine Kept.drew ?_) | (with_reducible refine Kept.drewN ?_ _) | (with_reducible refine Kept.setCell ?_ ?_ _) | (with_reducible refine Kept.trans ?_ (by assumption)) | (with_reducible refine Kept.trans ?_ (Kept.any (by assumption))) | (with_reducible refine Kept.own ?_ (by assumption) (by omega)) | (intro hxx; first | rfl | ((try dsimp only at hxx ⊢); omega))))⟩
  have hlk : k < k1 := HFW.out _ hr
  replace HS := Lib.hid (HS.out.trans (by rw [hr, thn_ok]))
  clear hr hq
  have lb1 := hk1.size
  rw [World.size_alloc] at lb1
  obtain ⟨csx, rfl, hevx⟩ := hret
  obtain ⟨kx, mx, sx, slx, lox, ox, Ax, Nx, Cx, rfl⟩ := hevx.form
  have HEVx := Lib.hid hevx
  clear hevx
  clear hsz
  go_wp2_with ((with_reducible show wpList _ _ _ (Oper.mk none (Op.store _ _ _) _ _ _ _ :: _) _ _); (refine wpList_store_part rfl rfl 63 (.tmp 3) (.tmp 6) rfl (W1.heap.size) 0 rfl [.int .i64 4, .int .i64 0, .int .i64 0, .string ⟨#[]⟩, .string ⟨#[]⟩, .int .i64 kx, .int .i64 mx, .string sx, .int .i64 slx, .bool lox, .int .i64 ox, .slice Ax Nx Cx, .int .i64 0, .int .i64 0, .string ⟨#[]⟩, .int .i64 0, .bool false, .int .i64 0, .slice none 0 0, .slice none 0 0, .slice none 0 0, .int .i64 0, .int .i64 0, .int .i64 0, .bool false] rfl (Cells.fresh W1 63 zeroSt) (Nat.le_of_ble_eq_true rfl) (by kernel_rfl) (by simp [Value.oneCell']) ?_; intro W2 hB2 hk2; replace hB2 : Cells W2 (W1.heap.size) 63 [.int .i64 4, .int .i64 0, .int .i64 0, .string ⟨#[]⟩, .string ⟨#[]⟩, .int .i64 kx, .int .i64 mx, .string sx, .int .i64 slx, .bool lox, .int .i64 ox, .slice Ax Nx Cx, .int .i64 0, .int .i64 0, .string ⟨#[]⟩, .int .i64 0, .bool false, .int .i64 0, .slice none 0 0, .slice none 0 0, .slice none 0 0, .int .i64 0, .int .i64 0, .int .i64 0, .bool false] := (by simpa using hB2); have HB2 := Lib.hid hB2; clear hB2))
  have lb2 := hk2.size
  rw [World.size_alloc] at lb2
  have hd2 : DR W2 R S k1 := (by repeat (first | assumption | (with_reducible refine DR.alloc ?_ _) | (with_reducible refine DR.drewN ?_ _) | (with_reducible refine DR.drew ?_) | (with_reducible refine DR.set ?_ (by first | omega | (simp; omega)) _) | (with_reducible refine DR.kept ?_ (by assumption) (fun g hg => by first | exact hg.elim | ((try dsimp only at hg); omega)))))
  have HX2 := Lib.hid (((HEVx.out.mono (Z' := fun g => g < w.heap.size + 1 ∨ W1.heap.size ≤ g) (fun g hg h => by have h : g < w.heap.size + 1 ∨ W1.heap.size ≤ g := h; show g < _; rw [World.size_alloc]; omega)).keep ((Kept.refl noX W1).alloc (.cells zeroSt.toArray 63))).kept hk2 (fun g _ h => by have h : g = W1.heap.size := h; show _ ∨ _; omega))
  clear HEVx
  have HK2 : Hid (Kept (· = R) w W2) := Lib.hid (by repeat (first | assumption | (with_reducible exact Kept.refl _ _) | (with_reducible refine Kept.alloc ?_ _) | (with_reducible refine Kept.drew ?_) | (with_reducible refine Kept.drewN ?_ _) | (with_reducible refine Kept.setCell ?_ ?_ _) | (with_reducible refine Kept.trans ?_ (by assumption)) | (with_reducible refine Kept.trans ?_ (Kept.any (by assumption))) | (with_reducible refine Kept.own ?_ (by assumption) (by omega)) | (intro hxx; first | rfl | ((try dsimp only at hxx ⊢); omega))))
  refine (HBL.out k1 _ hlk hd2).mono ?_
  intro e W3 hq
  rcases hq.cases with ⟨kx, hr, hm, hk3⟩ | ⟨a3, k3, hr, hret, hd3, hk3⟩
  · unfold Misfit at hm
    subst hm
    have HX := Lib.hid hr
    clear hr
    go_wp2
    exact ⟨rfl, Parsed.err (HS.out.trans (by rw [HX.out]; rfl)) rfl (HK2.out.trans hk3)⟩
  have hlk3 : k1 < k3 := HBM.out _ _ hr
  replace HS := Lib.hid (HS.out.trans (by rw [hr, thn_ok]))
  clear hr hq
  have lb3 := hk3.size
  obtain ⟨v, rfl, hrowv⟩ := hret
  obtain ⟨Av, Nv, Cv, rfl, hff⟩ := hrowv.form
  clear hff
  have HROWv := Lib.hid hrowv
  clear hrowv
  have HB3 := Lib.hid (show Cells W3 W1.heap.size 63 [.int .i64 4, .int .i64 0, .int .i64 0, .string ⟨#[]⟩, .string ⟨#[]⟩, .int .i64 kx, .int .i64 mx, .string sx, .int .i64 slx, .bool lox, .int .i64 ox, .slice Ax Nx Cx, .int .i64 0, .int .i64 0, .string ⟨#[]⟩, .int .i64 0, .bool false, .int .i64 0, .slice none 0 0, .slice none 0 0, .slice none 0 0, .int .i64 0, .int .i64 0, .int .i64 0, .bool false] from (by repeat (first | (with_reducible exact HB2.out) | (with_reducible refine Cells.alloc ?_ _) | (with_reducible refine Cells.drew ?_) | (with_reducible refine Cells.drewN ?_ _) | (with_reducible refine Cells.keep ?_ (by assumption)) | (with_reducible refine Cells.kept ?_ (by assumption) (by omega)) | (with_reducible refine Cells.far ?_ (by dsimp only; omega) _))))
  have HBW := Lib.hid (show Cells W3 w.heap.size 63 zeroSt from (by repeat (first | (with_reducible exact HB.out) | (with_reducible refine Cells.alloc ?_ _) | (with_reducible refine Cells.drew ?_) | (with_reducible refine Cells.drewN ?_ _) | (with_reducible refine Cells.keep ?_ (by assumption)) | (with_reducible refine Cells.kept ?_ (by assumption) (by omega)) | (with_reducible refine Cells.far ?_ (by dsimp only; omega) _))))
  have HK3 := Lib.hid (HK2.out.trans hk3)
  have HX3 := Lib.hid (HX2.out.kept hk3 (fun g _ h => by have h : g = R := h; show _ ∨ _; omega))
  clear HB2
  go_wp2_with (first | ((with_reducible show wpList _ _ _ (Oper.mk none (Op.store _ _ _) _ _ _ _ :: _) _ _); (refine wpList_store_part rfl rfl 52 (.tmp 9) (.tmp 8) rfl (W1.heap.size) 19 rfl [.slice Av Nv Cv] rfl HB3.out (Nat.le_of_ble_eq_true rfl) (by kernel_rfl) (by simp [Value.oneCell']) ?_; intro W4 hB4 hk4; replace hB4 : Cells W4 (W1.heap.size) 63 [.int .i64 4, .int .i64 0, .int .i64 0, .string ⟨#[]⟩, .string ⟨#[]⟩, .int .i64 kx, .int .i64 mx, .string sx, .int .i64 slx, .bool lox, .int .i64 ox, .slice Ax Nx Cx, .int .i64 0, .int .i64 0, .string ⟨#[]⟩, .int .i64 0, .bool false, .int .i64 0, .slice none 0 0, .slice Av Nv Cv, .slice none 0 0, .int .i64 0, .int .i64 0, .int .i64 0, .bool false] := (by simpa using hB4); have HB4 := Lib.hid hB4; clear hB4)))
  have lb4 := hk4.size
  have hd4 : DR W4 R S k3 := (by repeat (first | assumption | (with_reducible refine DR.alloc ?_ _) | (with_reducible refine DR.drewN ?_ _) | (with_reducible refine DR.drew ?_) | (with_reducible refine DR.set ?_ (by first | omega | (simp; omega)) _) | (with_reducible refine DR.kept ?_ (by assumption) (fun g hg => by first | exact hg.elim | ((try dsimp only at hg); omega)))))
  have HBW4 := Lib.hid (HBW.out.kept hk4 (by omega))
  have HK4 := Lib.hid (HK3.out.own hk4 (by omega))
  have HX4 := Lib.hid (HX3.out.kept hk4 (fun g _ h => by have h : g = W1.heap.size := h; show _ ∨ _; omega))
  have HROW4 := Lib.hid (HROWv.out.kept hk4 (fun g _ h => by have h : g = W1.heap.size := h; show g < _; first | omega | (rw [World.size_alloc]; omega)))
  clear HB3 HBW HX3 HROWv HK3
  cases ht5 : takeB S k3 ⟨#[101, 108, 115, 101]⟩ with
  | false =>
    rw [ht5, if_neg Bool.false_ne_true] at HS
    have HT5 := Lib.hid ht5
    clear ht5
    refine (take_any (S := S) (k := k3) (by decide) hd4).mono ?_
    rintro e W5 ⟨rfl, hd5, hk5⟩
    rw [HT5.out] at hd5 ⊢
    replace hd5 : DR W5 R S k3 := hd5
    have lb5 := hk5.size
    go_wp2_with (first | ((with_reducible show wpList _ _ _ (Oper.mk _ (Op.load _ _) _ _ _ _ :: _) _ _); (refine wpList_load_cells rfl 63 (.tmp 3) rfl (W1.heap.size) rfl _ Tryz.underlying63 rfl (HB4.out.kept hk5 (by omega)) (by kernel_rfl) ?_)) | ((with_reducible show wpList _ _ _ (Oper.mk none (Op.store _ _ _) _ _ _ _ :: _) _ _); (refine wpList_store_part rfl rfl 63 (.tmp 2) (.tmp 17) rfl (w.heap.size) 0 rfl [.int .i64 4, .int .i64 0, .int .i64 0, .string ⟨#[]⟩, .string ⟨#[]⟩, .int .i64 kx, .int .i64 mx, .string sx, .int .i64 slx, .bool lox, .int .i64 ox, .slice Ax Nx Cx, .int .i64 0, .int .i64 0, .string ⟨#[]⟩, .int .i64 0, .bool false, .int .i64 0, .slice none 0 0, .slice Av Nv Cv, .slice none 0 0, .int .i64 0, .int .i64 0, .int .i64 0, .bool false] rfl (HBW4.out.kept hk5 (by omega)) (Nat.le_of_ble_eq_true rfl) (by kernel_rfl) (by simp [Value.oneCell']) ?_; intro W6 hB6 hk6; replace hB6 : Cells W6 (w.heap.size) 63 [.int .i64 4, .int .i64 0, .int .i64 0, .string ⟨#[]⟩, .string ⟨#[]⟩, .int .i64 kx, .int .i64 mx, .string sx, .int .i64 slx, .bool lox, .int .i64 ox, .slice Ax Nx Cx, .int .i64 0, .int .i64 0, .string ⟨#[]⟩, .int .i64 0, .bool false, .int .i64 0, .slice none 0 0, .slice Av Nv Cv, .slice none 0 0, .int .i64 0, .int .i64 0, .int .i64 0, .bool false] := (by simpa using hB6); have HB6 := Lib.hid hB6; clear hB6)))
    refine ret_box Tryz.results70 rfl HB6.out Tryz.underlying63 rfl (by kernel_rfl) rfl (Parsed.ok HS.out ⟨_, rfl, ?_⟩ (by repeat (first | assumption | (with_reducible refine DR.alloc ?_ _) | (with_reducible refine DR.drewN ?_ _) | (with_reducible refine DR.drew ?_) | (with_reducible refine DR.set ?_ (by first | omega | (simp; omega)) _) | (with_reducible refine DR.kept ?_ (by assumption) (fun g hg => by first | exact hg.elim | ((try dsimp only at hg); omega))))) ((HK4.out.trans hk5).own hk6 (by omega)))
    exact SV.mk 4 ⟨#[]⟩ ⟨#[]⟩ (((HX4.out.kept hk5 (fun g _ h => by have h : g = R := h; show _ ∨ _; omega)).kept hk6 (fun g _ h => by have h : g = w.heap.size := h; show _ ∨ _; omega)).mono (fun g _ h => by have h : g < w.heap.size := h; show _ ∨ _; omega)) (EV.zero _ _) (((HROW4.out.kept hk5 (fun g _ h => by have h : g = R := h; show g < _; first | omega | (rw [World.size_alloc]; omega))).kept hk6 (fun g _ h => by have h : g = w.heap.size := h; show g < _; first | omega | (rw [World.size_alloc]; omega))).mono (fun g _ h => by have h : g < w.heap.size := h; show g < _; first | omega | (rw [World.size_alloc]; omega))) (RowV.nil _ _)
  | true =>
    rw [ht5, if_pos rfl] at HS
    have HT5 := Lib.hid ht5
    clear ht5
    refine (take_any (S := S) (k := k3) (by decide) hd4).mono ?_
    rintro e W5 ⟨rfl, hd5, hk5⟩
    rw [HT5.out] at hd5 ⊢
    replace hd5 : DR W5 R S (k3 + 1) := hd5
    have lb5 := hk5.size
    have HK5 := Lib.hid (HK4.out.trans hk5)
    go_wp2_with fail
    refine (HBL.out (k3 + 1) _ (by omega) hd5).mono ?_
    intro e W6 hq
    rcases hq.cases with ⟨kx, hr, hm, hk6⟩ | ⟨a6, k6, hr, hret, hd6, hk6⟩
    · unfold Misfit at hm
      subst hm
      have HX := Lib.hid hr
      clear hr
      go_wp2
      exact ⟨rfl, Parsed.err (HS.out.trans (by rw [HX.out]; rfl)) rfl (HK5.out.trans hk6)⟩
    replace HS := Lib.hid (HS.out.trans (by rw [hr, thn_ok]))
    clear hr hq
    have lb6 := hk6.size
    obtain ⟨u, rfl, hrowu⟩ := hret
    obtain ⟨Au, Nu, Cu, rfl, hff⟩ := hrowu.form
    clear hff
    have HROWu := Lib.hid hrowu
    clear hrowu
    have HK6 := Lib.hid (HK5.out.trans hk6)
    have HBA := Lib.hid ((HB4.out.kept hk5 (by omega)).kept hk6 (by omega))
    have HBB := Lib.hid ((HBW4.out.kept hk5 (by omega)).kept hk6 (by omega))
    have HX6 := Lib.hid ((HX4.out.kept hk5 (fun g _ h => by have h : g = R := h; show _ ∨ _; omega)).kept hk6 (fun g _ h => by have h : g = R := h; show _ ∨ _; omega))
    have HROW6 := Lib.hid ((HROW4.out.kept hk5 (fun g _ h => by have h : g = R := h; show g < _; first | omega | (rw [World.size_alloc]; omega))).kept hk6 (fun g _ h => by have h : g = R := h; show g < _; first | omega | (rw [World.size_alloc]; omega)))
    clear HB4 HBW4
    go_wp2_with (first | ((with_reducible show wpList _ _ _ (Oper.mk none (Op.store _ _ _) _ _ _ _ :: _) _ _); (refine wpList_store_part rfl rfl 52 (.tmp 16) (.tmp 15) rfl (W1.heap.size) 20 rfl [.slice Au Nu Cu] rfl HBA.out (Nat.le_of_ble_eq_true rfl) (by kernel_rfl) (by simp [Value.oneCell']) ?_; intro W7 hB7 hk7; replace hB7 : Cells W7 (W1.heap.size) 63 [.int .i64 4, .int .i64 0, .int .i64 0, .string ⟨#[]⟩, .string ⟨#[]⟩, .int .i64 kx, .int .i64 mx, .string sx, .int .i64 slx, .bool lox, .int .i64 ox, .slice Ax Nx Cx, .int .i64 0, .int .i64 0, .string ⟨#[]⟩, .int .i64 0, .bool false, .int .i64 0, .slice none 0 0, .slice Av Nv Cv, .slice Au Nu Cu, .int .i64 0, .int .i64 0, .int .i64 0, .bool false] := (by simpa using hB7); have HB7 := Lib.hid hB7; clear hB7)) | ((with_reducible show wpList _ _ _ (Oper.mk _ (Op.load _ _) _ _ _ _ :: _) _ _); (refine wpList_load_cells rfl 63 (.tmp 3) rfl (W1.heap.size) rfl _ Tryz.underlying63 rfl HB7.out (by kernel_rfl) ?_)) | ((with_reducible show wpList _ _ _ (Oper.mk none (Op.store _ _ _) _ _ _ _ :: _) _ _); (refine wpList_store_part rfl rfl 63 (.tmp 2) (.tmp 17) rfl (w.heap.size) 0 rfl [.int .i64 4, .int .i64 0, .int .i64 0, .string ⟨#[]⟩, .string ⟨#[]⟩, .int .i64 kx, .int .i64 mx, .string sx, .int .i64 slx, .bool lox, .int .i64 ox, .slice Ax Nx Cx, .int .i64 0, .int .i64 0, .string ⟨#[]⟩, .int .i64 0, .bool false, .int .i64 0, .slice none 0 0, .slice Av Nv Cv, .slice Au Nu Cu, .int .i64 0, .int .i64 0, .int .i64 0, .bool false] rfl (HBB.out.kept hk7 (by omega)) (Nat.le_of_ble_eq_true rfl) (by kernel_rfl) (by simp [Value.oneCell']) ?_; intro W8 hB8 hk8; replace hB8 : Cells W8 (w.heap.size) 63 [.int .i64 4, .int .i64 0, .int .i64 0, .string ⟨#[]⟩, .string ⟨#[]⟩, .int .i64 kx, .int .i64 mx, .string sx, .int .i64 slx, .bool lox, .int .i64 ox, .slice Ax Nx Cx, .int .i64 0, .int .i64 0, .string ⟨#[]⟩, .int .i64 0, .bool false, .int .i64 0, .slice none 0 0, .slice Av Nv Cv, .slice Au Nu Cu, .int .i64 0, .int .i64 0, .int .i64 0, .bool false] := (by simpa using hB8); have HB8 := Lib.hid hB8; clear hB8)))
    refine ret_box Tryz.results70 rfl HB8.out Tryz.underlying63 rfl (by kernel_rfl) rfl (Parsed.ok HS.out ⟨_, rfl, ?_⟩ (by repeat (first | assumption | (with_reducible refine DR.alloc ?_ _) | (with_reducible refine DR.drewN ?_ _) | (with_reducible refine DR.drew ?_) | (with_reducible refine DR.set ?_ (by first | omega | (simp; omega)) _) | (with_reducible refine DR.kept ?_ (by assumption) (fun g hg => by first | exact hg.elim | ((try dsimp only at hg); omega))))) ((HK6.out.own hk7 (by omega)).own hk8 (by omega)))
    exact SV.mk 4 ⟨#[]⟩ ⟨#[]⟩ (((HX6.out.kept hk7 (fun g _ h => by have h : g = W1.heap.size := h; show _ ∨ _; omega)).kept hk8 (fun g _ h => by have h : g = w.heap.size := h; show _ ∨ _; omega)).mono (fun g _ h => by have h : g < w.heap.size := h; show _ ∨ _; omega)) (EV.zero _ _) (((HROW6.out.kept hk7 (fun g _ h => by have h : g = W1.heap.size := h; show g < _; first | omega | (rw [World.size_alloc]; omega))).kept hk8 (fun g _ h => by have h : g = w.heap.size := h; show g < _; first | omega | (rw [World.size_alloc]; omega))).mono (fun g _ h => by have h : g < w.heap.size := h; show g < _; first | omega | (rw [World.size_alloc]; omega))) (((HROWu.out.kept hk7 (fun g _ h => by have h : g = W1.heap.size := h; show g < _; first | omega | (rw [World.size_alloc]; omega))).kept hk8 (fun g _ h => by have h : g = w.heap.size := h; show g < _; first | omega | (rw [World.size_alloc]; omega))).mono (fun g _ h => by have h : g < w.heap.size := h; show g < _; first | omega | (rw [World.size_alloc]; omega)))
end
end Go.Proofs.YtjkgepppoopheaaGreatDoor
