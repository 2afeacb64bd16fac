/- The project's readers of statements that are names alone (conditions: at most 1000000 words). -/
import Derived.Test.YtjkgepppoopheaaGreatDoorG8
namespace Go.Proofs.YtjkgepppoopheaaGreatDoor
open Go.RowKit Go.Shelf
section
variable {S : Src} {f R k : Nat} {w : World}

set_option maxRecDepth 100000 in
set_option maxHeartbeats 1000000 in
theorem naming_calls {cb : Nat} {q : Int} (hcb : w.cell? ⟨cb, 0, none⟩ = some (.int .i64 q)) (hcR : cb ≠ R) (h : DR w R S k) : Calls Tryz.prog 130 (#[.pointer (some ⟨R, 0, none⟩)] ++ #[.pointer (some ⟨cb, 0, none⟩)]) w (Parsed w R S retSt (namingS S q k)) := by
  have HS : Hid (namingS S q k = thn (nameS S k) fun s k => thn (wantS S k ⟨#[59]⟩) fun _ k => .ok (mkS q s ⟨#[]⟩ zeroT zeroT [] [], k)) := Lib.hid rfl
  have hRl := h.lt
  have hB := Cells.fresh w 63 zeroSt
  have HB := Lib.hid hB
  have hsz : (w.alloc (.cells zeroSt.toArray 63)).heap.size = w.heap.size + 1 := by simp
  clear hB
  have hcl := block_lt_of hcb
  go_enter Tryz.func130, Tryz.ntmps130
  go_wp2_with fail
  obtain ⟨W0, hW0⟩ : ∃ W0, w.alloc (.cells zeroSt.toArray 63) = W0 := ⟨_, rfl⟩
  rw [hW0] at HB hsz ⊢
  have hk0 : Kept noX w W0 := by rw [← hW0]; exact (Kept.refl _ _).alloc _
  have hd0 := h.keep hk0
  have c0 : W0.cell? ⟨cb, 0, none⟩ = some (.int .i64 q) := by rw [← hcb]; exact World.cell?_of_block (hk0.block _ hcl (fun h => h))
  clear hW0
  have HSZ := Lib.hid hsz
  have hsz' : w.heap.size + 1 ≤ W0.heap.size := by omega
  clear hsz
  refine wp_region_held_drew (S := (fun w' => w'.cell? ⟨cb, 0, none⟩ = some (.int .i64 q))) (by kernel_rfl) c0 (fun hHeld => ?_)
  refine wpAnyH_take (i := 0) (v := ?_) rfl (by kernel_rfl) (by kernel_rfl) (by kernel_rfl) (fun _ _ _ h => h) (Or.inl ⟨by rfl, ?_⟩) (by assumption) ?_
  rotate_left
  · intro wS hSw
    (try dsimp only at hSw)
    go_simp
    (try with_reducible rfl)
  refine wpAnyH_take (i := 1) (v := ?_) rfl (by kernel_rfl) (by kernel_rfl) (by kernel_rfl) (fun _ _ _ h => h) (Or.inl ⟨by rfl, ?_⟩) (by assumption) ?_
  rotate_left
  · intro wS hSw
    (try dsimp only at hSw)
    go_simp
    (try with_reducible rfl)
  refine wpAnyH_take (i := 2) (v := ?_) rfl (by kernel_rfl) (by kernel_rfl) (by kernel_rfl) (fun _ _ _ h => h) (Or.inl ⟨by rfl, ?_⟩) (by assumption) ?_
  rotate_left
  · intro wS hSw
    (try dsimp only at hSw)
    go_simp
    (try with_reducible rfl)
  refine wpAnyH_take (i := 3) (v := ?_) rfl (by kernel_rfl) (by kernel_rfl) (by kernel_rfl) (fun _ _ _ h => h) (Or.inl ⟨by rfl, ?_⟩) (by assumption) ?_
  rotate_left
  · intro wS hSw
    (try dsimp only at hSw)
    go_simp
    (try with_reducible rfl)
  refine wpAnyH_ready (rs := [4, 6]) (by kernel_rfl) (by simp) ?_
  refine (AllReadyH.cons rfl (fun K hK => ?_) (AllReadyH.cons rfl (fun K hK => ?_) AllReadyH.nil))
  · go_simp
    refine (name_calls (S := S) (k := k) (hd0.drew)).mono ?_
    intro e W1 hq
    rcases hq.cases with ⟨kx, hr, hm, hk1⟩ | ⟨a1, k1, hr, hret, hd1, hk1⟩
    · unfold Misfit at hm
      subst hm
      exact ⟨rfl, Parsed.err (HS.out.trans (by rw [hr]; rfl)) rfl ((hk0.any.drew).trans hk1)⟩
    replace HS := Lib.hid (HS.out.trans (by rw [hr, thn_ok]))
    clear hr hq
    have hret : e = _ := hret
    subst hret
    dsimp only
    have c1 : W1.cell? ⟨cb, 0, none⟩ = some (.int .i64 q) := by rw [← c0]; exact World.cell?_of_block (hk1.block cb (by show cb < W0.heap.size; omega) hcR)
    refine hK.out _ _ c1 (fun hHeld => ?_)
    clear hK K
    refine wpAnyH_take (i := 5) (v := ?_) rfl (by kernel_rfl) (by kernel_rfl) (by kernel_rfl) (fun _ _ _ h => h) (Or.inl ⟨by rfl, ?_⟩) (by assumption) ?_
    rotate_left
    · intro wS hSw
      (try dsimp only at hSw)
      go_simp
      (try with_reducible rfl)
    refine wpAnyH_ready (rs := [6]) (by kernel_rfl) (by simp) ?_
    refine (AllReadyH.cons rfl (fun K hK => ?_) AllReadyH.nil)
    go_simp
    have c2 : (W1.alloc (.cells zeroSt.toArray 63)).cell? ⟨cb, 0, none⟩ = some (.int .i64 q) := by rw [← c1]; exact World.cell?_of_block (((Kept.refl noX W1).alloc _).block cb (block_lt_of c1) (fun h => h))
    refine hK.out _ _ c2 (fun hHeld => ?_)
    clear hK K
    refine wpAnyH_ready (rs := [7]) (by kernel_rfl) (by simp) ?_
    refine (AllReadyH.cons rfl (fun K hK => ?_) AllReadyH.nil)
    rw [if_pos (by rfl)]
    refine wp_store_part rfl 63 (.tmp 4) (.tmp 10) rfl W1.heap.size 0 rfl [.int .i64 q, .int .i64 0, .int .i64 0, .string a1, .string ⟨#[]⟩, .int .i64 0, .int .i64 0, .string ⟨#[]⟩, .int .i64 0, .bool false, .int .i64 0, .slice none 0 0, .int .i64 0, .int .i64 0, .string ⟨#[]⟩, .int .i64 0, .bool false, .int .i64 0, .slice none 0 0, .slice none 0 0, .slice none 0 0, .int .i64 0, .int .i64 0, .int .i64 0, .bool false] rfl (Cells.fresh W1 63 zeroSt) (Nat.le_of_ble_eq_true rfl) (by kernel_rfl) (by simp [Value.oneCell']) ?_
    intro W2 hB2 hk2
    replace hB2 : Cells W2 W1.heap.size 63 [.int .i64 q, .int .i64 0, .int .i64 0, .string a1, .string ⟨#[]⟩, .int .i64 0, .int .i64 0, .string ⟨#[]⟩, .int .i64 0, .bool false, .int .i64 0, .slice none 0 0, .int .i64 0, .int .i64 0, .string ⟨#[]⟩, .int .i64 0, .bool false, .int .i64 0, .slice none 0 0, .slice none 0 0, .slice none 0 0, .int .i64 0, .int .i64 0, .int .i64 0, .bool false] := (by simpa using hB2)
    have HB2 := Lib.hid hB2
    clear hB2
    have hcW1 := block_lt_of c1
    have c3 : W2.cell? ⟨cb, 0, none⟩ = some (.int .i64 q) := by rw [← c2]; exact World.cell?_of_block (hk2.block cb (by simp; omega) (by omega))
    refine hK.out _ _ c3 (fun hHeld => ?_)
    clear hK K
    refine wpAnyH_done (by kernel_rfl) ?_ _
    have lb0 : w.heap.size + 1 = W0.heap.size := HSZ.out.symm
    have lb1 : W0.heap.size ≤ W1.heap.size := hk1.size
    have lb2 := hk2.size
    rw [World.size_alloc] at lb2
    go_wp2_with fail
    refine (want_any (S := S) (k := k1) (s := ⟨#[59]⟩) (by decide) (by repeat (first | assumption | (with_reducible refine DR.alloc ?_ _) | (with_reducible refine DR.drewN ?_ _) | (with_reducible refine DR.drew ?_) | (with_reducible refine DR.set ?_ (by first | omega | (simp; omega)) _) | (with_reducible refine DR.kept ?_ (by assumption) (fun g hg => by first | exact hg.elim | ((try dsimp only at hg); omega)))))).mono ?_
    intro e W3 hq
    rcases hq.cases with ⟨kx, hr, hm, hk3⟩ | ⟨a3, k3, hr, hret, hd3, hk3⟩
    · unfold Misfit at hm
      subst hm
      have HX := Lib.hid hr
      clear hr
      go_wp2
      exact ⟨rfl, Parsed.err (HS.out.trans (by rw [HX.out]; rfl)) rfl (by repeat (first | assumption | (with_reducible exact Kept.refl _ _) | (with_reducible refine Kept.alloc ?_ _) | (with_reducible refine Kept.drew ?_) | (with_reducible refine Kept.drewN ?_ _) | (with_reducible refine Kept.setCell ?_ ?_ _) | (with_reducible refine Kept.trans ?_ (by assumption)) | (with_reducible refine Kept.trans ?_ (Kept.any (by assumption))) | (with_reducible refine Kept.own ?_ (by assumption) (by omega)) | (intro hxx; first | rfl | ((try dsimp only at hxx ⊢); omega))))⟩
    replace HS := Lib.hid (HS.out.trans (by rw [hr, thn_ok]))
    clear hr hq
    have hret : e = _ := hret
    subst hret
    have lb3 := hk3.size
    have HB4 := Lib.hid (show Cells W3 W1.heap.size 63 [.int .i64 q, .int .i64 0, .int .i64 0, .string a1, .string ⟨#[]⟩, .int .i64 0, .int .i64 0, .string ⟨#[]⟩, .int .i64 0, .bool false, .int .i64 0, .slice none 0 0, .int .i64 0, .int .i64 0, .string ⟨#[]⟩, .int .i64 0, .bool false, .int .i64 0, .slice none 0 0, .slice none 0 0, .slice none 0 0, .int .i64 0, .int .i64 0, .int .i64 0, .bool false] from (by repeat (first | (with_reducible exact HB2.out) | (with_reducible refine Cells.alloc ?_ _) | (with_reducible refine Cells.drew ?_) | (with_reducible refine Cells.drewN ?_ _) | (with_reducible refine Cells.keep ?_ (by assumption)) | (with_reducible refine Cells.kept ?_ (by assumption) (by omega)) | (with_reducible refine Cells.far ?_ (by dsimp only; omega) _))))
    have HB5 := Lib.hid (show Cells W3 w.heap.size 63 zeroSt from (by repeat (first | (with_reducible exact HB.out) | (with_reducible refine Cells.alloc ?_ _) | (with_reducible refine Cells.drew ?_) | (with_reducible refine Cells.drewN ?_ _) | (with_reducible refine Cells.keep ?_ (by assumption)) | (with_reducible refine Cells.kept ?_ (by assumption) (by omega)) | (with_reducible refine Cells.far ?_ (by dsimp only; omega) _))))
    go_wp2_with (first | ((with_reducible show wpList _ _ _ (Oper.mk _ (Op.load _ _) _ _ _ _ :: _) _ _); (refine wpList_load_cells rfl 63 (.tmp 4) rfl (W1.heap.size) rfl _ Tryz.underlying63 rfl HB4.out (by kernel_rfl) ?_)) | ((with_reducible show wpList _ _ _ (Oper.mk none (Op.store _ _ _) _ _ _ _ :: _) _ _); (refine wpList_store_part rfl rfl 63 (.tmp 3) (.tmp 15) rfl (w.heap.size) 0 rfl [.int .i64 q, .int .i64 0, .int .i64 0, .string a1, .string ⟨#[]⟩, .int .i64 0, .int .i64 0, .string ⟨#[]⟩, .int .i64 0, .bool false, .int .i64 0, .slice none 0 0, .int .i64 0, .int .i64 0, .string ⟨#[]⟩, .int .i64 0, .bool false, .int .i64 0, .slice none 0 0, .slice none 0 0, .slice none 0 0, .int .i64 0, .int .i64 0, .int .i64 0, .bool false] rfl HB5.out (Nat.le_of_ble_eq_true rfl) (by kernel_rfl) (by simp [Value.oneCell']) ?_; intro W4 hB4 hk4; replace hB4 : Cells W4 (w.heap.size) 63 [.int .i64 q, .int .i64 0, .int .i64 0, .string a1, .string ⟨#[]⟩, .int .i64 0, .int .i64 0, .string ⟨#[]⟩, .int .i64 0, .bool false, .int .i64 0, .slice none 0 0, .int .i64 0, .int .i64 0, .string ⟨#[]⟩, .int .i64 0, .bool false, .int .i64 0, .slice none 0 0, .slice none 0 0, .slice none 0 0, .int .i64 0, .int .i64 0, .int .i64 0, .bool false] := (by simpa using hB4); have HB4 := Lib.hid hB4; clear hB4)))
    have hR0 := hRl
    refine ret_box Tryz.results130 rfl HB4.out Tryz.underlying63 rfl (by kernel_rfl) rfl (Parsed.ok HS.out ⟨_, rfl, ?_⟩ (by repeat (first | assumption | (with_reducible refine DR.alloc ?_ _) | (with_reducible refine DR.drewN ?_ _) | (with_reducible refine DR.drew ?_) | (with_reducible refine DR.set ?_ (by first | omega | (simp; omega)) _) | (with_reducible refine DR.kept ?_ (by assumption) (fun g hg => by first | exact hg.elim | ((try dsimp only at hg); omega))))) (by repeat (first | assumption | (with_reducible exact Kept.refl _ _) | (with_reducible refine Kept.alloc ?_ _) | (with_reducible refine Kept.drew ?_) | (with_reducible refine Kept.drewN ?_ _) | (with_reducible refine Kept.setCell ?_ ?_ _) | (with_reducible refine Kept.trans ?_ (by assumption)) | (with_reducible refine Kept.trans ?_ (Kept.any (by assumption))) | (with_reducible refine Kept.own ?_ (by assumption) (by omega)) | (intro hxx; first | rfl | ((try dsimp only at hxx ⊢); omega)))))
    exact SV.mk q a1 ⟨#[]⟩ (EV.zero _ _) (EV.zero _ _) (RowV.nil _ _) (RowV.nil _ _)
  · go_simp
    have c0' : (W0.drew.alloc (.cells zeroSt.toArray 63)).cell? ⟨cb, 0, none⟩ = some (.int .i64 q) := by rw [← c0]; exact World.cell?_of_block (((Kept.refl noX W0).drew.alloc (.cells zeroSt.toArray 63)).block cb (block_lt_of c0) (fun h => h))
    have hB3 := Cells.fresh W0.drew 63 zeroSt
    have HB3 := Lib.hid hB3
    clear hB3
    have hdB := (hd0.drew).alloc (.cells zeroSt.toArray 63)
    have HDB := Lib.hid hdB
    clear hdB
    refine hK.out _ _ c0' (fun hHeld => ?_)
    clear hK K
    refine wpAnyH_ready (rs := [4]) (by kernel_rfl) (by simp) ?_
    refine (AllReadyH.cons rfl (fun K hK => ?_) AllReadyH.nil)
    go_simp
    refine (name_calls (S := S) (k := k) HDB.out).mono ?_
    intro e W1 hq
    rcases hq.cases with ⟨kx, hr, hm, hk1⟩ | ⟨a1, k1, hr, hret, hd1, hk1⟩
    · unfold Misfit at hm
      subst hm
      exact ⟨rfl, Parsed.err (HS.out.trans (by rw [hr]; rfl)) rfl (((hk0.any.drew).alloc _).trans hk1)⟩
    replace HS := Lib.hid (HS.out.trans (by rw [hr, thn_ok]))
    clear hr hq
    have hret : e = _ := hret
    subst hret
    dsimp only
    have c1 : W1.cell? ⟨cb, 0, none⟩ = some (.int .i64 q) := by rw [← c0']; exact World.cell?_of_block (hk1.block cb (block_lt_of c0') hcR)
    refine hK.out _ _ c1 (fun hHeld => ?_)
    clear hK K
    refine wpAnyH_take (i := 5) (v := ?_) rfl (by kernel_rfl) (by kernel_rfl) (by kernel_rfl) (fun _ _ _ h => h) (Or.inl ⟨by rfl, ?_⟩) (by assumption) ?_
    rotate_left
    · intro wS hSw
      (try dsimp only at hSw)
      go_simp
      (try with_reducible rfl)
    refine wpAnyH_ready (rs := [7]) (by kernel_rfl) (by simp) ?_
    refine (AllReadyH.cons rfl (fun K hK => ?_) AllReadyH.nil)
    rw [if_pos (by rfl)]
    refine wp_store_part rfl 63 (.tmp 4) (.tmp 10) rfl W0.heap.size 0 rfl [.int .i64 q, .int .i64 0, .int .i64 0, .string a1, .string ⟨#[]⟩, .int .i64 0, .int .i64 0, .string ⟨#[]⟩, .int .i64 0, .bool false, .int .i64 0, .slice none 0 0, .int .i64 0, .int .i64 0, .string ⟨#[]⟩, .int .i64 0, .bool false, .int .i64 0, .slice none 0 0, .slice none 0 0, .slice none 0 0, .int .i64 0, .int .i64 0, .int .i64 0, .bool false] rfl (HB3.out.kept hk1 (by show W0.heap.size ≠ R; omega)) (Nat.le_of_ble_eq_true rfl) (by kernel_rfl) (by simp [Value.oneCell']) ?_
    intro W2 hB2 hk2
    replace hB2 : Cells W2 W0.heap.size 63 [.int .i64 q, .int .i64 0, .int .i64 0, .string a1, .string ⟨#[]⟩, .int .i64 0, .int .i64 0, .string ⟨#[]⟩, .int .i64 0, .bool false, .int .i64 0, .slice none 0 0, .int .i64 0, .int .i64 0, .string ⟨#[]⟩, .int .i64 0, .bool false, .int .i64 0, .slice none 0 0, .slice none 0 0, .slice none 0 0, .int .i64 0, .int .i64 0, .int .i64 0, .bool false] := (by simpa using hB2)
    have HB2 := Lib.hid hB2
    clear hB2
    have hcW1 := block_lt_of c1
    have c3 : W2.cell? ⟨cb, 0, none⟩ = some (.int .i64 q) := by rw [← c1]; exact World.cell?_of_block (hk2.block cb hcW1 (by omega))
    refine hK.out _ _ c3 (fun hHeld => ?_)
    clear hK K
    refine wpAnyH_done (by kernel_rfl) ?_ _
    have lb0 : w.heap.size + 1 = W0.heap.size := HSZ.out.symm
    have lb1 : W0.heap.size + 1 ≤ W1.heap.size := by have := hk1.size; rw [World.size_alloc] at this; exact this
    have lb2 := hk2.size
    have hk1' : Kept (· = R) W0 W1 := (((Kept.refl _ _).drew).alloc _).trans hk1
    clear hk1
    go_wp2_with fail
    refine (want_any (S := S) (k := k1) (s := ⟨#[59]⟩) (by decide) (by repeat (first | assumption | (with_reducible refine DR.alloc ?_ _) | (with_reducible refine DR.drewN ?_ _) | (with_reducible refine DR.drew ?_) | (with_reducible refine DR.set ?_ (by first | omega | (simp; omega)) _) | (with_reducible refine DR.kept ?_ (by assumption) (fun g hg => by first | exact hg.elim | ((try dsimp only at hg); omega)))))).mono ?_
    intro e W3 hq
    rcases hq.cases with ⟨kx, hr, hm, hk3⟩ | ⟨a3, k3, hr, hret, hd3, hk3⟩
    · unfold Misfit at hm
      subst hm
      have HX := Lib.hid hr
      clear hr
      go_wp2
      exact ⟨rfl, Parsed.err (HS.out.trans (by rw [HX.out]; rfl)) rfl (by repeat (first | assumption | (with_reducible exact Kept.refl _ _) | (with_reducible refine Kept.alloc ?_ _) | (with_reducible refine Kept.drew ?_) | (with_reducible refine Kept.drewN ?_ _) | (with_reducible refine Kept.setCell ?_ ?_ _) | (with_reducible refine Kept.trans ?_ (by assumption)) | (with_reducible refine Kept.trans ?_ (Kept.any (by assumption))) | (with_reducible refine Kept.own ?_ (by assumption) (by omega)) | (intro hxx; first | rfl | ((try dsimp only at hxx ⊢); omega))))⟩
    replace HS := Lib.hid (HS.out.trans (by rw [hr, thn_ok]))
    clear hr hq
    have hret : e = _ := hret
    subst hret
    have lb3 := hk3.size
    have HB4 := Lib.hid (show Cells W3 W0.heap.size 63 [.int .i64 q, .int .i64 0, .int .i64 0, .string a1, .string ⟨#[]⟩, .int .i64 0, .int .i64 0, .string ⟨#[]⟩, .int .i64 0, .bool false, .int .i64 0, .slice none 0 0, .int .i64 0, .int .i64 0, .string ⟨#[]⟩, .int .i64 0, .bool false, .int .i64 0, .slice none 0 0, .slice none 0 0, .slice none 0 0, .int .i64 0, .int .i64 0, .int .i64 0, .bool false] from (by repeat (first | (with_reducible exact HB2.out) | (with_reducible refine Cells.alloc ?_ _) | (with_reducible refine Cells.drew ?_) | (with_reducible refine Cells.drewN ?_ _) | (with_reducible refine Cells.keep ?_ (by assumption)) | (with_reducible refine Cells.kept ?_ (by assumption) (by omega)) | (with_reducible refine Cells.far ?_ (by dsimp only; omega) _))))
    have HB5 := Lib.hid (show Cells W3 w.heap.size 63 zeroSt from (by repeat (first | (with_reducible exact HB.out) | (with_reducible refine Cells.alloc ?_ _) | (with_reducible refine Cells.drew ?_) | (with_reducible refine Cells.drewN ?_ _) | (with_reducible refine Cells.keep ?_ (by assumption)) | (with_reducible refine Cells.kept ?_ (by assumption) (by omega)) | (with_reducible refine Cells.far ?_ (by dsimp only; omega) _))))
    go_wp2_with (first | ((with_reducible show wpList _ _ _ (Oper.mk _ (Op.load _ _) _ _ _ _ :: _) _ _); (refine wpList_load_cells rfl 63 (.tmp 4) rfl (W0.heap.size) rfl _ Tryz.underlying63 rfl HB4.out (by kernel_rfl) ?_)) | ((with_reducible show wpList _ _ _ (Oper.mk none (Op.store _ _ _) _ _ _ _ :: _) _ _); (refine wpList_store_part rfl rfl 63 (.tmp 3) (.tmp 15) rfl (w.heap.size) 0 rfl [.int .i64 q, .int .i64 0, .int .i64 0, .string a1, .string ⟨#[]⟩, .int .i64 0, .int .i64 0, .string ⟨#[]⟩, .int .i64 0, .bool false, .int .i64 0, .slice none 0 0, .int .i64 0, .int .i64 0, .string ⟨#[]⟩, .int .i64 0, .bool false, .int .i64 0, .slice none 0 0, .slice none 0 0, .slice none 0 0, .int .i64 0, .int .i64 0, .int .i64 0, .bool false] rfl HB5.out (Nat.le_of_ble_eq_true rfl) (by kernel_rfl) (by simp [Value.oneCell']) ?_; intro W4 hB4 hk4; replace hB4 : Cells W4 (w.heap.size) 63 [.int .i64 q, .int .i64 0, .int .i64 0, .string a1, .string ⟨#[]⟩, .int .i64 0, .int .i64 0, .string ⟨#[]⟩, .int .i64 0, .bool false, .int .i64 0, .slice none 0 0, .int .i64 0, .int .i64 0, .string ⟨#[]⟩, .int .i64 0, .bool false, .int .i64 0, .slice none 0 0, .slice none 0 0, .slice none 0 0, .int .i64 0, .int .i64 0, .int .i64 0, .bool false] := (by simpa using hB4); have HB4 := Lib.hid hB4; clear hB4)))
    have hR0 := hRl
    refine ret_box Tryz.results130 rfl HB4.out Tryz.underlying63 rfl (by kernel_rfl) rfl (Parsed.ok HS.out ⟨_, rfl, ?_⟩ (by repeat (first | assumption | (with_reducible refine DR.alloc ?_ _) | (with_reducible refine DR.drewN ?_ _) | (with_reducible refine DR.drew ?_) | (with_reducible refine DR.set ?_ (by first | omega | (simp; omega)) _) | (with_reducible refine DR.kept ?_ (by assumption) (fun g hg => by first | exact hg.elim | ((try dsimp only at hg); omega))))) (by repeat (first | assumption | (with_reducible exact Kept.refl _ _) | (with_reducible refine Kept.alloc ?_ _) | (with_reducible refine Kept.drew ?_) | (with_reducible refine Kept.drewN ?_ _) | (with_reducible refine Kept.setCell ?_ ?_ _) | (with_reducible refine Kept.trans ?_ (by assumption)) | (with_reducible refine Kept.trans ?_ (Kept.any (by assumption))) | (with_reducible refine Kept.own ?_ (by assumption) (by omega)) | (intro hxx; first | rfl | ((try dsimp only at hxx ⊢); omega)))))
    exact SV.mk q a1 ⟨#[]⟩ (EV.zero _ _) (EV.zero _ _) (RowV.nil _ _) (RowV.nil _ _)
set_option maxRecDepth 100000 in
set_option maxHeartbeats 1000000 in
theorem namingTwo_calls {cb : Nat} {q : Int} (hcb : w.cell? ⟨cb, 0, none⟩ = some (.int .i64 q)) (hcR : cb ≠ R) (h : DR w R S k) : Calls Tryz.prog 131 (#[.pointer (some ⟨R, 0, none⟩)] ++ #[.pointer (some ⟨cb, 0, none⟩)]) w (Parsed w R S retSt (namingTwoS S q k)) := by
  have HS : Hid (namingTwoS S q k = thn (nameS S k) fun s k => thn (nameS S k) fun t k => thn (wantS S k ⟨#[59]⟩) fun _ k => .ok (mkS q s t zeroT zeroT [] [], k)) := Lib.hid rfl
  have hRl := h.lt
  have hB := Cells.fresh w 63 zeroSt
  have HB := Lib.hid hB
  have hsz : (w.alloc (.cells zeroSt.toArray 63)).heap.size = w.heap.size + 1 := by simp
  clear hB
  have hcl := block_lt_of hcb
  go_enter Tryz.func131, Tryz.ntmps131
  go_wp2_with fail
  obtain ⟨W0, hW0⟩ : ∃ W0, w.alloc (.cells zeroSt.toArray 63) = W0 := ⟨_, rfl⟩
  rw [hW0] at HB hsz ⊢
  have hk0 : Kept noX w W0 := by rw [← hW0]; exact (Kept.refl _ _).alloc _
  have hd0 := h.keep hk0
  have c0 : W0.cell? ⟨cb, 0, none⟩ = some (.int .i64 q) := by rw [← hcb]; exact World.cell?_of_block (hk0.block _ hcl (fun h => h))
  clear hW0
  have HSZ := Lib.hid hsz
  have hsz' : w.heap.size + 1 ≤ W0.heap.size := by omega
  clear hsz
  refine wp_region_held_drew (S := (fun w' => w'.cell? ⟨cb, 0, none⟩ = some (.int .i64 q))) (by kernel_rfl) c0 (fun hHeld => ?_)
  refine wpAnyH_take (i := 0) (v := ?_) rfl (by kernel_rfl) (by kernel_rfl) (by kernel_rfl) (fun _ _ _ h => h) (Or.inl ⟨by rfl, ?_⟩) (by assumption) ?_
  rotate_left
  · intro wS hSw
    (try dsimp only at hSw)
    go_simp
    (try with_reducible rfl)
  refine wpAnyH_take (i := 1) (v := ?_) rfl (by kernel_rfl) (by kernel_rfl) (by kernel_rfl) (fun _ _ _ h => h) (Or.inl ⟨by rfl, ?_⟩) (by assumption) ?_
  rotate_left
  · intro wS hSw
    (try dsimp only at hSw)
    go_simp
    (try with_reducible rfl)
  refine wpAnyH_take (i := 2) (v := ?_) rfl (by kernel_rfl) (by kernel_rfl) (by kernel_rfl) (fun _ _ _ h => h) (Or.inl ⟨by rfl, ?_⟩) (by assumption) ?_
  rotate_left
  · intro wS hSw
    (try dsimp only at hSw)
    go_simp
    (try with_reducible rfl)
  refine wpAnyH_take (i := 3) (v := ?_) rfl (by kernel_rfl) (by kernel_rfl) (by kernel_rfl) (fun _ _ _ h => h) (Or.inl ⟨by rfl, ?_⟩) (by assumption) ?_
  rotate_left
  · intro wS hSw
    (try dsimp only at hSw)
    go_simp
    (try with_reducible rfl)
  refine wpAnyH_ready (rs := [4, 6]) (by kernel_rfl) (by simp) ?_
  refine (AllReadyH.cons rfl (fun K hK => ?_) (AllReadyH.cons rfl (fun K hK => ?_) AllReadyH.nil))
  · go_simp
    refine (name_calls (S := S) (k := k) (hd0.drew)).mono ?_
    intro e W1 hq
    rcases hq.cases with ⟨kx, hr, hm, hk1⟩ | ⟨a1, k1, hr, hret, hd1, hk1⟩
    · unfold Misfit at hm
      subst hm
      exact ⟨rfl, Parsed.err (HS.out.trans (by rw [hr]; rfl)) rfl ((hk0.any.drew).trans hk1)⟩
    replace HS := Lib.hid (HS.out.trans (by rw [hr, thn_ok]))
    clear hr hq
    have hret : e = _ := hret
    subst hret
    dsimp only
    have c1 : W1.cell? ⟨cb, 0, none⟩ = some (.int .i64 q) := by rw [← c0]; exact World.cell?_of_block (hk1.block cb (by show cb < W0.heap.size; omega) hcR)
    refine hK.out _ _ c1 (fun hHeld => ?_)
    clear hK K
    refine wpAnyH_take (i := 5) (v := ?_) rfl (by kernel_rfl) (by kernel_rfl) (by kernel_rfl) (fun _ _ _ h => h) (Or.inl ⟨by rfl, ?_⟩) (by assumption) ?_
    rotate_left
    · intro wS hSw
      (try dsimp only at hSw)
      go_simp
      (try with_reducible rfl)
    refine wpAnyH_ready (rs := [6]) (by kernel_rfl) (by simp) ?_
    refine (AllReadyH.cons rfl (fun K hK => ?_) AllReadyH.nil)
    go_simp
    have c2 : (W1.alloc (.cells zeroSt.toArray 63)).cell? ⟨cb, 0, none⟩ = some (.int .i64 q) := by rw [← c1]; exact World.cell?_of_block (((Kept.refl noX W1).alloc _).block cb (block_lt_of c1) (fun h => h))
    refine hK.out _ _ c2 (fun hHeld => ?_)
    clear hK K
    refine wpAnyH_ready (rs := [7]) (by kernel_rfl) (by simp) ?_
    refine (AllReadyH.cons rfl (fun K hK => ?_) AllReadyH.nil)
    rw [if_pos (by rfl)]
    refine wp_store_part rfl 63 (.tmp 4) (.tmp 10) rfl W1.heap.size 0 rfl [.int .i64 q, .int .i64 0, .int .i64 0, .string a1, .string ⟨#[]⟩, .int .i64 0, .int .i64 0, .string ⟨#[]⟩, .int .i64 0, .bool false, .int .i64 0, .slice none 0 0, .int .i64 0, .int .i64 0, .string ⟨#[]⟩, .int .i64 0, .bool false, .int .i64 0, .slice none 0 0, .slice none 0 0, .slice none 0 0, .int .i64 0, .int .i64 0, .int .i64 0, .bool false] rfl (Cells.fresh W1 63 zeroSt) (Nat.le_of_ble_eq_true rfl) (by kernel_rfl) (by simp [Value.oneCell']) ?_
    intro W2 hB2 hk2
    replace hB2 : Cells W2 W1.heap.size 63 [.int .i64 q, .int .i64 0, .int .i64 0, .string a1, .string ⟨#[]⟩, .int .i64 0, .int .i64 0, .string ⟨#[]⟩, .int .i64 0, .bool false, .int .i64 0, .slice none 0 0, .int .i64 0, .int .i64 0, .string ⟨#[]⟩, .int .i64 0, .bool false, .int .i64 0, .slice none 0 0, .slice none 0 0, .slice none 0 0, .int .i64 0, .int .i64 0, .int .i64 0, .bool false] := (by simpa using hB2)
    have HB2 := Lib.hid hB2
    clear hB2
    have hcW1 := block_lt_of c1
    have c3 : W2.cell? ⟨cb, 0, none⟩ = some (.int .i64 q) := by rw [← c2]; exact World.cell?_of_block (hk2.block cb (by simp; omega) (by omega))
    refine hK.out _ _ c3 (fun hHeld => ?_)
    clear hK K
    refine wpAnyH_done (by kernel_rfl) ?_ _
    have lb0 : w.heap.size + 1 = W0.heap.size := HSZ.out.symm
    have lb1 : W0.heap.size ≤ W1.heap.size := hk1.size
    have lb2 := hk2.size
    rw [World.size_alloc] at lb2
    go_wp2_with fail
    refine (name_calls (S := S) (k := k1) (by repeat (first | assumption | (with_reducible refine DR.alloc ?_ _) | (with_reducible refine DR.drewN ?_ _) | (with_reducible refine DR.drew ?_) | (with_reducible refine DR.set ?_ (by first | omega | (simp; omega)) _) | (with_reducible refine DR.kept ?_ (by assumption) (fun g hg => by first | exact hg.elim | ((try dsimp only at hg); omega)))))).mono ?_
    intro e W5 hq
    rcases hq.cases with ⟨kx, hr, hm, hk5⟩ | ⟨a5, k5, hr, hret, hd5, hk5⟩
    · unfold Misfit at hm
      subst hm
      have HX := Lib.hid hr
      clear hr
      go_wp2
      exact ⟨rfl, Parsed.err (HS.out.trans (by rw [HX.out]; rfl)) rfl (by repeat (first | assumption | (with_reducible exact Kept.refl _ _) | (with_reducible refine Kept.alloc ?_ _) | (with_reducible refine Kept.drew ?_) | (with_reducible refine Kept.drewN ?_ _) | (with_reducible refine Kept.setCell ?_ ?_ _) | (with_reducible refine Kept.trans ?_ (by assumption)) | (with_reducible refine Kept.trans ?_ (Kept.any (by assumption))) | (with_reducible refine Kept.own ?_ (by assumption) (by omega)) | (intro hxx; first | rfl | ((try dsimp only at hxx ⊢); omega))))⟩
    replace HS := Lib.hid (HS.out.trans (by rw [hr, thn_ok]))
    clear hr hq
    have hret : e = _ := hret
    subst hret
    have lb5 := hk5.size
    have HB4 := Lib.hid (show Cells W5 W1.heap.size 63 [.int .i64 q, .int .i64 0, .int .i64 0, .string a1, .string ⟨#[]⟩, .int .i64 0, .int .i64 0, .string ⟨#[]⟩, .int .i64 0, .bool false, .int .i64 0, .slice none 0 0, .int .i64 0, .int .i64 0, .string ⟨#[]⟩, .int .i64 0, .bool false, .int .i64 0, .slice none 0 0, .slice none 0 0, .slice none 0 0, .int .i64 0, .int .i64 0, .int .i64 0, .bool false] from (by repeat (first | (with_reducible exact HB2.out) | (with_reducible refine Cells.alloc ?_ _) | (with_reducible refine Cells.drew ?_) | (with_reducible refine Cells.drewN ?_ _) | (with_reducible refine Cells.keep ?_ (by assumption)) | (with_reducible refine Cells.kept ?_ (by assumption) (by omega)) | (with_reducible refine Cells.far ?_ (by dsimp only; omega) _))))
    go_wp2_with (first | ((with_reducible show wpList _ _ _ (Oper.mk none (Op.store _ _ _) _ _ _ _ :: _) _ _); (refine wpList_store_part rfl rfl 9 (.tmp 15) (.tmp 14) rfl (W1.heap.size) 4 rfl [.string a5] rfl HB4.out (Nat.le_of_ble_eq_true rfl) (by kernel_rfl) (by simp [Value.oneCell']) ?_; intro W6 hB6 hk6; replace hB6 : Cells W6 (W1.heap.size) 63 [.int .i64 q, .int .i64 0, .int .i64 0, .string a1, .string a5, .int .i64 0, .int .i64 0, .string ⟨#[]⟩, .int .i64 0, .bool false, .int .i64 0, .slice none 0 0, .int .i64 0, .int .i64 0, .string ⟨#[]⟩, .int .i64 0, .bool false, .int .i64 0, .slice none 0 0, .slice none 0 0, .slice none 0 0, .int .i64 0, .int .i64 0, .int .i64 0, .bool false] := (by simpa using hB6); have HB6 := Lib.hid hB6; clear hB6)))
    have lb6 := hk6.size
    have hd6 : DR W6 R S k5 := (by repeat (first | assumption | (with_reducible refine DR.alloc ?_ _) | (with_reducible refine DR.drewN ?_ _) | (with_reducible refine DR.drew ?_) | (with_reducible refine DR.set ?_ (by first | omega | (simp; omega)) _) | (with_reducible refine DR.kept ?_ (by assumption) (fun g hg => by first | exact hg.elim | ((try dsimp only at hg); omega)))))
    have HB7 := Lib.hid (show Cells W6 w.heap.size 63 zeroSt from (by repeat (first | (with_reducible exact HB.out) | (with_reducible refine Cells.alloc ?_ _) | (with_reducible refine Cells.drew ?_) | (with_reducible refine Cells.drewN ?_ _) | (with_reducible refine Cells.keep ?_ (by assumption)) | (with_reducible refine Cells.kept ?_ (by assumption) (by omega)) | (with_reducible refine Cells.far ?_ (by dsimp only; omega) _))))
    have HK6 : Hid (Kept (· = R) w W6) := Lib.hid (by repeat (first | assumption | (with_reducible exact Kept.refl _ _) | (with_reducible refine Kept.alloc ?_ _) | (with_reducible refine Kept.drew ?_) | (with_reducible refine Kept.drewN ?_ _) | (with_reducible refine Kept.setCell ?_ ?_ _) | (with_reducible refine Kept.trans ?_ (by assumption)) | (with_reducible refine Kept.trans ?_ (Kept.any (by assumption))) | (with_reducible refine Kept.own ?_ (by assumption) (by omega)) | (intro hxx; first | rfl | ((try dsimp only at hxx ⊢); omega))))
    clear HB4
    refine (want_any (S := S) (k := k5) (s := ⟨#[59]⟩) (by decide) (by repeat (first | assumption | (with_reducible refine DR.alloc ?_ _) | (with_reducible refine DR.drewN ?_ _) | (with_reducible refine DR.drew ?_) | (with_reducible refine DR.set ?_ (by first | omega | (simp; omega)) _) | (with_reducible refine DR.kept ?_ (by assumption) (fun g hg => by first | exact hg.elim | ((try dsimp only at hg); omega)))))).mono ?_
    intro e W3 hq
    rcases hq.cases with ⟨kx, hr, hm, hk3⟩ | ⟨a3, k3, hr, hret, hd3, hk3⟩
    · unfold Misfit at hm
      subst hm
      have HX := Lib.hid hr
      clear hr
      go_wp2
      exact ⟨rfl, Parsed.err (HS.out.trans (by rw [HX.out]; rfl)) rfl (HK6.out.trans hk3)⟩
    replace HS := Lib.hid (HS.out.trans (by rw [hr, thn_ok]))
    clear hr hq
    have hret : e = _ := hret
    subst hret
    have lb3 := hk3.size
    have HB8 := Lib.hid (show Cells W3 W1.heap.size 63 [.int .i64 q, .int .i64 0, .int .i64 0, .string a1, .string a5, .int .i64 0, .int .i64 0, .string ⟨#[]⟩, .int .i64 0, .bool false, .int .i64 0, .slice none 0 0, .int .i64 0, .int .i64 0, .string ⟨#[]⟩, .int .i64 0, .bool false, .int .i64 0, .slice none 0 0, .slice none 0 0, .slice none 0 0, .int .i64 0, .int .i64 0, .int .i64 0, .bool false] from (by repeat (first | (with_reducible exact HB6.out) | (with_reducible refine Cells.alloc ?_ _) | (with_reducible refine Cells.drew ?_) | (with_reducible refine Cells.drewN ?_ _) | (with_reducible refine Cells.keep ?_ (by assumption)) | (with_reducible refine Cells.kept ?_ (by assumption) (by omega)) | (with_reducible refine Cells.far ?_ (by dsimp only; omega) _))))
    have HB9 := Lib.hid (show Cells W3 w.heap.size 63 zeroSt from (by repeat (first | (with_reducible exact HB7.out) | (with_reducible refine Cells.alloc ?_ _) | (with_reducible refine Cells.drew ?_) | (with_reducible refine Cells.drewN ?_ _) | (with_reducible refine Cells.keep ?_ (by assumption)) | (with_reducible refine Cells.kept ?_ (by assumption) (by omega)) | (with_reducible refine Cells.far ?_ (by dsimp only; omega) _))))
    have HK3 : Hid (Kept (· = R) w W3) := Lib.hid (HK6.out.trans hk3)
    go_wp2_with (first | ((with_reducible show wpList _ _ _ (Oper.mk _ (Op.load _ _) _ _ _ _ :: _) _ _); (refine wpList_load_cells rfl 63 (.tmp 4) rfl (W1.heap.size) rfl _ Tryz.underlying63 rfl HB8.out (by kernel_rfl) ?_)) | ((with_reducible show wpList _ _ _ (Oper.mk none (Op.store _ _ _) _ _ _ _ :: _) _ _); (refine wpList_store_part rfl rfl 63 (.tmp 3) (.tmp 20) rfl (w.heap.size) 0 rfl [.int .i64 q, .int .i64 0, .int .i64 0, .string a1, .string a5, .int .i64 0, .int .i64 0, .string ⟨#[]⟩, .int .i64 0, .bool false, .int .i64 0, .slice none 0 0, .int .i64 0, .int .i64 0, .string ⟨#[]⟩, .int .i64 0, .bool false, .int .i64 0, .slice none 0 0, .slice none 0 0, .slice none 0 0, .int .i64 0, .int .i64 0, .int .i64 0, .bool false] rfl HB9.out (Nat.le_of_ble_eq_true rfl) (by kernel_rfl) (by simp [Value.oneCell']) ?_; intro W4 hB4 hk4; replace hB4 : Cells W4 (w.heap.size) 63 [.int .i64 q, .int .i64 0, .int .i64 0, .string a1, .string a5, .int .i64 0, .int .i64 0, .string ⟨#[]⟩, .int .i64 0, .bool false, .int .i64 0, .slice none 0 0, .int .i64 0, .int .i64 0, .string ⟨#[]⟩, .int .i64 0, .bool false, .int .i64 0, .slice none 0 0, .slice none 0 0, .slice none 0 0, .int .i64 0, .int .i64 0, .int .i64 0, .bool false] := (by simpa using hB4); have HB4 := Lib.hid hB4; clear hB4)))
    refine ret_box Tryz.results131 rfl HB4.out Tryz.underlying63 rfl (by kernel_rfl) rfl (Parsed.ok HS.out ⟨_, rfl, ?_⟩ (by repeat (first | assumption | (with_reducible refine DR.alloc ?_ _) | (with_reducible refine DR.drewN ?_ _) | (with_reducible refine DR.drew ?_) | (with_reducible refine DR.set ?_ (by first | omega | (simp; omega)) _) | (with_reducible refine DR.kept ?_ (by assumption) (fun g hg => by first | exact hg.elim | ((try dsimp only at hg); omega))))) (HK3.out.own hk4 (by omega)))
    exact SV.mk q a1 a5 (EV.zero _ _) (EV.zero _ _) (RowV.nil _ _) (RowV.nil _ _)
  · go_simp
    have c0' : (W0.drew.alloc (.cells zeroSt.toArray 63)).cell? ⟨cb, 0, none⟩ = some (.int .i64 q) := by rw [← c0]; exact World.cell?_of_block (((Kept.refl noX W0).drew.alloc (.cells zeroSt.toArray 63)).block cb (block_lt_of c0) (fun h => h))
    have hB3 := Cells.fresh W0.drew 63 zeroSt
    have HB3 := Lib.hid hB3
    clear hB3
    have hdB := (hd0.drew).alloc (.cells zeroSt.toArray 63)
    have HDB := Lib.hid hdB
    clear hdB
    refine hK.out _ _ c0' (fun hHeld => ?_)
    clear hK K
    refine wpAnyH_ready (rs := [4]) (by kernel_rfl) (by simp) ?_
    refine (AllReadyH.cons rfl (fun K hK => ?_) AllReadyH.nil)
    go_simp
    refine (name_calls (S := S) (k := k) HDB.out).mono ?_
    intro e W1 hq
    rcases hq.cases with ⟨kx, hr, hm, hk1⟩ | ⟨a1, k1, hr, hret, hd1, hk1⟩
    · unfold Misfit at hm
      subst hm
      exact ⟨rfl, Parsed.err (HS.out.trans (by rw [hr]; rfl)) rfl (((hk0.any.drew).alloc _).trans hk1)⟩
    replace HS := Lib.hid (HS.out.trans (by rw [hr, thn_ok]))
    clear hr hq
    have hret : e = _ := hret
    subst hret
    dsimp only
    have c1 : W1.cell? ⟨cb, 0, none⟩ = some (.int .i64 q) := by rw [← c0']; exact World.cell?_of_block (hk1.block cb (block_lt_of c0') hcR)
    refine hK.out _ _ c1 (fun hHeld => ?_)
    clear hK K
    refine wpAnyH_take (i := 5) (v := ?_) rfl (by kernel_rfl) (by kernel_rfl) (by kernel_rfl) (fun _ _ _ h => h) (Or.inl ⟨by rfl, ?_⟩) (by assumption) ?_
    rotate_left
    · intro wS hSw
      (try dsimp only at hSw)
      go_simp
      (try with_reducible rfl)
    refine wpAnyH_ready (rs := [7]) (by kernel_rfl) (by simp) ?_
    refine (AllReadyH.cons rfl (fun K hK => ?_) AllReadyH.nil)
    rw [if_pos (by rfl)]
    refine wp_store_part rfl 63 (.tmp 4) (.tmp 10) rfl W0.heap.size 0 rfl [.int .i64 q, .int .i64 0, .int .i64 0, .string a1, .string ⟨#[]⟩, .int .i64 0, .int .i64 0, .string ⟨#[]⟩, .int .i64 0, .bool false, .int .i64 0, .slice none 0 0, .int .i64 0, .int .i64 0, .string ⟨#[]⟩, .int .i64 0, .bool false, .int .i64 0, .slice none 0 0, .slice none 0 0, .slice none 0 0, .int .i64 0, .int .i64 0, .int .i64 0, .bool false] rfl (HB3.out.kept hk1 (by show W0.heap.size ≠ R; omega)) (Nat.le_of_ble_eq_true rfl) (by kernel_rfl) (by simp [Value.oneCell']) ?_
    intro W2 hB2 hk2
    replace hB2 : Cells W2 W0.heap.size 63 [.int .i64 q, .int .i64 0, .int .i64 0, .string a1, .string ⟨#[]⟩, .int .i64 0, .int .i64 0, .string ⟨#[]⟩, .int .i64 0, .bool false, .int .i64 0, .slice none 0 0, .int .i64 0, .int .i64 0, .string ⟨#[]⟩, .int .i64 0, .bool false, .int .i64 0, .slice none 0 0, .slice none 0 0, .slice none 0 0, .int .i64 0, .int .i64 0, .int .i64 0, .bool false] := (by simpa using hB2)
    have HB2 := Lib.hid hB2
    clear hB2
    have hcW1 := block_lt_of c1
    have c3 : W2.cell? ⟨cb, 0, none⟩ = some (.int .i64 q) := by rw [← c1]; exact World.cell?_of_block (hk2.block cb hcW1 (by omega))
    refine hK.out _ _ c3 (fun hHeld => ?_)
    clear hK K
    refine wpAnyH_done (by kernel_rfl) ?_ _
    have lb0 : w.heap.size + 1 = W0.heap.size := HSZ.out.symm
    have lb1 : W0.heap.size + 1 ≤ W1.heap.size := by have := hk1.size; rw [World.size_alloc] at this; exact this
    have lb2 := hk2.size
    have hk1' : Kept (· = R) W0 W1 := (((Kept.refl _ _).drew).alloc _).trans hk1
    clear hk1
    go_wp2_with fail
    refine (name_calls (S := S) (k := k1) (by repeat (first | assumption | (with_reducible refine DR.alloc ?_ _) | (with_reducible refine DR.drewN ?_ _) | (with_reducible refine DR.drew ?_) | (with_reducible refine DR.set ?_ (by first | omega | (simp; omega)) _) | (with_reducible refine DR.kept ?_ (by assumption) (fun g hg => by first | exact hg.elim | ((try dsimp only at hg); omega)))))).mono ?_
    intro e W5 hq
    rcases hq.cases with ⟨kx, hr, hm, hk5⟩ | ⟨a5, k5, hr, hret, hd5, hk5⟩
    · unfold Misfit at hm
      subst hm
      have HX := Lib.hid hr
      clear hr
      go_wp2
      exact ⟨rfl, Parsed.err (HS.out.trans (by rw [HX.out]; rfl)) rfl (by repeat (first | assumption | (with_reducible exact Kept.refl _ _) | (with_reducible refine Kept.alloc ?_ _) | (with_reducible refine Kept.drew ?_) | (with_reducible refine Kept.drewN ?_ _) | (with_reducible refine Kept.setCell ?_ ?_ _) | (with_reducible refine Kept.trans ?_ (by assumption)) | (with_reducible refine Kept.trans ?_ (Kept.any (by assumption))) | (with_reducible refine Kept.own ?_ (by assumption) (by omega)) | (intro hxx; first | rfl | ((try dsimp only at hxx ⊢); omega))))⟩
    replace HS := Lib.hid (HS.out.trans (by rw [hr, thn_ok]))
    clear hr hq
    have hret : e = _ := hret
    subst hret
    have lb5 := hk5.size
    have HB4 := Lib.hid (show Cells W5 W0.heap.size 63 [.int .i64 q, .int .i64 0, .int .i64 0, .string a1, .string ⟨#[]⟩, .int .i64 0, .int .i64 0, .string ⟨#[]⟩, .int .i64 0, .bool false, .int .i64 0, .slice none 0 0, .int .i64 0, .int .i64 0, .string ⟨#[]⟩, .int .i64 0, .bool false, .int .i64 0, .slice none 0 0, .slice none 0 0, .slice none 0 0, .int .i64 0, .int .i64 0, .int .i64 0, .bool false] from (by repeat (first | (with_reducible exact HB2.out) | (with_reducible refine Cells.alloc ?_ _) | (with_reducible refine Cells.drew ?_) | (with_reducible refine Cells.drewN ?_ _) | (with_reducible refine Cells.keep ?_ (by assumption)) | (with_reducible refine Cells.kept ?_ (by assumption) (by omega)) | (with_reducible refine Cells.far ?_ (by dsimp only; omega) _))))
    go_wp2_with (first | ((with_reducible show wpList _ _ _ (Oper.mk none (Op.store _ _ _) _ _ _ _ :: _) _ _); (refine wpList_store_part rfl rfl 9 (.tmp 15) (.tmp 14) rfl (W0.heap.size) 4 rfl [.string a5] rfl HB4.out (Nat.le_of_ble_eq_true rfl) (by kernel_rfl) (by simp [Value.oneCell']) ?_; intro W6 hB6 hk6; replace hB6 : Cells W6 (W0.heap.size) 63 [.int .i64 q, .int .i64 0, .int .i64 0, .string a1, .string a5, .int .i64 0, .int .i64 0, .string ⟨#[]⟩, .int .i64 0, .bool false, .int .i64 0, .slice none 0 0, .int .i64 0, .int .i64 0, .string ⟨#[]⟩, .int .i64 0, .bool false, .int .i64 0, .slice none 0 0, .slice none 0 0, .slice none 0 0, .int .i64 0, .int .i64 0, .int .i64 0, .bool false] := (by simpa using hB6); have HB6 := Lib.hid hB6; clear hB6)))
    have lb6 := hk6.size
    have hd6 : DR W6 R S k5 := (by repeat (first | assumption | (with_reducible refine DR.alloc ?_ _) | (with_reducible refine DR.drewN ?_ _) | (with_reducible refine DR.drew ?_) | (with_reducible refine DR.set ?_ (by first | omega | (simp; omega)) _) | (with_reducible refine DR.kept ?_ (by assumption) (fun g hg => by first | exact hg.elim | ((try dsimp only at hg); omega)))))
    have HB7 := Lib.hid (show Cells W6 w.heap.size 63 zeroSt from (by repeat (first | (with_reducible exact HB.out) | (with_reducible refine Cells.alloc ?_ _) | (with_reducible refine Cells.drew ?_) | (with_reducible refine Cells.drewN ?_ _) | (with_reducible refine Cells.keep ?_ (by assumption)) | (with_reducible refine Cells.kept ?_ (by assumption) (by omega)) | (with_reducible refine Cells.far ?_ (by dsimp only; omega) _))))
    have HK6 : Hid (Kept (· = R) w W6) := Lib.hid (by repeat (first | assumption | (with_reducible exact Kept.refl _ _) | (with_reducible refine Kept.alloc ?_ _) | (with_reducible refine Kept.drew ?_) | (with_reducible refine Kept.drewN ?_ _) | (with_reducible refine Kept.setCell ?_ ?_ _) | (with_reducible refine Kept.trans ?_ (by assumption)) | (with_reducible refine Kept.trans ?_ (Kept.any (by assumption))) | (with_reducible refine Kept.own ?_ (by assumption) (by omega)) | (intro hxx; first | rfl | ((try dsimp only at hxx ⊢); omega))))
    clear HB4
    refine (want_any (S := S) (k := k5) (s := ⟨#[59]⟩) (by decide) (by repeat (first | assumption | (with_reducible refine DR.alloc ?_ _) | (with_reducible refine DR.drewN ?_ _) | (with_reducible refine DR.drew ?_) | (with_reducible refine DR.set ?_ (by first | omega | (simp; omega)) _) | (with_reducible refine DR.kept ?_ (by assumption) (fun g hg => by first | exact hg.elim | ((try dsimp only at hg); omega)))))).mono ?_
    intro e W3 hq
    rcases hq.cases with ⟨kx, hr, hm, hk3⟩ | ⟨a3, k3, hr, hret, hd3, hk3⟩
    · unfold Misfit at hm
      subst hm
      have HX := Lib.hid hr
      clear hr
      go_wp2
      exact ⟨rfl, Parsed.err (HS.out.trans (by rw [HX.out]; rfl)) rfl (HK6.out.trans hk3)⟩
    replace HS := Lib.hid (HS.out.trans (by rw [hr, thn_ok]))
    clear hr hq
    have hret : e = _ := hret
    subst hret
    have lb3 := hk3.size
    have HB8 := Lib.hid (show Cells W3 W0.heap.size 63 [.int .i64 q, .int .i64 0, .int .i64 0, .string a1, .string a5, .int .i64 0, .int .i64 0, .string ⟨#[]⟩, .int .i64 0, .bool false, .int .i64 0, .slice none 0 0, .int .i64 0, .int .i64 0, .string ⟨#[]⟩, .int .i64 0, .bool false, .int .i64 0, .slice none 0 0, .slice none 0 0, .slice none 0 0, .int .i64 0, .int .i64 0, .int .i64 0, .bool false] from (by repeat (first | (with_reducible exact HB6.out) | (with_reducible refine Cells.alloc ?_ _) | (with_reducible refine Cells.drew ?_) | (with_reducible refine Cells.drewN ?_ _) | (with_reducible refine Cells.keep ?_ (by assumption)) | (with_reducible refine Cells.kept ?_ (by assumption) (by omega)) | (with_reducible refine Cells.far ?_ (by dsimp only; omega) _))))
    have HB9 := Lib.hid (show Cells W3 w.heap.size 63 zeroSt from (by repeat (first | (with_reducible exact HB7.out) | (with_reducible refine Cells.alloc ?_ _) | (with_reducible refine Cells.drew ?_) | (with_reducible refine Cells.drewN ?_ _) | (with_reducible refine Cells.keep ?_ (by assumption)) | (with_reducible refine Cells.kept ?_ (by assumption) (by omega)) | (with_reducible refine Cells.far ?_ (by dsimp only; omega) _))))
    have HK3 : Hid (Kept (· = R) w W3) := Lib.hid (HK6.out.trans hk3)
    go_wp2_with (first | ((with_reducible show wpList _ _ _ (Oper.mk _ (Op.load _ _) _ _ _ _ :: _) _ _); (refine wpList_load_cells rfl 63 (.tmp 4) rfl (W0.heap.size) rfl _ Tryz.underlying63 rfl HB8.out (by kernel_rfl) ?_)) | ((with_reducible show wpList _ _ _ (Oper.mk none (Op.store _ _ _) _ _ _ _ :: _) _ _); (refine wpList_store_part rfl rfl 63 (.tmp 3) (.tmp 20) rfl (w.heap.size) 0 rfl [.int .i64 q, .int .i64 0, .int .i64 0, .string a1, .string a5, .int .i64 0, .int .i64 0, .string ⟨#[]⟩, .int .i64 0, .bool false, .int .i64 0, .slice none 0 0, .int .i64 0, .int .i64 0, .string ⟨#[]⟩, .int .i64 0, .bool false, .int .i64 0, .slice none 0 0, .slice none 0 0, .slice none 0 0, .int .i64 0, .int .i64 0, .int .i64 0, .bool false] rfl HB9.out (Nat.le_of_ble_eq_true rfl) (by kernel_rfl) (by simp [Value.oneCell']) ?_; intro W4 hB4 hk4; replace hB4 : Cells W4 (w.heap.size) 63 [.int .i64 q, .int .i64 0, .int .i64 0, .string a1, .string a5, .int .i64 0, .int .i64 0, .string ⟨#[]⟩, .int .i64 0, .bool false, .int .i64 0, .slice none 0 0, .int .i64 0, .int .i64 0, .string ⟨#[]⟩, .int .i64 0, .bool false, .int .i64 0, .slice none 0 0, .slice none 0 0, .slice none 0 0, .int .i64 0, .int .i64 0, .int .i64 0, .bool false] := (by simpa using hB4); have HB4 := Lib.hid hB4; clear hB4)))
    refine ret_box Tryz.results131 rfl HB4.out Tryz.underlying63 rfl (by kernel_rfl) rfl (Parsed.ok HS.out ⟨_, rfl, ?_⟩ (by repeat (first | assumption | (with_reducible refine DR.alloc ?_ _) | (with_reducible refine DR.drewN ?_ _) | (with_reducible refine DR.drew ?_) | (with_reducible refine DR.set ?_ (by first | omega | (simp; omega)) _) | (with_reducible refine DR.kept ?_ (by assumption) (fun g hg => by first | exact hg.elim | ((try dsimp only at hg); omega))))) (HK3.out.own hk4 (by omega)))
    exact SV.mk q a1 a5 (EV.zero _ _) (EV.zero _ _) (RowV.nil _ _) (RowV.nil _ _)
end
end Go.Proofs.YtjkgepppoopheaaGreatDoor
