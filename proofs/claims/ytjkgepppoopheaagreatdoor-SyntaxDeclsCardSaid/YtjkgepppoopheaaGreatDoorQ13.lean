/- The project's readers of assignments and of statements with blocks (conditions: at most 1000000 words; the table of operators stands). -/
import Derived.Test.YtjkgepppoopheaaGreatDoorAbb
import Derived.Test.YtjkgepppoopheaaGreatDoorQ6
set_option maxRecDepth 100000
set_option maxHeartbeats 1000000
namespace Go.Proofs.YtjkgepppoopheaaGreatDoor
open Go.RowKit Go.Shelf
section
variable {S : Src} {f R k : Nat} {w : World}
theorem naming_calls {cb : Nat} {q : Int} (hcb : w.cell? ⟨cb, 0, none⟩ = some (.int .i64 q)) (hcR : cb ≠ R) (h : DR w R S k) : Calls Tryz.prog 130 (#[.pointer (some ⟨R, 0, none⟩)] ++ #[.pointer (some ⟨cb, 0, none⟩)]) w (Parsed w R S retSt (namingS S q k)) := by
 have HS : Hid (namingS S q k = thn (nameS S k) fun s k => thn (wantS S k ⟨#[59]⟩) fun _ k => .ok (mkS q s ⟨#[]⟩ zeroT zeroT [] [], k)) := aP rfl
 have hRl := h.lt
 have hB := Cells.fresh w 63 zeroSt
 have HB := aP hB
 have hsz : (w.alloc (.cells zeroSt.toArray 63)).heap.size = w.heap.size + 1 := by simp
 clear hB
 have hcl := block_lt_of hcb
 go_enter Tryz.func130, Tryz.ntmps130
 go_wp2_with fail
 obtain ⟨W0, hW0⟩ : ∃ W0, w.alloc (.cells zeroSt.toArray 63) = W0 := ⟨_, rfl⟩
 rw [hW0] at HB hsz ⊢
 have hk0 : Kept noX w W0 := by rw [← hW0]; exact (Kept.refl _ _).alloc _
 have hd0 := h.keep hk0
 have c0 : W0.cell? ⟨cb, 0, none⟩ = some (.int .i64 q) := by rw [← hcb]; exact World.cell?_of_block (hk0.block _ hcl (fun h => h))
 clear hW0
 have HSZ := aP hsz
 have hsz' : w.heap.size + 1 ≤ W0.heap.size := by omega
 clear hsz
 refine wp_region_held_drew (S := (fun w' => w'.cell? ⟨cb, 0, none⟩ = some (.int .i64 q))) krf c0 (fun hHeld => ?_)
 refine wpAnyH_take (i := 0) (v := ?_) rfl krf krf krf (fun _ _ _ h => h) (Or.inl ⟨by rfl, ?_⟩) (by assumption) ?_
 rotate_left
 ·intro wS hSw
  (try dsimp only at hSw)
  go_simp
  (try with_reducible rfl)
 refine wpAnyH_take (i := 1) (v := ?_) rfl krf krf krf (fun _ _ _ h => h) (Or.inl ⟨by rfl, ?_⟩) (by assumption) ?_
 rotate_left
 ·intro wS hSw
  (try dsimp only at hSw)
  go_simp
  (try with_reducible rfl)
 refine wpAnyH_take (i := 2) (v := ?_) rfl krf krf krf (fun _ _ _ h => h) (Or.inl ⟨by rfl, ?_⟩) (by assumption) ?_
 rotate_left
 ·intro wS hSw
  (try dsimp only at hSw)
  go_simp
  (try with_reducible rfl)
 refine wpAnyH_take (i := 3) (v := ?_) rfl krf krf krf (fun _ _ _ h => h) (Or.inl ⟨by rfl, ?_⟩) (by assumption) ?_
 rotate_left
 ·intro wS hSw
  (try dsimp only at hSw)
  go_simp
  (try with_reducible rfl)
 refine wpAnyH_ready (rs := [4, 6]) krf (by simp) ?_
 refine (AllReadyH.cons rfl (fun K hK => ?_) (AllReadyH.cons rfl (fun K hK => ?_) AllReadyH.nil))
 ·go_simp
  refine (name_calls (S := S) (k := k) (hd0.drew)).mono ?_
  intro e W1 hq
  rcases hq.cases with ⟨kx, hr, hm, hk1⟩ | ⟨a1, k1, hr, hret, hd1, hk1⟩
  ·exact k_27
  replace HS := aP (HS.out.trans (by rw [hr, thn_ok]))
  clear hr hq
  have hret : e = _ := hret
  subst hret
  dsimp only
  have c1 : W1.cell? ⟨cb, 0, none⟩ = some (.int .i64 q) := by rw [← c0]; exact World.cell?_of_block (hk1.block cb (by show cb < W0.heap.size; omega) hcR)
  refine hK.out _ _ c1 (fun hHeld => ?_)
  clear hK K
  refine wpAnyH_take (i := 5) (v := ?_) rfl krf krf krf (fun _ _ _ h => h) (Or.inl ⟨by rfl, ?_⟩) (by assumption) ?_
  rotate_left
  ·intro wS hSw
   (try dsimp only at hSw)
   go_simp
   (try with_reducible rfl)
  refine wpAnyH_ready (rs := [6]) krf (by simp) ?_
  refine (AllReadyH.cons rfl (fun K hK => ?_) AllReadyH.nil)
  go_simp
  have c2 : (W1.alloc (.cells zeroSt.toArray 63)).cell? ⟨cb, 0, none⟩ = some (.int .i64 q) := by rw [← c1]; exact World.cell?_of_block (((Kept.refl noX W1).alloc _).block cb (block_lt_of c1) (fun h => h))
  refine hK.out _ _ c2 (fun hHeld => ?_)
  clear hK K
  refine wpAnyH_ready (rs := [7]) krf (by simp) ?_
  refine (AllReadyH.cons rfl (fun K hK => ?_) AllReadyH.nil)
  rw [if_pos (by rfl)]
  refine wp_store_part rfl 63 (.tmp 4) (.tmp 10) rfl W1.heap.size 0 rfl [.int .i64 q, .int .i64 0, .int .i64 0, .string a1, .string ⟨#[]⟩, .int .i64 0, .int .i64 0, .string ⟨#[]⟩, .int .i64 0, .bool false, .int .i64 0, .slice none 0 0, .int .i64 0, .int .i64 0, .string ⟨#[]⟩, .int .i64 0, .bool false, .int .i64 0, .slice none 0 0, .slice none 0 0, .slice none 0 0, .int .i64 0, .int .i64 0, .int .i64 0, .bool false] rfl (Cells.fresh W1 63 zeroSt) kle krf k1c ?_
  intro W2 hB2 hk2
  replace hB2 : Cells W2 W1.heap.size 63 [.int .i64 q, .int .i64 0, .int .i64 0, .string a1, .string ⟨#[]⟩, .int .i64 0, .int .i64 0, .string ⟨#[]⟩, .int .i64 0, .bool false, .int .i64 0, .slice none 0 0, .int .i64 0, .int .i64 0, .string ⟨#[]⟩, .int .i64 0, .bool false, .int .i64 0, .slice none 0 0, .slice none 0 0, .slice none 0 0, .int .i64 0, .int .i64 0, .int .i64 0, .bool false] := (by simpa using hB2)
  have HB2 := aP hB2
  clear hB2
  have hcW1 := block_lt_of c1
  have c3 : W2.cell? ⟨cb, 0, none⟩ = some (.int .i64 q) := by rw [← c2]; exact World.cell?_of_block (hk2.block cb (by simp; omega) kom)
  refine hK.out _ _ c3 (fun hHeld => ?_)
  clear hK K
  refine wpAnyH_done krf ?_ _
  have lb0 : w.heap.size + 1 = W0.heap.size := HSZ.out.symm
  have lb1 : W0.heap.size ≤ W1.heap.size := hk1.size
  have lb2 := hk2.size
  rw [World.size_alloc] at lb2
  go_wp2_with fail
  refine (want_any (S := S) (k := k1) (s := ⟨#[59]⟩) (by decide) kdr).mono ?_
  intro e W3 hq
  rcases hq.cases with ⟨kx, hr, hm, hk3⟩ | ⟨a3, k3, hr, hret, hd3, hk3⟩
  ·exact k_3
  replace HS := aP (HS.out.trans (by rw [hr, thn_ok]))
  clear hr hq
  have hret : e = _ := hret
  subst hret
  have lb3 := hk3.size
  have HB4 := aP (show Cells W3 W1.heap.size 63 [.int .i64 q, .int .i64 0, .int .i64 0, .string a1, .string ⟨#[]⟩, .int .i64 0, .int .i64 0, .string ⟨#[]⟩, .int .i64 0, .bool false, .int .i64 0, .slice none 0 0, .int .i64 0, .int .i64 0, .string ⟨#[]⟩, .int .i64 0, .bool false, .int .i64 0, .slice none 0 0, .slice none 0 0, .slice none 0 0, .int .i64 0, .int .i64 0, .int .i64 0, .bool false] from (have q := HB2.out; kcl))
  have HB5 := aP (show Cells W3 w.heap.size 63 zeroSt from (have q := HB.out; kcl))
  go_wp2_with (first | ((with_reducible refine atl ?_); (refine wpList_load_cells rfl 63 (.tmp 4) rfl (W1.heap.size) rfl _ Tryz.underlying63 rfl HB4.out krf ?_)) | ((with_reducible refine ats ?_); (refine wpList_store_all rfl rfl 63 (.tmp 3) (.tmp 15) rfl (w.heap.size) rfl [.int .i64 q, .int .i64 0, .int .i64 0, .string a1, .string ⟨#[]⟩, .int .i64 0, .int .i64 0, .string ⟨#[]⟩, .int .i64 0, .bool false, .int .i64 0, .slice none 0 0, .int .i64 0, .int .i64 0, .string ⟨#[]⟩, .int .i64 0, .bool false, .int .i64 0, .slice none 0 0, .slice none 0 0, .slice none 0 0, .int .i64 0, .int .i64 0, .int .i64 0, .bool false] rfl HB5.out (by rfl) krf k1c ?_; intro W4 hB4 hk4; have HB4 := aP hB4; clear hB4)))
  have hR0 := hRl
  refine ret_box Tryz.results130 rfl HB4.out Tryz.underlying63 rfl krf rfl (Parsed.ok HS.out ⟨_, rfl, ?_⟩ kdr kp)
  exact SV.mk q a1 ⟨#[]⟩ (EV.zero _ _) (EV.zero _ _) (RowV.nil _ _) (RowV.nil _ _)
 ·go_simp
  have c0' : (W0.drew.alloc (.cells zeroSt.toArray 63)).cell? ⟨cb, 0, none⟩ = some (.int .i64 q) := by rw [← c0]; exact World.cell?_of_block (((Kept.refl noX W0).drew.alloc (.cells zeroSt.toArray 63)).block cb (block_lt_of c0) (fun h => h))
  have hB3 := Cells.fresh W0.drew 63 zeroSt
  have HB3 := aP hB3
  clear hB3
  have hdB := (hd0.drew).alloc (.cells zeroSt.toArray 63)
  have HDB := aP hdB
  clear hdB
  refine hK.out _ _ c0' (fun hHeld => ?_)
  clear hK K
  refine wpAnyH_ready (rs := [4]) krf (by simp) ?_
  refine (AllReadyH.cons rfl (fun K hK => ?_) AllReadyH.nil)
  go_simp
  refine (name_calls (S := S) (k := k) HDB.out).mono ?_
  intro e W1 hq
  rcases hq.cases with ⟨kx, hr, hm, hk1⟩ | ⟨a1, k1, hr, hret, hd1, hk1⟩
  ·exact k_24
  replace HS := aP (HS.out.trans (by rw [hr, thn_ok]))
  clear hr hq
  have hret : e = _ := hret
  subst hret
  dsimp only
  have c1 : W1.cell? ⟨cb, 0, none⟩ = some (.int .i64 q) := by rw [← c0']; exact World.cell?_of_block (hk1.block cb (block_lt_of c0') hcR)
  refine hK.out _ _ c1 (fun hHeld => ?_)
  clear hK K
  refine wpAnyH_take (i := 5) (v := ?_) rfl krf krf krf (fun _ _ _ h => h) (Or.inl ⟨by rfl, ?_⟩) (by assumption) ?_
  rotate_left
  ·intro wS hSw
   (try dsimp only at hSw)
   go_simp
   (try with_reducible rfl)
  refine wpAnyH_ready (rs := [7]) krf (by simp) ?_
  refine (AllReadyH.cons rfl (fun K hK => ?_) AllReadyH.nil)
  rw [if_pos (by rfl)]
  refine wp_store_part rfl 63 (.tmp 4) (.tmp 10) rfl W0.heap.size 0 rfl [.int .i64 q, .int .i64 0, .int .i64 0, .string a1, .string ⟨#[]⟩, .int .i64 0, .int .i64 0, .string ⟨#[]⟩, .int .i64 0, .bool false, .int .i64 0, .slice none 0 0, .int .i64 0, .int .i64 0, .string ⟨#[]⟩, .int .i64 0, .bool false, .int .i64 0, .slice none 0 0, .slice none 0 0, .slice none 0 0, .int .i64 0, .int .i64 0, .int .i64 0, .bool false] rfl (HB3.out.kept hk1 (by show W0.heap.size ≠ R; omega)) kle krf k1c ?_
  intro W2 hB2 hk2
  replace hB2 : Cells W2 W0.heap.size 63 [.int .i64 q, .int .i64 0, .int .i64 0, .string a1, .string ⟨#[]⟩, .int .i64 0, .int .i64 0, .string ⟨#[]⟩, .int .i64 0, .bool false, .int .i64 0, .slice none 0 0, .int .i64 0, .int .i64 0, .string ⟨#[]⟩, .int .i64 0, .bool false, .int .i64 0, .slice none 0 0, .slice none 0 0, .slice none 0 0, .int .i64 0, .int .i64 0, .int .i64 0, .bool false] := (by simpa using hB2)
  have HB2 := aP hB2
  clear hB2
  have hcW1 := block_lt_of c1
  have c3 : W2.cell? ⟨cb, 0, none⟩ = some (.int .i64 q) := by rw [← c1]; exact World.cell?_of_block (hk2.block cb hcW1 kom)
  refine hK.out _ _ c3 (fun hHeld => ?_)
  clear hK K
  refine wpAnyH_done krf ?_ _
  have lb0 : w.heap.size + 1 = W0.heap.size := HSZ.out.symm
  have lb1 : W0.heap.size + 1 ≤ W1.heap.size := by have := hk1.size; rw [World.size_alloc] at this; exact this
  have lb2 := hk2.size
  have hk1' : Kept (· = R) W0 W1 := (((Kept.refl _ _).drew).alloc _).trans hk1
  clear hk1
  go_wp2_with fail
  refine (want_any (S := S) (k := k1) (s := ⟨#[59]⟩) (by decide) kdr).mono ?_
  intro e W3 hq
  rcases hq.cases with ⟨kx, hr, hm, hk3⟩ | ⟨a3, k3, hr, hret, hd3, hk3⟩
  ·exact k_3
  replace HS := aP (HS.out.trans (by rw [hr, thn_ok]))
  clear hr hq
  have hret : e = _ := hret
  subst hret
  have lb3 := hk3.size
  have HB4 := aP (show Cells W3 W0.heap.size 63 [.int .i64 q, .int .i64 0, .int .i64 0, .string a1, .string ⟨#[]⟩, .int .i64 0, .int .i64 0, .string ⟨#[]⟩, .int .i64 0, .bool false, .int .i64 0, .slice none 0 0, .int .i64 0, .int .i64 0, .string ⟨#[]⟩, .int .i64 0, .bool false, .int .i64 0, .slice none 0 0, .slice none 0 0, .slice none 0 0, .int .i64 0, .int .i64 0, .int .i64 0, .bool false] from (have q := HB2.out; kcl))
  have HB5 := aP (show Cells W3 w.heap.size 63 zeroSt from (have q := HB.out; kcl))
  go_wp2_with (first | ((with_reducible refine atl ?_); (refine wpList_load_cells rfl 63 (.tmp 4) rfl (W0.heap.size) rfl _ Tryz.underlying63 rfl HB4.out krf ?_)) | ((with_reducible refine ats ?_); (refine wpList_store_all rfl rfl 63 (.tmp 3) (.tmp 15) rfl (w.heap.size) rfl [.int .i64 q, .int .i64 0, .int .i64 0, .string a1, .string ⟨#[]⟩, .int .i64 0, .int .i64 0, .string ⟨#[]⟩, .int .i64 0, .bool false, .int .i64 0, .slice none 0 0, .int .i64 0, .int .i64 0, .string ⟨#[]⟩, .int .i64 0, .bool false, .int .i64 0, .slice none 0 0, .slice none 0 0, .slice none 0 0, .int .i64 0, .int .i64 0, .int .i64 0, .bool false] rfl HB5.out (by rfl) krf k1c ?_; intro W4 hB4 hk4; have HB4 := aP hB4; clear hB4)))
  have hR0 := hRl
  refine ret_box Tryz.results130 rfl HB4.out Tryz.underlying63 rfl krf rfl (Parsed.ok HS.out ⟨_, rfl, ?_⟩ kdr kp)
  exact SV.mk q a1 ⟨#[]⟩ (EV.zero _ _) (EV.zero _ _) (RowV.nil _ _) (RowV.nil _ _)
theorem namingTwo_calls {cb : Nat} {q : Int} (hcb : w.cell? ⟨cb, 0, none⟩ = some (.int .i64 q)) (hcR : cb ≠ R) (h : DR w R S k) : Calls Tryz.prog 131 (#[.pointer (some ⟨R, 0, none⟩)] ++ #[.pointer (some ⟨cb, 0, none⟩)]) w (Parsed w R S retSt (namingTwoS S q k)) := by
 have HS : Hid (namingTwoS S q k = thn (nameS S k) fun s k => thn (nameS S k) fun t k => thn (wantS S k ⟨#[59]⟩) fun _ k => .ok (mkS q s t zeroT zeroT [] [], k)) := aP rfl
 have hRl := h.lt
 have hB := Cells.fresh w 63 zeroSt
 have HB := aP hB
 have hsz : (w.alloc (.cells zeroSt.toArray 63)).heap.size = w.heap.size + 1 := by simp
 clear hB
 have hcl := block_lt_of hcb
 go_enter Tryz.func131, Tryz.ntmps131
 go_wp2_with fail
 obtain ⟨W0, hW0⟩ : ∃ W0, w.alloc (.cells zeroSt.toArray 63) = W0 := ⟨_, rfl⟩
 rw [hW0] at HB hsz ⊢
 have hk0 : Kept noX w W0 := by rw [← hW0]; exact (Kept.refl _ _).alloc _
 have hd0 := h.keep hk0
 have c0 : W0.cell? ⟨cb, 0, none⟩ = some (.int .i64 q) := by rw [← hcb]; exact World.cell?_of_block (hk0.block _ hcl (fun h => h))
 clear hW0
 have HSZ := aP hsz
 have hsz' : w.heap.size + 1 ≤ W0.heap.size := by omega
 clear hsz
 refine wp_region_held_drew (S := (fun w' => w'.cell? ⟨cb, 0, none⟩ = some (.int .i64 q))) krf c0 (fun hHeld => ?_)
 refine wpAnyH_take (i := 0) (v := ?_) rfl krf krf krf (fun _ _ _ h => h) (Or.inl ⟨by rfl, ?_⟩) (by assumption) ?_
 rotate_left
 ·intro wS hSw
  (try dsimp only at hSw)
  go_simp
  (try with_reducible rfl)
 refine wpAnyH_take (i := 1) (v := ?_) rfl krf krf krf (fun _ _ _ h => h) (Or.inl ⟨by rfl, ?_⟩) (by assumption) ?_
 rotate_left
 ·intro wS hSw
  (try dsimp only at hSw)
  go_simp
  (try with_reducible rfl)
 refine wpAnyH_take (i := 2) (v := ?_) rfl krf krf krf (fun _ _ _ h => h) (Or.inl ⟨by rfl, ?_⟩) (by assumption) ?_
 rotate_left
 ·intro wS hSw
  (try dsimp only at hSw)
  go_simp
  (try with_reducible rfl)
 refine wpAnyH_take (i := 3) (v := ?_) rfl krf krf krf (fun _ _ _ h => h) (Or.inl ⟨by rfl, ?_⟩) (by assumption) ?_
 rotate_left
 ·intro wS hSw
  (try dsimp only at hSw)
  go_simp
  (try with_reducible rfl)
 refine wpAnyH_ready (rs := [4, 6]) krf (by simp) ?_
 refine (AllReadyH.cons rfl (fun K hK => ?_) (AllReadyH.cons rfl (fun K hK => ?_) AllReadyH.nil))
 ·go_simp
  refine (name_calls (S := S) (k := k) (hd0.drew)).mono ?_
  intro e W1 hq
  rcases hq.cases with ⟨kx, hr, hm, hk1⟩ | ⟨a1, k1, hr, hret, hd1, hk1⟩
  ·exact k_27
  replace HS := aP (HS.out.trans (by rw [hr, thn_ok]))
  clear hr hq
  have hret : e = _ := hret
  subst hret
  dsimp only
  have c1 : W1.cell? ⟨cb, 0, none⟩ = some (.int .i64 q) := by rw [← c0]; exact World.cell?_of_block (hk1.block cb (by show cb < W0.heap.size; omega) hcR)
  refine hK.out _ _ c1 (fun hHeld => ?_)
  clear hK K
  refine wpAnyH_take (i := 5) (v := ?_) rfl krf krf krf (fun _ _ _ h => h) (Or.inl ⟨by rfl, ?_⟩) (by assumption) ?_
  rotate_left
  ·intro wS hSw
   (try dsimp only at hSw)
   go_simp
   (try with_reducible rfl)
  refine wpAnyH_ready (rs := [6]) krf (by simp) ?_
  refine (AllReadyH.cons rfl (fun K hK => ?_) AllReadyH.nil)
  go_simp
  have c2 : (W1.alloc (.cells zeroSt.toArray 63)).cell? ⟨cb, 0, none⟩ = some (.int .i64 q) := by rw [← c1]; exact World.cell?_of_block (((Kept.refl noX W1).alloc _).block cb (block_lt_of c1) (fun h => h))
  refine hK.out _ _ c2 (fun hHeld => ?_)
  clear hK K
  refine wpAnyH_ready (rs := [7]) krf (by simp) ?_
  refine (AllReadyH.cons rfl (fun K hK => ?_) AllReadyH.nil)
  rw [if_pos (by rfl)]
  refine wp_store_part rfl 63 (.tmp 4) (.tmp 10) rfl W1.heap.size 0 rfl [.int .i64 q, .int .i64 0, .int .i64 0, .string a1, .string ⟨#[]⟩, .int .i64 0, .int .i64 0, .string ⟨#[]⟩, .int .i64 0, .bool false, .int .i64 0, .slice none 0 0, .int .i64 0, .int .i64 0, .string ⟨#[]⟩, .int .i64 0, .bool false, .int .i64 0, .slice none 0 0, .slice none 0 0, .slice none 0 0, .int .i64 0, .int .i64 0, .int .i64 0, .bool false] rfl (Cells.fresh W1 63 zeroSt) kle krf k1c ?_
  intro W2 hB2 hk2
  replace hB2 : Cells W2 W1.heap.size 63 [.int .i64 q, .int .i64 0, .int .i64 0, .string a1, .string ⟨#[]⟩, .int .i64 0, .int .i64 0, .string ⟨#[]⟩, .int .i64 0, .bool false, .int .i64 0, .slice none 0 0, .int .i64 0, .int .i64 0, .string ⟨#[]⟩, .int .i64 0, .bool false, .int .i64 0, .slice none 0 0, .slice none 0 0, .slice none 0 0, .int .i64 0, .int .i64 0, .int .i64 0, .bool false] := (by simpa using hB2)
  have HB2 := aP hB2
  clear hB2
  have hcW1 := block_lt_of c1
  have c3 : W2.cell? ⟨cb, 0, none⟩ = some (.int .i64 q) := by rw [← c2]; exact World.cell?_of_block (hk2.block cb (by simp; omega) kom)
  refine hK.out _ _ c3 (fun hHeld => ?_)
  clear hK K
  refine wpAnyH_done krf ?_ _
  have lb0 : w.heap.size + 1 = W0.heap.size := HSZ.out.symm
  have lb1 : W0.heap.size ≤ W1.heap.size := hk1.size
  have lb2 := hk2.size
  rw [World.size_alloc] at lb2
  go_wp2_with fail
  refine (name_calls (S := S) (k := k1) kdr).mono ?_
  intro e W5 hq
  rcases hq.cases with ⟨kx, hr, hm, hk5⟩ | ⟨a5, k5, hr, hret, hd5, hk5⟩
  ·exact k_3
  replace HS := aP (HS.out.trans (by rw [hr, thn_ok]))
  clear hr hq
  have hret : e = _ := hret
  subst hret
  have lb5 := hk5.size
  have HB4 := aP (show Cells W5 W1.heap.size 63 [.int .i64 q, .int .i64 0, .int .i64 0, .string a1, .string ⟨#[]⟩, .int .i64 0, .int .i64 0, .string ⟨#[]⟩, .int .i64 0, .bool false, .int .i64 0, .slice none 0 0, .int .i64 0, .int .i64 0, .string ⟨#[]⟩, .int .i64 0, .bool false, .int .i64 0, .slice none 0 0, .slice none 0 0, .slice none 0 0, .int .i64 0, .int .i64 0, .int .i64 0, .bool false] from (have q := HB2.out; kcl))
  go_wp2_with (first | ((with_reducible refine ats ?_); (refine wpList_store_part rfl rfl 9 (.tmp 15) (.tmp 14) rfl (W1.heap.size) 4 rfl [.string a5] rfl HB4.out kle krf k1c ?_; intro W6 hB6 hk6; replace hB6 : Cells W6 (W1.heap.size) 63 [.int .i64 q, .int .i64 0, .int .i64 0, .string a1, .string a5, .int .i64 0, .int .i64 0, .string ⟨#[]⟩, .int .i64 0, .bool false, .int .i64 0, .slice none 0 0, .int .i64 0, .int .i64 0, .string ⟨#[]⟩, .int .i64 0, .bool false, .int .i64 0, .slice none 0 0, .slice none 0 0, .slice none 0 0, .int .i64 0, .int .i64 0, .int .i64 0, .bool false] := (by simpa using hB6); have HB6 := aP hB6; clear hB6)))
  have lb6 := hk6.size
  have hd6 : DR W6 R S k5 := kdr
  have HB7 := aP (show Cells W6 w.heap.size 63 zeroSt from (have q := HB.out; kcl))
  have HK6 : Hid (Kept (· = R) w W6) := aP kp
  clear HB4
  refine (want_any (S := S) (k := k5) (s := ⟨#[59]⟩) (by decide) kdr).mono ?_
  intro e W3 hq
  rcases hq.cases with ⟨kx, hr, hm, hk3⟩ | ⟨a3, k3, hr, hret, hd3, hk3⟩
  ·exact k_16
  replace HS := aP (HS.out.trans (by rw [hr, thn_ok]))
  clear hr hq
  have hret : e = _ := hret
  subst hret
  have lb3 := hk3.size
  have HB8 := aP (show Cells W3 W1.heap.size 63 [.int .i64 q, .int .i64 0, .int .i64 0, .string a1, .string a5, .int .i64 0, .int .i64 0, .string ⟨#[]⟩, .int .i64 0, .bool false, .int .i64 0, .slice none 0 0, .int .i64 0, .int .i64 0, .string ⟨#[]⟩, .int .i64 0, .bool false, .int .i64 0, .slice none 0 0, .slice none 0 0, .slice none 0 0, .int .i64 0, .int .i64 0, .int .i64 0, .bool false] from (have q := HB6.out; kcl))
  have HB9 := aP (show Cells W3 w.heap.size 63 zeroSt from (have q := HB7.out; kcl))
  have HK3 : Hid (Kept (· = R) w W3) := aP (HK6.out.trans hk3)
  go_wp2_with (first | ((with_reducible refine atl ?_); (refine wpList_load_cells rfl 63 (.tmp 4) rfl (W1.heap.size) rfl _ Tryz.underlying63 rfl HB8.out krf ?_)) | ((with_reducible refine ats ?_); (refine wpList_store_all rfl rfl 63 (.tmp 3) (.tmp 20) rfl (w.heap.size) rfl [.int .i64 q, .int .i64 0, .int .i64 0, .string a1, .string a5, .int .i64 0, .int .i64 0, .string ⟨#[]⟩, .int .i64 0, .bool false, .int .i64 0, .slice none 0 0, .int .i64 0, .int .i64 0, .string ⟨#[]⟩, .int .i64 0, .bool false, .int .i64 0, .slice none 0 0, .slice none 0 0, .slice none 0 0, .int .i64 0, .int .i64 0, .int .i64 0, .bool false] rfl HB9.out (by rfl) krf k1c ?_; intro W4 hB4 hk4; have HB4 := aP hB4; clear hB4)))
  refine ret_box Tryz.results131 rfl HB4.out Tryz.underlying63 rfl krf rfl (Parsed.ok HS.out ⟨_, rfl, ?_⟩ kdr (HK3.out.own hk4 kom))
  exact SV.mk q a1 a5 (EV.zero _ _) (EV.zero _ _) (RowV.nil _ _) (RowV.nil _ _)
 ·go_simp
  have c0' : (W0.drew.alloc (.cells zeroSt.toArray 63)).cell? ⟨cb, 0, none⟩ = some (.int .i64 q) := by rw [← c0]; exact World.cell?_of_block (((Kept.refl noX W0).drew.alloc (.cells zeroSt.toArray 63)).block cb (block_lt_of c0) (fun h => h))
  have hB3 := Cells.fresh W0.drew 63 zeroSt
  have HB3 := aP hB3
  clear hB3
  have hdB := (hd0.drew).alloc (.cells zeroSt.toArray 63)
  have HDB := aP hdB
  clear hdB
  refine hK.out _ _ c0' (fun hHeld => ?_)
  clear hK K
  refine wpAnyH_ready (rs := [4]) krf (by simp) ?_
  refine (AllReadyH.cons rfl (fun K hK => ?_) AllReadyH.nil)
  go_simp
  refine (name_calls (S := S) (k := k) HDB.out).mono ?_
  intro e W1 hq
  rcases hq.cases with ⟨kx, hr, hm, hk1⟩ | ⟨a1, k1, hr, hret, hd1, hk1⟩
  ·exact k_24
  replace HS := aP (HS.out.trans (by rw [hr, thn_ok]))
  clear hr hq
  have hret : e = _ := hret
  subst hret
  dsimp only
  have c1 : W1.cell? ⟨cb, 0, none⟩ = some (.int .i64 q) := by rw [← c0']; exact World.cell?_of_block (hk1.block cb (block_lt_of c0') hcR)
  refine hK.out _ _ c1 (fun hHeld => ?_)
  clear hK K
  refine wpAnyH_take (i := 5) (v := ?_) rfl krf krf krf (fun _ _ _ h => h) (Or.inl ⟨by rfl, ?_⟩) (by assumption) ?_
  rotate_left
  ·intro wS hSw
   (try dsimp only at hSw)
   go_simp
   (try with_reducible rfl)
  refine wpAnyH_ready (rs := [7]) krf (by simp) ?_
  refine (AllReadyH.cons rfl (fun K hK => ?_) AllReadyH.nil)
  rw [if_pos (by rfl)]
  refine wp_store_part rfl 63 (.tmp 4) (.tmp 10) rfl W0.heap.size 0 rfl [.int .i64 q, .int .i64 0, .int .i64 0, .string a1, .string ⟨#[]⟩, .int .i64 0, .int .i64 0, .string ⟨#[]⟩, .int .i64 0, .bool false, .int .i64 0, .slice none 0 0, .int .i64 0, .int .i64 0, .string ⟨#[]⟩, .int .i64 0, .bool false, .int .i64 0, .slice none 0 0, .slice none 0 0, .slice none 0 0, .int .i64 0, .int .i64 0, .int .i64 0, .bool false] rfl (HB3.out.kept hk1 (by show W0.heap.size ≠ R; omega)) kle krf k1c ?_
  intro W2 hB2 hk2
  replace hB2 : Cells W2 W0.heap.size 63 [.int .i64 q, .int .i64 0, .int .i64 0, .string a1, .string ⟨#[]⟩, .int .i64 0, .int .i64 0, .string ⟨#[]⟩, .int .i64 0, .bool false, .int .i64 0, .slice none 0 0, .int .i64 0, .int .i64 0, .string ⟨#[]⟩, .int .i64 0, .bool false, .int .i64 0, .slice none 0 0, .slice none 0 0, .slice none 0 0, .int .i64 0, .int .i64 0, .int .i64 0, .bool false] := (by simpa using hB2)
  have HB2 := aP hB2
  clear hB2
  have hcW1 := block_lt_of c1
  have c3 : W2.cell? ⟨cb, 0, none⟩ = some (.int .i64 q) := by rw [← c1]; exact World.cell?_of_block (hk2.block cb hcW1 kom)
  refine hK.out _ _ c3 (fun hHeld => ?_)
  clear hK K
  refine wpAnyH_done krf ?_ _
  have lb0 : w.heap.size + 1 = W0.heap.size := HSZ.out.symm
  have lb1 : W0.heap.size + 1 ≤ W1.heap.size := by have := hk1.size; rw [World.size_alloc] at this; exact this
  have lb2 := hk2.size
  have hk1' : Kept (· = R) W0 W1 := (((Kept.refl _ _).drew).alloc _).trans hk1
  clear hk1
  go_wp2_with fail
  refine (name_calls (S := S) (k := k1) kdr).mono ?_
  intro e W5 hq
  rcases hq.cases with ⟨kx, hr, hm, hk5⟩ | ⟨a5, k5, hr, hret, hd5, hk5⟩
  ·exact k_3
  replace HS := aP (HS.out.trans (by rw [hr, thn_ok]))
  clear hr hq
  have hret : e = _ := hret
  subst hret
  have lb5 := hk5.size
  have HB4 := aP (show Cells W5 W0.heap.size 63 [.int .i64 q, .int .i64 0, .int .i64 0, .string a1, .string ⟨#[]⟩, .int .i64 0, .int .i64 0, .string ⟨#[]⟩, .int .i64 0, .bool false, .int .i64 0, .slice none 0 0, .int .i64 0, .int .i64 0, .string ⟨#[]⟩, .int .i64 0, .bool false, .int .i64 0, .slice none 0 0, .slice none 0 0, .slice none 0 0, .int .i64 0, .int .i64 0, .int .i64 0, .bool false] from (have q := HB2.out; kcl))
  go_wp2_with (first | ((with_reducible refine ats ?_); (refine wpList_store_part rfl rfl 9 (.tmp 15) (.tmp 14) rfl (W0.heap.size) 4 rfl [.string a5] rfl HB4.out kle krf k1c ?_; intro W6 hB6 hk6; replace hB6 : Cells W6 (W0.heap.size) 63 [.int .i64 q, .int .i64 0, .int .i64 0, .string a1, .string a5, .int .i64 0, .int .i64 0, .string ⟨#[]⟩, .int .i64 0, .bool false, .int .i64 0, .slice none 0 0, .int .i64 0, .int .i64 0, .string ⟨#[]⟩, .int .i64 0, .bool false, .int .i64 0, .slice none 0 0, .slice none 0 0, .slice none 0 0, .int .i64 0, .int .i64 0, .int .i64 0, .bool false] := (by simpa using hB6); have HB6 := aP hB6; clear hB6)))
  have lb6 := hk6.size
  have hd6 : DR W6 R S k5 := kdr
  have HB7 := aP (show Cells W6 w.heap.size 63 zeroSt from (have q := HB.out; kcl))
  have HK6 : Hid (Kept (· = R) w W6) := aP kp
  clear HB4
  refine (want_any (S := S) (k := k5) (s := ⟨#[59]⟩) (by decide) kdr).mono ?_
  intro e W3 hq
  rcases hq.cases with ⟨kx, hr, hm, hk3⟩ | ⟨a3, k3, hr, hret, hd3, hk3⟩
  ·exact k_16
  replace HS := aP (HS.out.trans (by rw [hr, thn_ok]))
  clear hr hq
  have hret : e = _ := hret
  subst hret
  have lb3 := hk3.size
  have HB8 := aP (show Cells W3 W0.heap.size 63 [.int .i64 q, .int .i64 0, .int .i64 0, .string a1, .string a5, .int .i64 0, .int .i64 0, .string ⟨#[]⟩, .int .i64 0, .bool false, .int .i64 0, .slice none 0 0, .int .i64 0, .int .i64 0, .string ⟨#[]⟩, .int .i64 0, .bool false, .int .i64 0, .slice none 0 0, .slice none 0 0, .slice none 0 0, .int .i64 0, .int .i64 0, .int .i64 0, .bool false] from (have q := HB6.out; kcl))
  have HB9 := aP (show Cells W3 w.heap.size 63 zeroSt from (have q := HB7.out; kcl))
  have HK3 : Hid (Kept (· = R) w W3) := aP (HK6.out.trans hk3)
  go_wp2_with (first | ((with_reducible refine atl ?_); (refine wpList_load_cells rfl 63 (.tmp 4) rfl (W0.heap.size) rfl _ Tryz.underlying63 rfl HB8.out krf ?_)) | ((with_reducible refine ats ?_); (refine wpList_store_all rfl rfl 63 (.tmp 3) (.tmp 20) rfl (w.heap.size) rfl [.int .i64 q, .int .i64 0, .int .i64 0, .string a1, .string a5, .int .i64 0, .int .i64 0, .string ⟨#[]⟩, .int .i64 0, .bool false, .int .i64 0, .slice none 0 0, .int .i64 0, .int .i64 0, .string ⟨#[]⟩, .int .i64 0, .bool false, .int .i64 0, .slice none 0 0, .slice none 0 0, .slice none 0 0, .int .i64 0, .int .i64 0, .int .i64 0, .bool false] rfl HB9.out (by rfl) krf k1c ?_; intro W4 hB4 hk4; have HB4 := aP hB4; clear hB4)))
  refine ret_box Tryz.results131 rfl HB4.out Tryz.underlying63 rfl krf rfl (Parsed.ok HS.out ⟨_, rfl, ?_⟩ kdr (HK3.out.own hk4 kom))
  exact SV.mk q a1 a5 (EV.zero _ _) (EV.zero _ _) (RowV.nil _ _) (RowV.nil _ _)
end
section
variable (S : Src) (B : Nat → Except Nat (List ST × Nat))
def choiceS (k : Nat) : Except Nat (ST × Nat) := thn (exprS S k) fun e k => thn (B k) fun b k =>
 if takeB S k ⟨#[101, 108, 115, 101]⟩ then thn (B (k + 1)) fun l k => .ok (mkS 4 ⟨#[]⟩ ⟨#[]⟩ e zeroT b l, k) else .ok (mkS 4 ⟨#[]⟩ ⟨#[]⟩ e zeroT b [], k)
def loopS (k : Nat) : Except Nat (ST × Nat) := thn (exprS S k) fun e k => thn (B k) fun b k => .ok (mkS 5 ⟨#[]⟩ ⟨#[]⟩ e zeroT b [], k)
end
section
variable {S : Src} {f R k : Nat} {w : World}
theorem assign_calls (hops : ∀ W, S.inv W → OpsAt W) (h : DR w R S k) : Calls Tryz.prog 187 #[.pointer (some ⟨R, 0, none⟩)] w (Parsed w R S retSt (assignS S k)) := by
 have HS : Hid (assignS S k = thn (nameS S k) fun s k => if takeB S k ⟨#[91]⟩ then putS S s (k + 1) else setS S s k) := aP rfl
 have HW := aP (fun W k (h : DR W R S k) => worth_calls hops h)
 have HX := aP (fun W k (h : DR W R S k) => exprS_calls hops h)
 clear hops
 have hRl := h.lt
 have hB := Cells.fresh w 63 zeroSt
 have HB := aP hB
 have hsz : (w.alloc (.cells zeroSt.toArray 63)).heap.size = w.heap.size + 1 := by simp
 clear hB
 go_enter Tryz.func187, Tryz.ntmps187
 go_wp2_with fail
 refine (name_calls (S := S) (k := k) kdr).mono ?_
 intro e W1 hq
 rcases hq.cases with ⟨kx, hr, hm, hk1⟩ | ⟨a1, k1, hr, hret, hd1, hk1⟩
 ·exact k_3
 replace HS := aP (HS.out.trans (by rw [hr, thn_ok]))
 clear hr hq
 have hret : e = _ := hret
 subst hret
 have lb1 := hk1.size
 rw [World.size_alloc] at lb1
 clear hsz
 go_wp2_with ((with_reducible refine ats ?_); (refine wpList_store_all rfl rfl 63 (.tmp 3) (.tmp 8) rfl (W1.heap.size) rfl [.int .i64 2, .int .i64 0, .int .i64 0, .string a1, .string ⟨#[]⟩, .int .i64 0, .int .i64 0, .string ⟨#[]⟩, .int .i64 0, .bool false, .int .i64 0, .slice none 0 0, .int .i64 0, .int .i64 0, .string ⟨#[]⟩, .int .i64 0, .bool false, .int .i64 0, .slice none 0 0, .slice none 0 0, .slice none 0 0, .int .i64 0, .int .i64 0, .int .i64 0, .bool false] rfl (Cells.fresh W1 63 zeroSt) (by rfl) krf k1c ?_; intro W2 hB2 hk2; have HB2 := aP hB2; clear hB2))
 have lb2 := hk2.size
 rw [World.size_alloc] at lb2
 have hd2 : DR W2 R S k1 := kdr
 cases ht3 : takeB S k1 ⟨#[91]⟩ with
 | false =>
  rw [ht3, if_neg Bool.false_ne_true] at HS
  have HT3 := aP ht3
  clear ht3
  refine (take_any (S := S) (k := k1) (by decide) hd2).mono ?_
  rintro e W3 ⟨rfl, hd3, hk3⟩
  rw [HT3.out] at hd3 ⊢
  replace hd3 : DR W3 R S k1 := hd3
  have lb3 := hk3.size
  unfold setS at HS
  go_wp2_with fail
  refine (want_any (S := S) (k := k1) (s := ⟨#[61]⟩) (by decide) hd3).mono ?_
  intro e W4 hq
  rcases hq.cases with ⟨kx, hr, hm, hk4⟩ | ⟨a4, k4, hr, hret, hd4, hk4⟩
  ·exact k_3
  replace HS := aP (HS.out.trans (by rw [hr, thn_ok]))
  clear hr hq
  have hret : e = _ := hret
  subst hret
  have lb4 := hk4.size
  go_wp2_with fail
  refine (HW.out _ _ hd4).mono ?_
  intro e W5 hq
  rcases hq.cases with ⟨kx, hr, hm, hk5⟩ | ⟨a5, k5, hr, hret, hd5, hk5⟩
  ·exact k_3
  replace HS := aP (HS.out.trans (by rw [hr, thn_ok]))
  clear hr hq
  have lb5 := hk5.size
  obtain ⟨csx, rfl, hevx⟩ := hret
  obtain ⟨kx, mx, sx, slx, lox, ox, Ax, Nx, Cx, rfl⟩ := hevx.form
  have HEVx := aP hevx
  clear hevx
  have HB3 := aP (show Cells W5 W1.heap.size 63 [.int .i64 2, .int .i64 0, .int .i64 0, .string a1, .string ⟨#[]⟩, .int .i64 0, .int .i64 0, .string ⟨#[]⟩, .int .i64 0, .bool false, .int .i64 0, .slice none 0 0, .int .i64 0, .int .i64 0, .string ⟨#[]⟩, .int .i64 0, .bool false, .int .i64 0, .slice none 0 0, .slice none 0 0, .slice none 0 0, .int .i64 0, .int .i64 0, .int .i64 0, .bool false] from (have q := HB2.out; kcl))
  have HB4 := aP (show Cells W5 w.heap.size 63 zeroSt from (have q := HB.out; kcl))
  have HK5 : Hid (Kept (· = R) w W5) := aP kp
  clear HB2
  go_wp2_with (first | ((with_reducible refine ats ?_); (refine wpList_store_part rfl rfl 44 (.tmp 27) (.tmp 26) rfl (W1.heap.size) 5 rfl [.int .i64 kx, .int .i64 mx, .string sx, .int .i64 slx, .bool lox, .int .i64 ox, .slice Ax Nx Cx] rfl HB3.out kle krf k1c ?_; intro W6 hB6 hk6; replace hB6 : Cells W6 (W1.heap.size) 63 [.int .i64 2, .int .i64 0, .int .i64 0, .string a1, .string ⟨#[]⟩, .int .i64 kx, .int .i64 mx, .string sx, .int .i64 slx, .bool lox, .int .i64 ox, .slice Ax Nx Cx, .int .i64 0, .int .i64 0, .string ⟨#[]⟩, .int .i64 0, .bool false, .int .i64 0, .slice none 0 0, .slice none 0 0, .slice none 0 0, .int .i64 0, .int .i64 0, .int .i64 0, .bool false] := (by simpa using hB6); have HB6 := aP hB6; clear hB6)) | ((with_reducible refine atl ?_); (refine wpList_load_cells rfl 63 (.tmp 3) rfl (W1.heap.size) rfl _ Tryz.underlying63 rfl HB6.out krf ?_)) | ((with_reducible refine ats ?_); (refine wpList_store_all rfl rfl 63 (.tmp 2) (.tmp 28) rfl (w.heap.size) rfl [.int .i64 2, .int .i64 0, .int .i64 0, .string a1, .string ⟨#[]⟩, .int .i64 kx, .int .i64 mx, .string sx, .int .i64 slx, .bool lox, .int .i64 ox, .slice Ax Nx Cx, .int .i64 0, .int .i64 0, .string ⟨#[]⟩, .int .i64 0, .bool false, .int .i64 0, .slice none 0 0, .slice none 0 0, .slice none 0 0, .int .i64 0, .int .i64 0, .int .i64 0, .bool false] rfl (HB4.out.kept hk6 kom) (by rfl) krf k1c ?_; intro W7 hB7 hk7; have HB7 := aP hB7; clear hB7)))
  refine ret_box Tryz.results187 rfl HB7.out Tryz.underlying63 rfl krf rfl (Parsed.ok HS.out ⟨_, rfl, ?_⟩ kdr ((HK5.out.own hk6 kom).own hk7 kom))
  exact SV.mk 2 a1 ⟨#[]⟩ (((HEVx.out.kept hk6 (fun g _ h => by have h : g = W1.heap.size := h; show g < _; first | omega | (rw [World.size_alloc]; omega))).kept hk7 (fun g _ h => by have h : g = w.heap.size := h; show g < _; first | omega | (rw [World.size_alloc]; omega))).mono (fun g _ h => by have h : g < w.heap.size := h; show g < _; first | omega | (rw [World.size_alloc]; omega))) (EV.zero _ _) (RowV.nil _ _) (RowV.nil _ _)
 | true =>
  rw [ht3, if_pos rfl] at HS
  have HT3 := aP ht3
  clear ht3
  refine (take_any (S := S) (k := k1) (by decide) hd2).mono ?_
  rintro e W3 ⟨rfl, hd3, hk3⟩
  rw [HT3.out] at hd3 ⊢
  replace hd3 : DR W3 R S (k1 + 1) := hd3
  have lb3 := hk3.size
  unfold putS at HS
  go_wp2_with fail
  refine (HX.out _ _ hd3).mono ?_
  intro e W4 hq
  rcases hq.cases with ⟨kx, hr, hm, hk4⟩ | ⟨a4, k4, hr, hret, hd4, hk4⟩
  ·exact k_3
  replace HS := aP (HS.out.trans (by rw [hr, thn_ok]))
  clear hr hq
  have lb4 := hk4.size
  obtain ⟨csx, rfl, hevx⟩ := hret
  obtain ⟨kx, mx, sx, slx, lox, ox, Ax, Nx, Cx, rfl⟩ := hevx.form
  have HEVx := aP hevx
  clear hevx
  have HB3 := aP (show Cells W4 W1.heap.size 63 [.int .i64 2, .int .i64 0, .int .i64 0, .string a1, .string ⟨#[]⟩, .int .i64 0, .int .i64 0, .string ⟨#[]⟩, .int .i64 0, .bool false, .int .i64 0, .slice none 0 0, .int .i64 0, .int .i64 0, .string ⟨#[]⟩, .int .i64 0, .bool false, .int .i64 0, .slice none 0 0, .slice none 0 0, .slice none 0 0, .int .i64 0, .int .i64 0, .int .i64 0, .bool false] from (have q := HB2.out; kcl))
  have HB4 := aP (show Cells W4 w.heap.size 63 zeroSt from (have q := HB.out; kcl))
  have HK4 : Hid (Kept (· = R) w W4) := aP kp
  clear HB2
  go_wp2_with (first | ((with_reducible refine ats ?_); (refine wpList_store_part rfl rfl 61 (.tmp 15) (.const (.int .i64 3)) rfl (W1.heap.size) 0 rfl [.int .i64 3] rfl HB3.out kle krf k1c ?_; intro W5 hB5 hk5; replace hB5 : Cells W5 (W1.heap.size) 63 [.int .i64 3, .int .i64 0, .int .i64 0, .string a1, .string ⟨#[]⟩, .int .i64 0, .int .i64 0, .string ⟨#[]⟩, .int .i64 0, .bool false, .int .i64 0, .slice none 0 0, .int .i64 0, .int .i64 0, .string ⟨#[]⟩, .int .i64 0, .bool false, .int .i64 0, .slice none 0 0, .slice none 0 0, .slice none 0 0, .int .i64 0, .int .i64 0, .int .i64 0, .bool false] := (by simpa using hB5); have HB5 := aP hB5; clear hB5)) | ((with_reducible refine ats ?_); (refine wpList_store_part rfl rfl 44 (.tmp 16) (.tmp 14) rfl (W1.heap.size) 12 rfl [.int .i64 kx, .int .i64 mx, .string sx, .int .i64 slx, .bool lox, .int .i64 ox, .slice Ax Nx Cx] rfl HB5.out kle krf k1c ?_; intro W6 hB6 hk6; replace hB6 : Cells W6 (W1.heap.size) 63 [.int .i64 3, .int .i64 0, .int .i64 0, .string a1, .string ⟨#[]⟩, .int .i64 0, .int .i64 0, .string ⟨#[]⟩, .int .i64 0, .bool false, .int .i64 0, .slice none 0 0, .int .i64 kx, .int .i64 mx, .string sx, .int .i64 slx, .bool lox, .int .i64 ox, .slice Ax Nx Cx, .slice none 0 0, .slice none 0 0, .int .i64 0, .int .i64 0, .int .i64 0, .bool false] := (by simpa using hB6); have HB6 := aP hB6; clear hB6)))
  have lb5 := hk5.size
  have lb6 := hk6.size
  have HB7 := aP ((HB4.out.kept hk5 kom).kept hk6 kom)
  have HK6 := aP ((HK4.out.own hk5 kom).own hk6 kom)
  have HX6 := aP ((HEVx.out.kept hk5 (fun g _ h => by have h : g = W1.heap.size := h; show g < _; first | omega | (rw [World.size_alloc]; omega))).kept hk6 (fun g _ h => by have h : g = W1.heap.size := h; show g < _; first | omega | (rw [World.size_alloc]; omega)))
  have hd6 : DR W6 R S k4 := kdr
  clear HB3 HB5
  refine (want_any (S := S) (k := k4) (s := ⟨#[93]⟩) (by decide) hd6).mono ?_
  intro e W7 hq
  rcases hq.cases with ⟨kx, hr, hm, hk7⟩ | ⟨a7, k7, hr, hret, hd7, hk7⟩
  ·unfold Misfit at hm
   subst hm
   have HX := aP hr
   clear hr
   go_wp2
   exact ⟨rfl, Parsed.err (HS.out.trans (by rw [HX.out] <;> rfl)) rfl (HK6.out.trans hk7)⟩
  replace HS := aP (HS.out.trans (by rw [hr, thn_ok]))
  clear hr hq
  have hret : e = _ := hret
  subst hret
  have lb7 := hk7.size
  go_wp2_with fail
  refine (want_any (S := S) (k := k7) (s := ⟨#[61]⟩) (by decide) hd7).mono ?_
  intro e W8 hq
  rcases hq.cases with ⟨kx, hr, hm, hk8⟩ | ⟨a8, k8, hr, hret, hd8, hk8⟩
  ·unfold Misfit at hm
   subst hm
   have HX := aP hr
   clear hr
   go_wp2
   exact ⟨rfl, Parsed.err (HS.out.trans (by rw [HX.out] <;> rfl)) rfl ((HK6.out.trans hk7).trans hk8)⟩
  replace HS := aP (HS.out.trans (by rw [hr, thn_ok]))
  clear hr hq
  have hret : e = _ := hret
  subst hret
  have lb8 := hk8.size
  have HK8 := aP ((HK6.out.trans hk7).trans hk8)
  go_wp2_with fail
  refine (HW.out _ _ hd8).mono ?_
  intro e W9 hq
  rcases hq.cases with ⟨kx, hr, hm, hk9⟩ | ⟨a9, k9, hr, hret, hd9, hk9⟩
  ·unfold Misfit at hm
   subst hm
   have HX := aP hr
   clear hr
   go_wp2
   exact ⟨rfl, Parsed.err (HS.out.trans (by rw [HX.out] <;> rfl)) rfl (HK8.out.trans hk9)⟩
  replace HS := aP (HS.out.trans (by rw [hr, thn_ok]))
  clear hr hq
  have lb9 := hk9.size
  obtain ⟨csy, rfl, hevy⟩ := hret
  obtain ⟨ky, my, sy, sly, loy, oy, Ay, Ny, Cy, rfl⟩ := hevy.form
  have HEVy := aP hevy
  clear hevy
  have HK9 := aP (HK8.out.trans hk9)
  have HBA := aP (((HB6.out.kept hk7 kom).kept hk8 kom).kept hk9 kom)
  have HBB := aP (((HB7.out.kept hk7 kom).kept hk8 kom).kept hk9 kom)
  have HX9 := aP (((HX6.out.kept hk7 (fun g _ h => by have h : g = R := h; show g < _; first | omega | (rw [World.size_alloc]; omega))).kept hk8 (fun g _ h => by have h : g = R := h; show g < _; first | omega | (rw [World.size_alloc]; omega))).kept hk9 (fun g _ h => by have h : g = R := h; show g < _; first | omega | (rw [World.size_alloc]; omega)))
  clear HB6 HB7
  go_wp2_with (first | ((with_reducible refine ats ?_); (refine wpList_store_part rfl rfl 44 (.tmp 27) (.tmp 26) rfl (W1.heap.size) 5 rfl [.int .i64 ky, .int .i64 my, .string sy, .int .i64 sly, .bool loy, .int .i64 oy, .slice Ay Ny Cy] rfl HBA.out kle krf k1c ?_; intro W10 hB10 hk10; replace hB10 : Cells W10 (W1.heap.size) 63 [.int .i64 3, .int .i64 0, .int .i64 0, .string a1, .string ⟨#[]⟩, .int .i64 ky, .int .i64 my, .string sy, .int .i64 sly, .bool loy, .int .i64 oy, .slice Ay Ny Cy, .int .i64 kx, .int .i64 mx, .string sx, .int .i64 slx, .bool lox, .int .i64 ox, .slice Ax Nx Cx, .slice none 0 0, .slice none 0 0, .int .i64 0, .int .i64 0, .int .i64 0, .bool false] := (by simpa using hB10); have HB10 := aP hB10; clear hB10)) | ((with_reducible refine atl ?_); (refine wpList_load_cells rfl 63 (.tmp 3) rfl (W1.heap.size) rfl _ Tryz.underlying63 rfl HB10.out krf ?_)) | ((with_reducible refine ats ?_); (refine wpList_store_all rfl rfl 63 (.tmp 2) (.tmp 28) rfl (w.heap.size) rfl [.int .i64 3, .int .i64 0, .int .i64 0, .string a1, .string ⟨#[]⟩, .int .i64 ky, .int .i64 my, .string sy, .int .i64 sly, .bool loy, .int .i64 oy, .slice Ay Ny Cy, .int .i64 kx, .int .i64 mx, .string sx, .int .i64 slx, .bool lox, .int .i64 ox, .slice Ax Nx Cx, .slice none 0 0, .slice none 0 0, .int .i64 0, .int .i64 0, .int .i64 0, .bool false] rfl (HBB.out.kept hk10 kom) (by rfl) krf k1c ?_; intro W11 hB11 hk11; have HB11 := aP hB11; clear hB11)))
  refine ret_box Tryz.results187 rfl HB11.out Tryz.underlying63 rfl krf rfl (Parsed.ok HS.out ⟨_, rfl, ?_⟩ kdr ((HK9.out.own hk10 kom).own hk11 kom))
  exact SV.mk 3 a1 ⟨#[]⟩ (((HEVy.out.kept hk10 (fun g _ h => by have h : g = W1.heap.size := h; show g < _; first | omega | (rw [World.size_alloc]; omega))).kept hk11 (fun g _ h => by have h : g = w.heap.size := h; show g < _; first | omega | (rw [World.size_alloc]; omega))).mono (fun g _ h => by have h : g < w.heap.size := h; show g < _; first | omega | (rw [World.size_alloc]; omega))) (((HX9.out.kept hk10 (fun g _ h => by have h : g = W1.heap.size := h; show g < _; first | omega | (rw [World.size_alloc]; omega))).kept hk11 (fun g _ h => by have h : g = w.heap.size := h; show g < _; first | omega | (rw [World.size_alloc]; omega))).mono (fun g _ h => by have h : g < w.heap.size := h; show g < _; first | omega | (rw [World.size_alloc]; omega))) (RowV.nil _ _) (RowV.nil _ _)
theorem exprS_fwd {p : ET × Nat} (h : exprS S k = .ok p) : k < p.2 := (reads_fwd S _).2.1 _ _ _ h
theorem loop_calls (hops : ∀ W, S.inv W → OpsAt W) {B : Nat → Except Nat (List ST × Nat)} (hB : ∀ k' W, k < k' → DR W R S k' → Calls Tryz.prog 128 #[.pointer (some ⟨R, 0, none⟩)] W (Parsed W R S retB (B k'))) (h : DR w R S k) :
  Calls Tryz.prog 71 #[.pointer (some ⟨R, 0, none⟩)] w (Parsed w R S retSt (loopS S B k)) := by
 have HS : Hid (loopS S B k = thn (exprS S k) fun e k => thn (B k) fun b k => .ok (mkS 5 ⟨#[]⟩ ⟨#[]⟩ e zeroT b [], k)) := aP rfl
 have HX := aP (fun W k (h : DR W R S k) => exprS_calls hops h)
 have HFW := aP (fun p h => exprS_fwd (S := S) (k := k) (p := p) h)
 have HBL := aP hB
 clear hops hB
 have hRl := h.lt
 have hb := Cells.fresh w 63 zeroSt
 have HB := aP hb
 have hsz : (w.alloc (.cells zeroSt.toArray 63)).heap.size = w.heap.size + 1 := by simp
 clear hb
 go_enter Tryz.func71, Tryz.ntmps71
 go_wp2_with fail
 refine (HX.out _ k kdr).mono ?_
 intro e W1 hq
 rcases hq.cases with ⟨kx, hr, hm, hk1⟩ | ⟨a1, k1, hr, hret, hd1, hk1⟩
 ·exact k_3
 have hlk : k < k1 := HFW.out _ hr
 replace HS := aP (HS.out.trans (by rw [hr, thn_ok]))
 clear hr hq
 have lb1 := hk1.size
 rw [World.size_alloc] at lb1
 obtain ⟨csx, rfl, hevx⟩ := hret
 obtain ⟨kx, mx, sx, slx, lox, ox, Ax, Nx, Cx, rfl⟩ := hevx.form
 have HEVx := aP hevx
 clear hevx
 clear hsz
 go_wp2_with ((with_reducible refine ats ?_); (refine wpList_store_all rfl rfl 63 (.tmp 3) (.tmp 6) rfl (W1.heap.size) rfl [.int .i64 5, .int .i64 0, .int .i64 0, .string ⟨#[]⟩, .string ⟨#[]⟩, .int .i64 kx, .int .i64 mx, .string sx, .int .i64 slx, .bool lox, .int .i64 ox, .slice Ax Nx Cx, .int .i64 0, .int .i64 0, .string ⟨#[]⟩, .int .i64 0, .bool false, .int .i64 0, .slice none 0 0, .slice none 0 0, .slice none 0 0, .int .i64 0, .int .i64 0, .int .i64 0, .bool false] rfl (Cells.fresh W1 63 zeroSt) (by rfl) krf k1c ?_; intro W2 hB2 hk2; have HB2 := aP hB2; clear hB2))
 have lb2 := hk2.size
 rw [World.size_alloc] at lb2
 have hd2 : DR W2 R S k1 := kdr
 have HX2 := aP (((HEVx.out.mono (Z' := fun g => g < w.heap.size + 1 ∨ W1.heap.size ≤ g) (fun g hg h => by have h : g < w.heap.size + 1 ∨ W1.heap.size ≤ g := h; show g < _; rw [World.size_alloc]; omega)).keep ((Kept.refl noX W1).alloc (.cells zeroSt.toArray 63))).kept hk2 (fun g _ h => by have h : g = W1.heap.size := h; show _ ∨ _; omega))
 clear HEVx
 have HK2 : Hid (Kept (· = R) w W2) := aP kp
 refine (HBL.out k1 _ hlk hd2).mono ?_
 intro e W3 hq
 rcases hq.cases with ⟨kx, hr, hm, hk3⟩ | ⟨a3, k3, hr, hret, hd3, hk3⟩
 ·exact k_17
 replace HS := aP (HS.out.trans (by rw [hr, thn_ok]))
 clear hr hq
 have lb3 := hk3.size
 obtain ⟨v, rfl, hrowv⟩ := hret
 obtain ⟨Av, Nv, Cv, rfl, hff⟩ := hrowv.form
 clear hff
 have HROWv := aP hrowv
 clear hrowv
 have HB3 := aP (show Cells W3 W1.heap.size 63 [.int .i64 5, .int .i64 0, .int .i64 0, .string ⟨#[]⟩, .string ⟨#[]⟩, .int .i64 kx, .int .i64 mx, .string sx, .int .i64 slx, .bool lox, .int .i64 ox, .slice Ax Nx Cx, .int .i64 0, .int .i64 0, .string ⟨#[]⟩, .int .i64 0, .bool false, .int .i64 0, .slice none 0 0, .slice none 0 0, .slice none 0 0, .int .i64 0, .int .i64 0, .int .i64 0, .bool false] from (have q := HB2.out; kcl))
 have HBW := aP (show Cells W3 w.heap.size 63 zeroSt from (have q := HB.out; kcl))
 have HK3 := aP (HK2.out.trans hk3)
 have HX3 := aP (HX2.out.kept hk3 (fun g _ h => by have h : g = R := h; show _ ∨ _; omega))
 clear HB2
 go_wp2_with (first | ((with_reducible refine ats ?_); (refine wpList_store_part rfl rfl 52 (.tmp 9) (.tmp 8) rfl (W1.heap.size) 19 rfl [.slice Av Nv Cv] rfl HB3.out kle krf k1c ?_; intro W4 hB4 hk4; replace hB4 : Cells W4 (W1.heap.size) 63 [.int .i64 5, .int .i64 0, .int .i64 0, .string ⟨#[]⟩, .string ⟨#[]⟩, .int .i64 kx, .int .i64 mx, .string sx, .int .i64 slx, .bool lox, .int .i64 ox, .slice Ax Nx Cx, .int .i64 0, .int .i64 0, .string ⟨#[]⟩, .int .i64 0, .bool false, .int .i64 0, .slice none 0 0, .slice Av Nv Cv, .slice none 0 0, .int .i64 0, .int .i64 0, .int .i64 0, .bool false] := (by simpa using hB4); have HB4 := aP hB4; clear hB4)) | ((with_reducible refine atl ?_); (refine wpList_load_cells rfl 63 (.tmp 3) rfl (W1.heap.size) rfl _ Tryz.underlying63 rfl HB4.out krf ?_)) | ((with_reducible refine ats ?_); (refine wpList_store_all rfl rfl 63 (.tmp 2) (.tmp 10) rfl (w.heap.size) rfl [.int .i64 5, .int .i64 0, .int .i64 0, .string ⟨#[]⟩, .string ⟨#[]⟩, .int .i64 kx, .int .i64 mx, .string sx, .int .i64 slx, .bool lox, .int .i64 ox, .slice Ax Nx Cx, .int .i64 0, .int .i64 0, .string ⟨#[]⟩, .int .i64 0, .bool false, .int .i64 0, .slice none 0 0, .slice Av Nv Cv, .slice none 0 0, .int .i64 0, .int .i64 0, .int .i64 0, .bool false] rfl (HBW.out.kept hk4 kom) (by rfl) krf k1c ?_; intro W5 hB5 hk5; have HB5 := aP hB5; clear hB5)))
 refine ret_box Tryz.results71 rfl HB5.out Tryz.underlying63 rfl krf rfl (Parsed.ok HS.out ⟨_, rfl, ?_⟩ kdr ((HK3.out.own hk4 kom).own hk5 kom))
 exact SV.mk 5 ⟨#[]⟩ ⟨#[]⟩ (((HX3.out.kept hk4 (fun g _ h => by have h : g = W1.heap.size := h; show _ ∨ _; omega)).kept hk5 (fun g _ h => by have h : g = w.heap.size := h; show _ ∨ _; omega)).mono (fun g _ h => by have h : g < w.heap.size := h; show _ ∨ _; omega)) (EV.zero _ _) (((HROWv.out.kept hk4 (fun g _ h => by have h : g = W1.heap.size := h; show g < _; first | omega | (rw [World.size_alloc]; omega))).kept hk5 (fun g _ h => by have h : g = w.heap.size := h; show g < _; first | omega | (rw [World.size_alloc]; omega))).mono (fun g _ h => by have h : g < w.heap.size := h; show g < _; first | omega | (rw [World.size_alloc]; omega))) (RowV.nil _ _)
theorem choice_calls (hops : ∀ W, S.inv W → OpsAt W) {B : Nat → Except Nat (List ST × Nat)} (hBm : ∀ k p, B k = .ok p → k < p.2) (hB : ∀ k' W, k < k' → DR W R S k' → Calls Tryz.prog 128 #[.pointer (some ⟨R, 0, none⟩)] W (Parsed W R S retB (B k'))) (h : DR w R S k) :
  Calls Tryz.prog 70 #[.pointer (some ⟨R, 0, none⟩)] w (Parsed w R S retSt (choiceS S B k)) := by
 have HS : Hid (choiceS S B k = thn (exprS S k) fun e k => thn (B k) fun b k => if takeB S k ⟨#[101, 108, 115, 101]⟩ then thn (B (k + 1)) fun l k => .ok (mkS 4 ⟨#[]⟩ ⟨#[]⟩ e zeroT b l, k) else .ok (mkS 4 ⟨#[]⟩ ⟨#[]⟩ e zeroT b [], k)) := aP rfl
 have HX := aP (fun W k (h : DR W R S k) => exprS_calls hops h)
 have HFW := aP (fun p h => exprS_fwd (S := S) (k := k) (p := p) h)
 have HBL := aP hB
 have HBM := aP hBm
 clear hops hB hBm
 have hRl := h.lt
 have hb := Cells.fresh w 63 zeroSt
 have HB := aP hb
 have hsz : (w.alloc (.cells zeroSt.toArray 63)).heap.size = w.heap.size + 1 := by simp
 clear hb
 go_enter Tryz.func70, Tryz.ntmps70
 go_wp2_with fail
 refine (HX.out _ k kdr).mono ?_
 intro e W1 hq
 rcases hq.cases with ⟨kx, hr, hm, hk1⟩ | ⟨a1, k1, hr, hret, hd1, hk1⟩
 ·exact k_3
 have hlk : k < k1 := HFW.out _ hr
 replace HS := aP (HS.out.trans (by rw [hr, thn_ok]))
 clear hr hq
 have lb1 := hk1.size
 rw [World.size_alloc] at lb1
 obtain ⟨csx, rfl, hevx⟩ := hret
 obtain ⟨kx, mx, sx, slx, lox, ox, Ax, Nx, Cx, rfl⟩ := hevx.form
 have HEVx := aP hevx
 clear hevx
 clear hsz
 go_wp2_with ((with_reducible refine ats ?_); (refine wpList_store_all rfl rfl 63 (.tmp 3) (.tmp 6) rfl (W1.heap.size) rfl [.int .i64 4, .int .i64 0, .int .i64 0, .string ⟨#[]⟩, .string ⟨#[]⟩, .int .i64 kx, .int .i64 mx, .string sx, .int .i64 slx, .bool lox, .int .i64 ox, .slice Ax Nx Cx, .int .i64 0, .int .i64 0, .string ⟨#[]⟩, .int .i64 0, .bool false, .int .i64 0, .slice none 0 0, .slice none 0 0, .slice none 0 0, .int .i64 0, .int .i64 0, .int .i64 0, .bool false] rfl (Cells.fresh W1 63 zeroSt) (by rfl) krf k1c ?_; intro W2 hB2 hk2; have HB2 := aP hB2; clear hB2))
 have lb2 := hk2.size
 rw [World.size_alloc] at lb2
 have hd2 : DR W2 R S k1 := kdr
 have HX2 := aP (((HEVx.out.mono (Z' := fun g => g < w.heap.size + 1 ∨ W1.heap.size ≤ g) (fun g hg h => by have h : g < w.heap.size + 1 ∨ W1.heap.size ≤ g := h; show g < _; rw [World.size_alloc]; omega)).keep ((Kept.refl noX W1).alloc (.cells zeroSt.toArray 63))).kept hk2 (fun g _ h => by have h : g = W1.heap.size := h; show _ ∨ _; omega))
 clear HEVx
 have HK2 : Hid (Kept (· = R) w W2) := aP kp
 refine (HBL.out k1 _ hlk hd2).mono ?_
 intro e W3 hq
 rcases hq.cases with ⟨kx, hr, hm, hk3⟩ | ⟨a3, k3, hr, hret, hd3, hk3⟩
 ·exact k_17
 have hlk3 : k1 < k3 := HBM.out _ _ hr
 replace HS := aP (HS.out.trans (by rw [hr, thn_ok]))
 clear hr hq
 have lb3 := hk3.size
 obtain ⟨v, rfl, hrowv⟩ := hret
 obtain ⟨Av, Nv, Cv, rfl, hff⟩ := hrowv.form
 clear hff
 have HROWv := aP hrowv
 clear hrowv
 have HB3 := aP (show Cells W3 W1.heap.size 63 [.int .i64 4, .int .i64 0, .int .i64 0, .string ⟨#[]⟩, .string ⟨#[]⟩, .int .i64 kx, .int .i64 mx, .string sx, .int .i64 slx, .bool lox, .int .i64 ox, .slice Ax Nx Cx, .int .i64 0, .int .i64 0, .string ⟨#[]⟩, .int .i64 0, .bool false, .int .i64 0, .slice none 0 0, .slice none 0 0, .slice none 0 0, .int .i64 0, .int .i64 0, .int .i64 0, .bool false] from (have q := HB2.out; kcl))
 have HBW := aP (show Cells W3 w.heap.size 63 zeroSt from (have q := HB.out; kcl))
 have HK3 := aP (HK2.out.trans hk3)
 have HX3 := aP (HX2.out.kept hk3 (fun g _ h => by have h : g = R := h; show _ ∨ _; omega))
 clear HB2
 go_wp2_with (first | ((with_reducible refine ats ?_); (refine wpList_store_part rfl rfl 52 (.tmp 9) (.tmp 8) rfl (W1.heap.size) 19 rfl [.slice Av Nv Cv] rfl HB3.out kle krf k1c ?_; intro W4 hB4 hk4; replace hB4 : Cells W4 (W1.heap.size) 63 [.int .i64 4, .int .i64 0, .int .i64 0, .string ⟨#[]⟩, .string ⟨#[]⟩, .int .i64 kx, .int .i64 mx, .string sx, .int .i64 slx, .bool lox, .int .i64 ox, .slice Ax Nx Cx, .int .i64 0, .int .i64 0, .string ⟨#[]⟩, .int .i64 0, .bool false, .int .i64 0, .slice none 0 0, .slice Av Nv Cv, .slice none 0 0, .int .i64 0, .int .i64 0, .int .i64 0, .bool false] := (by simpa using hB4); have HB4 := aP hB4; clear hB4)))
 have lb4 := hk4.size
 have hd4 : DR W4 R S k3 := kdr
 have HBW4 := aP (HBW.out.kept hk4 kom)
 have HK4 := aP (HK3.out.own hk4 kom)
 have HX4 := aP (HX3.out.kept hk4 (fun g _ h => by have h : g = W1.heap.size := h; show _ ∨ _; omega))
 have HROW4 := aP (HROWv.out.kept hk4 (fun g _ h => by have h : g = W1.heap.size := h; show g < _; first | omega | (rw [World.size_alloc]; omega)))
 clear HB3 HBW HX3 HROWv HK3
 cases ht5 : takeB S k3 ⟨#[101, 108, 115, 101]⟩ with
 | false =>
  rw [ht5, if_neg Bool.false_ne_true] at HS
  have HT5 := aP ht5
  clear ht5
  refine (take_any (S := S) (k := k3) (by decide) hd4).mono ?_
  rintro e W5 ⟨rfl, hd5, hk5⟩
  rw [HT5.out] at hd5 ⊢
  replace hd5 : DR W5 R S k3 := hd5
  have lb5 := hk5.size
  go_wp2_with (first | ((with_reducible refine atl ?_); (refine wpList_load_cells rfl 63 (.tmp 3) rfl (W1.heap.size) rfl _ Tryz.underlying63 rfl (HB4.out.kept hk5 kom) krf ?_)) | ((with_reducible refine ats ?_); (refine wpList_store_all rfl rfl 63 (.tmp 2) (.tmp 17) rfl (w.heap.size) rfl [.int .i64 4, .int .i64 0, .int .i64 0, .string ⟨#[]⟩, .string ⟨#[]⟩, .int .i64 kx, .int .i64 mx, .string sx, .int .i64 slx, .bool lox, .int .i64 ox, .slice Ax Nx Cx, .int .i64 0, .int .i64 0, .string ⟨#[]⟩, .int .i64 0, .bool false, .int .i64 0, .slice none 0 0, .slice Av Nv Cv, .slice none 0 0, .int .i64 0, .int .i64 0, .int .i64 0, .bool false] rfl (HBW4.out.kept hk5 kom) (by rfl) krf k1c ?_; intro W6 hB6 hk6; have HB6 := aP hB6; clear hB6)))
  refine ret_box Tryz.results70 rfl HB6.out Tryz.underlying63 rfl krf rfl (Parsed.ok HS.out ⟨_, rfl, ?_⟩ kdr ((HK4.out.trans hk5).own hk6 kom))
  exact SV.mk 4 ⟨#[]⟩ ⟨#[]⟩ (((HX4.out.kept hk5 (fun g _ h => by have h : g = R := h; show _ ∨ _; omega)).kept hk6 (fun g _ h => by have h : g = w.heap.size := h; show _ ∨ _; omega)).mono (fun g _ h => by have h : g < w.heap.size := h; show _ ∨ _; omega)) (EV.zero _ _) (((HROW4.out.kept hk5 (fun g _ h => by have h : g = R := h; show g < _; first | omega | (rw [World.size_alloc]; omega))).kept hk6 (fun g _ h => by have h : g = w.heap.size := h; show g < _; first | omega | (rw [World.size_alloc]; omega))).mono (fun g _ h => by have h : g < w.heap.size := h; show g < _; first | omega | (rw [World.size_alloc]; omega))) (RowV.nil _ _)
 | true =>
  rw [ht5, if_pos rfl] at HS
  have HT5 := aP ht5
  clear ht5
  refine (take_any (S := S) (k := k3) (by decide) hd4).mono ?_
  rintro e W5 ⟨rfl, hd5, hk5⟩
  rw [HT5.out] at hd5 ⊢
  replace hd5 : DR W5 R S (k3 + 1) := hd5
  have lb5 := hk5.size
  have HK5 := aP (HK4.out.trans hk5)
  go_wp2_with fail
  refine (HBL.out (k3 + 1) _ kom hd5).mono ?_
  intro e W6 hq
  rcases hq.cases with ⟨kx, hr, hm, hk6⟩ | ⟨a6, k6, hr, hret, hd6, hk6⟩
  ·exact k_9
  replace HS := aP (HS.out.trans (by rw [hr, thn_ok]))
  clear hr hq
  have lb6 := hk6.size
  obtain ⟨u, rfl, hrowu⟩ := hret
  obtain ⟨Au, Nu, Cu, rfl, hff⟩ := hrowu.form
  clear hff
  have HROWu := aP hrowu
  clear hrowu
  have HK6 := aP (HK5.out.trans hk6)
  have HBA := aP ((HB4.out.kept hk5 kom).kept hk6 kom)
  have HBB := aP ((HBW4.out.kept hk5 kom).kept hk6 kom)
  have HX6 := aP ((HX4.out.kept hk5 (fun g _ h => by have h : g = R := h; show _ ∨ _; omega)).kept hk6 (fun g _ h => by have h : g = R := h; show _ ∨ _; omega))
  have HROW6 := aP ((HROW4.out.kept hk5 (fun g _ h => by have h : g = R := h; show g < _; first | omega | (rw [World.size_alloc]; omega))).kept hk6 (fun g _ h => by have h : g = R := h; show g < _; first | omega | (rw [World.size_alloc]; omega)))
  clear HB4 HBW4
  go_wp2_with (first | ((with_reducible refine ats ?_); (refine wpList_store_part rfl rfl 52 (.tmp 16) (.tmp 15) rfl (W1.heap.size) 20 rfl [.slice Au Nu Cu] rfl HBA.out kle krf k1c ?_; intro W7 hB7 hk7; replace hB7 : Cells W7 (W1.heap.size) 63 [.int .i64 4, .int .i64 0, .int .i64 0, .string ⟨#[]⟩, .string ⟨#[]⟩, .int .i64 kx, .int .i64 mx, .string sx, .int .i64 slx, .bool lox, .int .i64 ox, .slice Ax Nx Cx, .int .i64 0, .int .i64 0, .string ⟨#[]⟩, .int .i64 0, .bool false, .int .i64 0, .slice none 0 0, .slice Av Nv Cv, .slice Au Nu Cu, .int .i64 0, .int .i64 0, .int .i64 0, .bool false] := (by simpa using hB7); have HB7 := aP hB7; clear hB7)) | ((with_reducible refine atl ?_); (refine wpList_load_cells rfl 63 (.tmp 3) rfl (W1.heap.size) rfl _ Tryz.underlying63 rfl HB7.out krf ?_)) | ((with_reducible refine ats ?_); (refine wpList_store_all rfl rfl 63 (.tmp 2) (.tmp 17) rfl (w.heap.size) rfl [.int .i64 4, .int .i64 0, .int .i64 0, .string ⟨#[]⟩, .string ⟨#[]⟩, .int .i64 kx, .int .i64 mx, .string sx, .int .i64 slx, .bool lox, .int .i64 ox, .slice Ax Nx Cx, .int .i64 0, .int .i64 0, .string ⟨#[]⟩, .int .i64 0, .bool false, .int .i64 0, .slice none 0 0, .slice Av Nv Cv, .slice Au Nu Cu, .int .i64 0, .int .i64 0, .int .i64 0, .bool false] rfl (HBB.out.kept hk7 kom) (by rfl) krf k1c ?_; intro W8 hB8 hk8; have HB8 := aP hB8; clear hB8)))
  refine ret_box Tryz.results70 rfl HB8.out Tryz.underlying63 rfl krf rfl (Parsed.ok HS.out ⟨_, rfl, ?_⟩ kdr ((HK6.out.own hk7 kom).own hk8 kom))
  exact SV.mk 4 ⟨#[]⟩ ⟨#[]⟩ (((HX6.out.kept hk7 (fun g _ h => by have h : g = W1.heap.size := h; show _ ∨ _; omega)).kept hk8 (fun g _ h => by have h : g = w.heap.size := h; show _ ∨ _; omega)).mono (fun g _ h => by have h : g < w.heap.size := h; show _ ∨ _; omega)) (EV.zero _ _) (((HROW6.out.kept hk7 (fun g _ h => by have h : g = W1.heap.size := h; show g < _; first | omega | (rw [World.size_alloc]; omega))).kept hk8 (fun g _ h => by have h : g = w.heap.size := h; show g < _; first | omega | (rw [World.size_alloc]; omega))).mono (fun g _ h => by have h : g < w.heap.size := h; show g < _; first | omega | (rw [World.size_alloc]; omega))) (((HROWu.out.kept hk7 (fun g _ h => by have h : g = W1.heap.size := h; show g < _; first | omega | (rw [World.size_alloc]; omega))).kept hk8 (fun g _ h => by have h : g = w.heap.size := h; show g < _; first | omega | (rw [World.size_alloc]; omega))).mono (fun g _ h => by have h : g < w.heap.size := h; show g < _; first | omega | (rw [World.size_alloc]; omega)))
end
end Go.Proofs.YtjkgepppoopheaaGreatDoor
