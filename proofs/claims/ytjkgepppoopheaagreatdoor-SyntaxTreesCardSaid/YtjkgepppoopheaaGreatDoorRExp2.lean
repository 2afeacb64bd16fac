/- The document's text of an expression that may be, kind by kind, and so of each (conditions: the library's table of powers of ten stands). -/
import Derived.Test.YtjkgepppoopheaaGreatDoorRExp
namespace Go.Proofs.YtjkgepppoopheaaGreatDoor
open Go.RowKit Go.Shelf

theorem keep_cell {W W' : World} (hk : Kept noX W W') {b o : Nat} {v : Value} (h : W.cell? ⟨b, o, none⟩ = some v) : W'.cell? ⟨b, o, none⟩ = some v := by
  rw [← h]
  exact World.cell?_of_block (hk.block _ (block_lt_of h) (fun hX => hX.elim))

theorem ba_sz1 (b : UInt8) : (⟨#[b]⟩ : ByteArray).size = 1 := rfl

section
variable {d : Nat} {m : Int} {n : ByteArray} {sl : Int} {lo : Bool} {o : Int} {w : World}
set_option maxRecDepth 100000 in
set_option maxHeartbeats 1000000 in
theorem rexpr_num (h0 : 0 ≤ m) (h1 : m ≤ 2147483647) (hT : TabAt w) (l : List ET) {A : Option Addr} {N C : Nat}:
    Calls Tryz.prog 28 #[.agg #[.int .i64 1, .int .i64 m, .string n, .int .i64 sl, .bool lo, .int .i64 o, .slice A N C]] w (Tells w (exprT (d + 1) 0 (.node 1 m n sl lo o l))) := by
  obtain ⟨w0, hw0⟩ : ∃ w0, w0 = w.alloc (.cells #[.int .i64 1, .int .i64 m, .string n, .int .i64 sl, .bool lo, .int .i64 o, .slice A N C] 44) := ⟨_, rfl⟩
  have hkw : Kept noX w w0 := by rw [hw0]; exact (Kept.refl _ _).alloc _
  have HB := Lib.hid (show Cells w0 w.heap.size 44 [.int .i64 1, .int .i64 m, .string n, .int .i64 sl, .bool lo, .int .i64 o, .slice A N C] from by rw [hw0]; exact Cells.fresh w 44 _)
  have HT : Hid (exprT (d + 1) 0 (.node 1 m n sl lo o l) = itoaB m) := Lib.hid (by rw [exprT]; rfl)
  have HF := Lib.hid (fmt_calls (W := w0) m (by omega) (by omega) (hT.kept hkw (fun _ h => h.elim)))
  clear hT h0 h1
  go_enter Tryz.func28, Tryz.ntmps28
  go_wp2_with fail
  rw [← hw0]
  clear hw0
  refine HF.out.mono ?_
  rintro e W1 ⟨rfl, hk1⟩
  go_wp2
  go_ret
  exact ⟨by rw [HT.out]; rfl, hkw.trans hk1⟩
set_option maxRecDepth 100000 in
set_option maxHeartbeats 1000000 in
theorem rexpr_name (l : List ET) {A : Option Addr} {N C : Nat}:
    Calls Tryz.prog 28 #[.agg #[.int .i64 2, .int .i64 m, .string n, .int .i64 sl, .bool lo, .int .i64 o, .slice A N C]] w (Tells w (exprT (d + 1) 0 (.node 2 m n sl lo o l))) := by
  have hkw : Kept noX w (w.alloc (.cells #[.int .i64 2, .int .i64 m, .string n, .int .i64 sl, .bool lo, .int .i64 o, .slice A N C] 44)) := (Kept.refl _ _).alloc _
  have HT : Hid (exprT (d + 1) 0 (.node 2 m n sl lo o l) = n) := Lib.hid (by rw [exprT]; rfl)
  go_enter Tryz.func28, Tryz.ntmps28
  go_wp2
  go_ret
  exact ⟨by rw [HT.out]; rfl, hkw⟩
set_option maxRecDepth 100000 in
set_option maxHeartbeats 1000000 in
theorem rexpr_neg (hd : d ≤ 24) (hIn : RInC d) {v : Value} {x : ET} (hv : RowV w noX v (ET.ds [x])) (hx : mayE d x = true) (hT : TabAt w):
    Calls Tryz.prog 28 #[.agg #[.int .i64 4, .int .i64 m, .string n, .int .i64 sl, .bool lo, .int .i64 o, v]] w (Tells w (exprT (d + 1) 0 (.node 4 m n sl lo o [x]))) := by
  obtain ⟨A, N, C, rfl, hN, hNC, hCm⟩ := hv.form
  have hN2 : N = 1 := by simpa using hN
  subst hN2
  clear hN
  obtain ⟨g, o1, c1, k1, m1, s1, sl1, lo1, q1, A1, N1, C1, hv1, hev1, hc1⟩ := ET.arg hv (i := 0) (show 0 < 1 from by decide)
  injection hv1 with hA hN hC
  subst hA hC
  clear hN
  have hcr : ∀ W', Kept noX w W' → ∀ j u, ([.int .i64 k1, .int .i64 m1, .string s1, .int .i64 sl1, .bool lo1, .int .i64 q1, .slice A1 N1 C1] : List Value)[j]? = some u → W'.cell? ⟨g, o1 + j, none⟩ = some u := fun W' hk j u hu => by
    have hj : j < 7 := (List.getElem?_eq_some_iff.1 hu).1
    have h2 := hc1 j hj
    rw [Nat.zero_mul, Nat.zero_add] at h2
    exact keep_cell hk (h2.trans hu)
  have HCR := Lib.hid hcr
  have HT : Hid (exprT (d + 1) 0 (.node 4 m n sl lo o [x]) = ⟨#[45]⟩ ++ exprT d 5 x) := Lib.hid (by rw [exprT]; rfl)
  have hsz := (exprT_size d 5 x hx).2
  have h2d : 2 ^ d ≤ 2 ^ 24 := Nat.pow_le_pow_right (by decide) hd
  have HI : Hid (∀ W, Kept noX w W → Calls Tryz.prog 54 #[.agg #[.int .i64 k1, .int .i64 m1, .string s1, .int .i64 sl1, .bool lo1, .int .i64 q1, .slice A1 N1 C1], .int .i64 6] W (Tells W (exprT d 5 x))) := Lib.hid (fun W hk => hIn 5 (Nat.le_refl _) x _ W (hev1.keep hk) hx (hT.kept hk (fun _ h => h.elim)))
  obtain ⟨t1, ht1⟩ : ∃ t, t = exprT d 5 x := ⟨_, rfl⟩
  rw [← ht1] at hsz HI HT
  have hb : t1.size ≤ 1000000000 := by omega
  have hkw : Kept noX w (w.alloc (.cells #[.int .i64 4, .int .i64 m, .string n, .int .i64 sl, .bool lo, .int .i64 o, .slice (some ⟨g, o1, none⟩) 1 C] 44)) := (Kept.refl _ _).alloc _
  clear hv hx hT hIn hev1 hc1 hcr ht1 hsz h2d hd
  go_enter Tryz.func28, Tryz.ntmps28
  go_wp2_with ((with_reducible show wpList _ _ _ (Oper.mk _ (Op.load _ _) _ _ _ _ :: _) _ _); refine wpList_load_part rfl 44 (.tmp 32) rfl g o1 rfl _ Tryz.underlying44 rfl _ (by kernel_rfl) (HCR.out _ hkw) ?_)
  refine (HI.out _ hkw).mono ?_
  rintro e W1 ⟨rfl, hk1⟩
  go_wp2
  go_ret
  exact ⟨by rw [HT.out]; rfl, hkw.trans hk1⟩
set_option maxRecDepth 100000 in
set_option maxHeartbeats 1000000 in
theorem rexpr_not (hd : d ≤ 24) (hIn : RInC d) {v : Value} {x : ET} (hv : RowV w noX v (ET.ds [x])) (hx : mayE d x = true) (hT : TabAt w):
    Calls Tryz.prog 28 #[.agg #[.int .i64 5, .int .i64 m, .string n, .int .i64 sl, .bool lo, .int .i64 o, v]] w (Tells w (exprT (d + 1) 0 (.node 5 m n sl lo o [x]))) := by
  obtain ⟨A, N, C, rfl, hN, hNC, hCm⟩ := hv.form
  have hN2 : N = 1 := by simpa using hN
  subst hN2
  clear hN
  obtain ⟨g, o1, c1, k1, m1, s1, sl1, lo1, q1, A1, N1, C1, hv1, hev1, hc1⟩ := ET.arg hv (i := 0) (show 0 < 1 from by decide)
  injection hv1 with hA hN hC
  subst hA hC
  clear hN
  have hcr : ∀ W', Kept noX w W' → ∀ j u, ([.int .i64 k1, .int .i64 m1, .string s1, .int .i64 sl1, .bool lo1, .int .i64 q1, .slice A1 N1 C1] : List Value)[j]? = some u → W'.cell? ⟨g, o1 + j, none⟩ = some u := fun W' hk j u hu => by
    have hj : j < 7 := (List.getElem?_eq_some_iff.1 hu).1
    have h2 := hc1 j hj
    rw [Nat.zero_mul, Nat.zero_add] at h2
    exact keep_cell hk (h2.trans hu)
  have HCR := Lib.hid hcr
  have HT : Hid (exprT (d + 1) 0 (.node 5 m n sl lo o [x]) = ⟨#[33]⟩ ++ exprT d 5 x) := Lib.hid (by rw [exprT]; rfl)
  have hsz := (exprT_size d 5 x hx).2
  have h2d : 2 ^ d ≤ 2 ^ 24 := Nat.pow_le_pow_right (by decide) hd
  have HI : Hid (∀ W, Kept noX w W → Calls Tryz.prog 54 #[.agg #[.int .i64 k1, .int .i64 m1, .string s1, .int .i64 sl1, .bool lo1, .int .i64 q1, .slice A1 N1 C1], .int .i64 6] W (Tells W (exprT d 5 x))) := Lib.hid (fun W hk => hIn 5 (Nat.le_refl _) x _ W (hev1.keep hk) hx (hT.kept hk (fun _ h => h.elim)))
  obtain ⟨t1, ht1⟩ : ∃ t, t = exprT d 5 x := ⟨_, rfl⟩
  rw [← ht1] at hsz HI HT
  have hb : t1.size ≤ 1000000000 := by omega
  have hkw : Kept noX w (w.alloc (.cells #[.int .i64 5, .int .i64 m, .string n, .int .i64 sl, .bool lo, .int .i64 o, .slice (some ⟨g, o1, none⟩) 1 C] 44)) := (Kept.refl _ _).alloc _
  clear hv hx hT hIn hev1 hc1 hcr ht1 hsz h2d hd
  go_enter Tryz.func28, Tryz.ntmps28
  go_wp2_with ((with_reducible show wpList _ _ _ (Oper.mk _ (Op.load _ _) _ _ _ _ :: _) _ _); refine wpList_load_part rfl 44 (.tmp 40) rfl g o1 rfl _ Tryz.underlying44 rfl _ (by kernel_rfl) (HCR.out _ hkw) ?_)
  refine (HI.out _ hkw).mono ?_
  rintro e W1 ⟨rfl, hk1⟩
  go_wp2
  go_ret
  exact ⟨by rw [HT.out]; rfl, hkw.trans hk1⟩
set_option maxRecDepth 100000 in
set_option maxHeartbeats 1000000 in
theorem rexpr_cell (hd : d ≤ 24) (hEx : RExpC d) {v : Value} {x : ET} (hv : RowV w noX v (ET.ds [x])) (hn : n.size ≤ 16) (hx : mayE d x = true) (hT : TabAt w):
    Calls Tryz.prog 28 #[.agg #[.int .i64 3, .int .i64 m, .string n, .int .i64 sl, .bool lo, .int .i64 o, v]] w (Tells w (exprT (d + 1) 0 (.node 3 m n sl lo o [x]))) := by
  obtain ⟨A, N, C, rfl, hN, hNC, hCm⟩ := hv.form
  have hN2 : N = 1 := by simpa using hN
  subst hN2
  clear hN
  obtain ⟨g, o1, c1, k1, m1, s1, sl1, lo1, q1, A1, N1, C1, hv1, hev1, hc1⟩ := ET.arg hv (i := 0) (show 0 < 1 from by decide)
  injection hv1 with hA hN hC
  subst hA hC
  clear hN
  have c10 := hc1 0 (by decide); have c11 := hc1 1 (by decide); have c12 := hc1 2 (by decide); have c13 := hc1 3 (by decide); have c14 := hc1 4 (by decide); have c15 := hc1 5 (by decide); have c16 := hc1 6 (by decide)
  simp only [List.getElem?_cons_zero, List.getElem?_cons_succ, Nat.zero_mul, Nat.zero_add, Nat.add_zero] at c10 c11 c12 c13 c14 c15 c16
  obtain ⟨w0, hw0⟩ : ∃ w0, w0 = w.alloc (.cells #[.int .i64 3, .int .i64 m, .string n, .int .i64 sl, .bool lo, .int .i64 o, .slice (some ⟨g, o1, none⟩) 1 C] 44) := ⟨_, rfl⟩
  have hkw : Kept noX w w0 := by rw [hw0]; exact (Kept.refl _ _).alloc _
  have HB := Lib.hid (show Cells w0 w.heap.size 44 [.int .i64 3, .int .i64 m, .string n, .int .i64 sl, .bool lo, .int .i64 o, .slice (some ⟨g, o1, none⟩) 1 C] from by rw [hw0]; exact Cells.fresh w 44 _)
  have e2 := HB.out.cell 2; have e6 := HB.out.cell 6
  simp only [List.getElem?_cons_zero, List.getElem?_cons_succ] at e2 e6
  have HT : Hid (exprT (d + 1) 0 (.node 3 m n sl lo o [x]) = ((n ++ ⟨#[91]⟩) ++ exprT d 0 x) ++ ⟨#[93]⟩) := Lib.hid (by
    rw [show exprT (d + 1) 0 (.node 3 m n sl lo o [x]) = (catL [n, ⟨#[91]⟩] ++ exprT d 0 x) ++ catL [⟨#[93]⟩] from by rw [exprT]; rfl]
    simp [catL, ba_an])
  have hsz := (exprT_size d 0 x hx).2
  have h2d : 2 ^ d ≤ 2 ^ 24 := Nat.pow_le_pow_right (by decide) hd
  have HI := Lib.hid (fun W (hk : Kept noX w W) => hEx x _ W (hev1.keep hk) hx (hT.kept hk (fun _ h => h.elim)))
  obtain ⟨t1, ht1⟩ : ∃ t, t = exprT d 0 x := ⟨_, rfl⟩
  rw [← ht1] at hsz HI HT
  have hb : t1.size ≤ 1000000000 := by omega
  have CF := Lib.hid (fun (w' : World) (hk : Kept noX w0 w') => (⟨keep_cell hk e2, keep_cell hk e6, keep_cell hk (keep_cell hkw c10), keep_cell hk (keep_cell hkw c11), keep_cell hk (keep_cell hkw c12), keep_cell hk (keep_cell hkw c13), keep_cell hk (keep_cell hkw c14), keep_cell hk (keep_cell hkw c15), keep_cell hk (keep_cell hkw c16)⟩ : w'.cell? ⟨w.heap.size, 2, none⟩ = some (.string n) ∧ w'.cell? ⟨w.heap.size, 6, none⟩ = some (.slice (some ⟨g, o1, none⟩) 1 C) ∧ w'.cell? ⟨g, o1, none⟩ = some (.int .i64 k1) ∧ w'.cell? ⟨g, o1 + 1, none⟩ = some (.int .i64 m1) ∧ w'.cell? ⟨g, o1 + 2, none⟩ = some (.string s1) ∧ w'.cell? ⟨g, o1 + 3, none⟩ = some (.int .i64 sl1) ∧ w'.cell? ⟨g, o1 + 4, none⟩ = some (.bool lo1) ∧ w'.cell? ⟨g, o1 + 5, none⟩ = some (.int .i64 q1) ∧ w'.cell? ⟨g, o1 + 6, none⟩ = some (.slice A1 N1 C1)))
  clear hv hx hT hEx hev1 hc1 ht1 hsz h2d hd c10 c11 c12 c13 c14 c15 c16 e2 e6
  go_enter Tryz.func28, Tryz.ntmps28
  go_wp2_with fail
  rw [← hw0]
  clear hw0
  have hkd : Kept noX w0 w0.drew := (Kept.refl _ _).drew
  refine wp_region_held_drew (S := (fun w' => w'.cell? ⟨w.heap.size, 2, none⟩ = some (.string n) ∧ w'.cell? ⟨w.heap.size, 6, none⟩ = some (.slice (some ⟨g, o1, none⟩) 1 C) ∧ w'.cell? ⟨g, o1, none⟩ = some (.int .i64 k1) ∧ w'.cell? ⟨g, o1 + 1, none⟩ = some (.int .i64 m1) ∧ w'.cell? ⟨g, o1 + 2, none⟩ = some (.string s1) ∧ w'.cell? ⟨g, o1 + 3, none⟩ = some (.int .i64 sl1) ∧ w'.cell? ⟨g, o1 + 4, none⟩ = some (.bool lo1) ∧ w'.cell? ⟨g, o1 + 5, none⟩ = some (.int .i64 q1) ∧ w'.cell? ⟨g, o1 + 6, none⟩ = some (.slice A1 N1 C1))) (by kernel_rfl) (CF.out _ hkd) (fun hHeld => ?_)
  refine wpAnyH_take (i := 0) (v := ?_) rfl (by kernel_rfl) (by kernel_rfl) (by kernel_rfl) (fun _ _ _ h => h) (Or.inl ⟨by rfl, ?_⟩) (by assumption) ?_
  rotate_left
  · intro wS hSw
    (try dsimp only at hSw)
    go_simp
    (try (rw [if_neg (by (try simp only [ByteArray.size_append, ba_sz1]); omega)]))
    (try with_reducible rfl)
  refine wpAnyH_take (i := 1) (v := ?_) rfl (by kernel_rfl) (by kernel_rfl) (by kernel_rfl) (fun _ _ _ h => h) (Or.inl ⟨by rfl, ?_⟩) (by assumption) ?_
  rotate_left
  · intro wS hSw
    (try dsimp only at hSw)
    go_simp
    (try (rw [if_neg (by (try simp only [ByteArray.size_append, ba_sz1]); omega)]))
    (try with_reducible rfl)
  refine wpAnyH_take (i := 2) (v := ?_) rfl (by kernel_rfl) (by kernel_rfl) (by kernel_rfl) (fun _ _ _ h => h) (Or.inl ⟨by rfl, ?_⟩) (by assumption) ?_
  rotate_left
  · intro wS hSw
    (try dsimp only at hSw)
    go_simp
    (try (rw [if_neg (by (try simp only [ByteArray.size_append, ba_sz1]); omega)]))
    (try with_reducible rfl)
  refine wpAnyH_take (i := 3) (v := ?_) rfl (by kernel_rfl) (by kernel_rfl) (by kernel_rfl) (fun _ _ _ h => h) (Or.inl ⟨by rfl, ?_⟩) (by assumption) ?_
  rotate_left
  · intro wS hSw
    (try dsimp only at hSw)
    go_simp
    (try (rw [if_neg (by (try simp only [ByteArray.size_append, ba_sz1]); omega)]))
    (try with_reducible rfl)
  refine wpAnyH_take (i := 4) (v := ?_) rfl (by kernel_rfl) (by kernel_rfl) (by kernel_rfl) (fun _ _ _ h => h) (Or.inl ⟨by rfl, ?_⟩) (by assumption) ?_
  rotate_left
  · intro wS hSw
    (try dsimp only at hSw)
    go_simp
    (try (rw [if_neg (by (try simp only [ByteArray.size_append, ba_sz1]); omega)]))
    (try with_reducible rfl)
  refine wpAnyH_take (i := 5) (v := ?_) rfl (by kernel_rfl) (by kernel_rfl) (by kernel_rfl) (fun _ _ _ h => h) (Or.inl ⟨by rfl, ?_⟩) (by assumption) ?_
  rotate_left
  · intro wS hSw
    (try dsimp only at hSw)
    go_simp
    (try (rw [if_neg (by (try simp only [ByteArray.size_append, ba_sz1]); omega)]))
    (try with_reducible rfl)
  refine wpAnyH_take (i := 6) (v := ?_) rfl (by kernel_rfl) (by kernel_rfl) (by kernel_rfl) (fun _ _ _ h => h) (Or.inl ⟨by rfl, ?_⟩) (by assumption) ?_
  rotate_left
  · intro wS hSw
    (try dsimp only at hSw)
    go_simp
    (try (rw [if_neg (by (try simp only [ByteArray.size_append, ba_sz1]); omega)]))
    (try with_reducible rfl)
  refine wpAnyH_ready (rs := [7]) (by kernel_rfl) (by simp) ?_
  refine (AllReadyH.cons rfl (fun K hK => ?_) AllReadyH.nil)
  go_simp
  refine (HI.out _ (hkw.trans hkd)).mono ?_
  rintro e W1 ⟨rfl, hk1⟩
  dsimp only
  refine hK.out _ _ (CF.out _ (hkd.trans hk1)) (fun hHeld => ?_)
  clear hK K
  refine wpAnyH_take (i := 8) (v := ?_) rfl (by kernel_rfl) (by kernel_rfl) (by kernel_rfl) (fun _ _ _ h => h) (Or.inl ⟨by rfl, ?_⟩) (by assumption) ?_
  rotate_left
  · intro wS hSw
    (try dsimp only at hSw)
    go_simp
    (try (rw [if_neg (by (try simp only [ByteArray.size_append, ba_sz1]); omega)]))
    (try with_reducible rfl)
  refine wpAnyH_take (i := 9) (v := ?_) rfl (by kernel_rfl) (by kernel_rfl) (by kernel_rfl) (fun _ _ _ h => h) (Or.inl ⟨by rfl, ?_⟩) (by assumption) ?_
  rotate_left
  · intro wS hSw
    (try dsimp only at hSw)
    go_simp
    (try (rw [if_neg (by (try simp only [ByteArray.size_append, ba_sz1]); omega)]))
    (try with_reducible rfl)
  refine wpAnyH_take (i := 10) (v := ?_) rfl (by kernel_rfl) (by kernel_rfl) (by kernel_rfl) (fun _ _ _ h => h) (Or.inl ⟨by rfl, ?_⟩) (by assumption) ?_
  rotate_left
  · intro wS hSw
    (try dsimp only at hSw)
    go_simp
    (try (rw [if_neg (by (try simp only [ByteArray.size_append, ba_sz1]); omega)]))
    (try with_reducible rfl)
  refine wpAnyH_done (by kernel_rfl) ?_ _
  go_wp2
  go_ret
  exact ⟨by rw [HT.out]; rfl, (hkw.trans hkd).trans hk1⟩
set_option maxRecDepth 100000 in
set_option maxHeartbeats 2000000 in
theorem rexpr_bin3 {u : Nat} (h3 : (rankOf u == 3) = true) (hd : d ≤ 24) (hIn : RInC d) {v : Value} {x y : ET} (hv : RowV w noX v (ET.ds [x, y])) (hu1 : 0 < u) (hu2 : u < 12) (hx : mayE d x = true) (hy : mayE d y = true) (hT : TabAt w) :
    Calls Tryz.prog 28 #[.agg #[.int .i64 6, .int .i64 m, .string n, .int .i64 sl, .bool lo, .int .i64 u, v]] w (Tells w (exprT (d + 1) 0 (.node 6 m n sl lo u [x, y]))) := by
  obtain ⟨A, N, C, rfl, hN, hNC, hCm⟩ := hv.form
  have hN2 : N = 2 := by simpa using hN
  subst hN2
  clear hN
  obtain ⟨g, o1, c1, k1, m1, s1, sl1, lo1, q1, A1, N1, C1, hv1, hev1, hc1⟩ := ET.arg hv (i := 0) (show 0 < 2 from by decide)
  obtain ⟨g2, o2, c2, k2, m2, s2, sl2, lo2, q2, A2, N2, C2, hv2, hev2, hc2⟩ := ET.arg hv (i := 1) (show 1 < 2 from by decide)
  injection hv1 with hA hN hC
  subst hA hC
  clear hN
  injection hv2 with hA hN hC
  injection hA with hA
  injection hA with hA1 hA2 _
  subst hA1 hA2
  clear hN hC
  have c10 := hc1 0 (by decide); have c11 := hc1 1 (by decide); have c12 := hc1 2 (by decide); have c13 := hc1 3 (by decide); have c14 := hc1 4 (by decide); have c15 := hc1 5 (by decide); have c16 := hc1 6 (by decide)
  have c20 := hc2 0 (by decide); have c21 := hc2 1 (by decide); have c22 := hc2 2 (by decide); have c23 := hc2 3 (by decide); have c24 := hc2 4 (by decide); have c25 := hc2 5 (by decide); have c26 := hc2 6 (by decide)
  simp only [List.getElem?_cons_zero, List.getElem?_cons_succ, Nat.zero_mul, Nat.one_mul, Nat.zero_add, Nat.add_zero, ← Nat.add_assoc] at c10 c11 c12 c13 c14 c15 c16 c20 c21 c22 c23 c24 c25 c26
  obtain ⟨w0, hw0⟩ : ∃ w0, w0 = w.alloc (.cells #[.int .i64 6, .int .i64 m, .string n, .int .i64 sl, .bool lo, .int .i64 u, .slice (some ⟨g, o1, none⟩) 2 C] 44) := ⟨_, rfl⟩
  have hkw : Kept noX w w0 := by rw [hw0]; exact (Kept.refl _ _).alloc _
  have HB := Lib.hid (show Cells w0 w.heap.size 44 [.int .i64 6, .int .i64 m, .string n, .int .i64 sl, .bool lo, .int .i64 u, .slice (some ⟨g, o1, none⟩) 2 C] from by rw [hw0]; exact Cells.fresh w 44 _)
  have e5 := HB.out.cell 5; have e6 := HB.out.cell 6
  simp only [List.getElem?_cons_zero, List.getElem?_cons_succ] at e5 e6
  obtain ⟨hrk, hr4⟩ := rankOf_is hu1 hu2
  have hT6 : exprT (d + 1) 0 (.node 6 m n sl lo u [x, y]) = ((exprT d (leftS (opRank u)) x) ++ catL [⟨#[32]⟩, opSign u, ⟨#[32]⟩]) ++ exprT d (opRank u + 1) y := by
    rw [exprT, if_neg (by decide), if_neg (by decide), if_neg (by decide), if_neg (by decide), if_neg (by decide), if_neg (Nat.not_lt_zero _)]; rfl
  have hlr : (leftS (opRank (u : Int)) : Int) + 1 = if rankOf u = 3 then 4 else rankOf u := by
    rw [hrk]
    by_cases h2 : opRank (u : Int) = 2
    · rw [h2, if_pos (by decide)]; rfl
    · rw [if_neg (by omega), leftS, if_neg h2]
  have hl5 : leftS (opRank (u : Int)) ≤ 5 := by
    unfold leftS; split <;> omega
  have hr5 : opRank (u : Int) + 1 ≤ 5 := by omega
  have HRK := Lib.hid (fun W => rank_any u hu2 W)
  have HSG := Lib.hid (fun W => rsign_any u hu2 W)
  rw [signOf_is hu1 hu2] at HSG
  have hsg := opSign_size (u : Int) (by omega) (by omega)
  have HL : Hid (∀ W, Kept noX w W → Calls Tryz.prog 54 #[.agg #[.int .i64 k1, .int .i64 m1, .string s1, .int .i64 sl1, .bool lo1, .int .i64 q1, .slice A1 N1 C1], .int .i64 ((leftS (opRank (u : Int)) : Int) + 1)] W (Tells W (exprT d (leftS (opRank u)) x))) := Lib.hid (fun W hk => hIn _ hl5 x _ W (hev1.keep hk) hx (hT.kept hk (fun _ h => h.elim)))
  have HR : Hid (∀ W, Kept noX w W → Calls Tryz.prog 54 #[.agg #[.int .i64 k2, .int .i64 m2, .string s2, .int .i64 sl2, .bool lo2, .int .i64 q2, .slice A2 N2 C2], .int .i64 (((opRank (u : Int) + 1 : Nat) : Int) + 1)] W (Tells W (exprT d (opRank u + 1) y))) := Lib.hid (fun W hk => hIn _ hr5 y _ W (hev2.keep hk) hy (hT.kept hk (fun _ h => h.elim)))
  have er : ((opRank (u : Int) + 1 : Nat) : Int) + 1 = rankOf u + 1 := by rw [hrk]; omega
  rw [er] at HR
  rw [hlr] at HL
  have hs1 := (exprT_size d (leftS (opRank (u : Int))) x hx).2
  have hs2 := (exprT_size d (opRank (u : Int) + 1) y hy).2
  have h2d : 2 ^ d ≤ 2 ^ 24 := Nat.pow_le_pow_right (by decide) hd
  obtain ⟨t1, ht1⟩ : ∃ t, t = exprT d (leftS (opRank (u : Int))) x := ⟨_, rfl⟩
  obtain ⟨t2, ht2⟩ : ∃ t, t = exprT d (opRank (u : Int) + 1) y := ⟨_, rfl⟩
  obtain ⟨sg, hsgn⟩ : ∃ t, t = opSign (u : Int) := ⟨_, rfl⟩
  rw [← ht1] at hs1 HL hT6
  rw [← ht2] at hs2 HR hT6
  rw [← hsgn] at HSG hsg hT6
  have hb1 : t1.size ≤ 1000000000 := by omega
  have hb2 : t2.size ≤ 1000000000 := by omega
  have HT : Hid (exprT (d + 1) 0 (.node 6 m n sl lo u [x, y]) = (((t1 ++ ⟨#[32]⟩) ++ sg) ++ ⟨#[32]⟩) ++ t2) := Lib.hid (by
    rw [hT6]
    simp only [catL, ByteArray.append_assoc, ba_an])
  have hrr : 1 ≤ rankOf u ∧ rankOf u ≤ 5 := by omega
  obtain ⟨hrr1, hrr2⟩ := hrr
  generalize rankOf u = r at HRK HL HR hrr1 hrr2 h3
  have CF := Lib.hid (fun (w' : World) (hk : Kept noX w0 w') => (⟨keep_cell hk e5, keep_cell hk e6, keep_cell hk (keep_cell hkw c10), keep_cell hk (keep_cell hkw c11), keep_cell hk (keep_cell hkw c12), keep_cell hk (keep_cell hkw c13), keep_cell hk (keep_cell hkw c14), keep_cell hk (keep_cell hkw c15), keep_cell hk (keep_cell hkw c16), keep_cell hk (keep_cell hkw c20), keep_cell hk (keep_cell hkw c21), keep_cell hk (keep_cell hkw c22), keep_cell hk (keep_cell hkw c23), keep_cell hk (keep_cell hkw c24), keep_cell hk (keep_cell hkw c25), keep_cell hk (keep_cell hkw c26)⟩ : w'.cell? ⟨w.heap.size, 5, none⟩ = some (.int .i64 u) ∧ w'.cell? ⟨w.heap.size, 6, none⟩ = some (.slice (some ⟨g, o1, none⟩) 2 C) ∧ w'.cell? ⟨g, o1, none⟩ = some (.int .i64 k1) ∧ w'.cell? ⟨g, o1 + 1, none⟩ = some (.int .i64 m1) ∧ w'.cell? ⟨g, o1 + 2, none⟩ = some (.string s1) ∧ w'.cell? ⟨g, o1 + 3, none⟩ = some (.int .i64 sl1) ∧ w'.cell? ⟨g, o1 + 4, none⟩ = some (.bool lo1) ∧ w'.cell? ⟨g, o1 + 5, none⟩ = some (.int .i64 q1) ∧ w'.cell? ⟨g, o1 + 6, none⟩ = some (.slice A1 N1 C1) ∧ w'.cell? ⟨g, o1 + 7, none⟩ = some (.int .i64 k2) ∧ w'.cell? ⟨g, o1 + 7 + 1, none⟩ = some (.int .i64 m2) ∧ w'.cell? ⟨g, o1 + 7 + 2, none⟩ = some (.string s2) ∧ w'.cell? ⟨g, o1 + 7 + 3, none⟩ = some (.int .i64 sl2) ∧ w'.cell? ⟨g, o1 + 7 + 4, none⟩ = some (.bool lo2) ∧ w'.cell? ⟨g, o1 + 7 + 5, none⟩ = some (.int .i64 q2) ∧ w'.cell? ⟨g, o1 + 7 + 6, none⟩ = some (.slice A2 N2 C2)))
  clear hv hx hy hT hIn hev1 hev2 hc1 hc2 ht1 ht2 hsgn hs1 hs2 h2d hd hT6 hlr hl5 hr5 er hrk hr4 hu1 hu2 c10 c11 c12 c13 c14 c15 c16 c20 c21 c22 c23 c24 c25 c26 e6
  rw [if_pos (by simpa using h3)] at HL
  go_enter Tryz.func28, Tryz.ntmps28
  go_wp2_with fail
  rw [← hw0]
  clear hw0
  refine (HRK.out _).mono ?_
  rintro e W1 ⟨rfl, hk1⟩
  go_wp2_with fail
  have hkd : Kept noX w0 W1.drew := hk1.drew
  refine wp_region_held_drew (S := (fun w' => w'.cell? ⟨w.heap.size, 5, none⟩ = some (.int .i64 u) ∧ w'.cell? ⟨w.heap.size, 6, none⟩ = some (.slice (some ⟨g, o1, none⟩) 2 C) ∧ w'.cell? ⟨g, o1, none⟩ = some (.int .i64 k1) ∧ w'.cell? ⟨g, o1 + 1, none⟩ = some (.int .i64 m1) ∧ w'.cell? ⟨g, o1 + 2, none⟩ = some (.string s1) ∧ w'.cell? ⟨g, o1 + 3, none⟩ = some (.int .i64 sl1) ∧ w'.cell? ⟨g, o1 + 4, none⟩ = some (.bool lo1) ∧ w'.cell? ⟨g, o1 + 5, none⟩ = some (.int .i64 q1) ∧ w'.cell? ⟨g, o1 + 6, none⟩ = some (.slice A1 N1 C1) ∧ w'.cell? ⟨g, o1 + 7, none⟩ = some (.int .i64 k2) ∧ w'.cell? ⟨g, o1 + 7 + 1, none⟩ = some (.int .i64 m2) ∧ w'.cell? ⟨g, o1 + 7 + 2, none⟩ = some (.string s2) ∧ w'.cell? ⟨g, o1 + 7 + 3, none⟩ = some (.int .i64 sl2) ∧ w'.cell? ⟨g, o1 + 7 + 4, none⟩ = some (.bool lo2) ∧ w'.cell? ⟨g, o1 + 7 + 5, none⟩ = some (.int .i64 q2) ∧ w'.cell? ⟨g, o1 + 7 + 6, none⟩ = some (.slice A2 N2 C2))) (by kernel_rfl) (CF.out _ hkd) (fun hHeld => ?_)
  refine wpAnyH_take (i := 0) (v := ?_) rfl (by kernel_rfl) (by kernel_rfl) (by kernel_rfl) (fun _ _ _ h => h) (Or.inl ⟨by rfl, ?_⟩) (by assumption) ?_
  rotate_left
  · intro wS hSw
    (try dsimp only at hSw)
    go_simp
    (try (rw [if_neg (by (try simp only [ByteArray.size_append, ba_sz1]); omega)]))
    (try with_reducible rfl)
  refine wpAnyH_take (i := 1) (v := ?_) rfl (by kernel_rfl) (by kernel_rfl) (by kernel_rfl) (fun _ _ _ h => h) (Or.inl ⟨by rfl, ?_⟩) (by assumption) ?_
  rotate_left
  · intro wS hSw
    (try dsimp only at hSw)
    go_simp
    (try (rw [if_neg (by (try simp only [ByteArray.size_append, ba_sz1]); omega)]))
    (try with_reducible rfl)
  refine wpAnyH_take (i := 2) (v := ?_) rfl (by kernel_rfl) (by kernel_rfl) (by kernel_rfl) (fun _ _ _ h => h) (Or.inl ⟨by rfl, ?_⟩) (by assumption) ?_
  rotate_left
  · intro wS hSw
    (try dsimp only at hSw)
    go_simp
    (try (rw [if_neg (by (try simp only [ByteArray.size_append, ba_sz1]); omega)]))
    (try with_reducible rfl)
  refine wpAnyH_take (i := 3) (v := ?_) rfl (by kernel_rfl) (by kernel_rfl) (by kernel_rfl) (fun _ _ _ h => h) (Or.inl ⟨by rfl, ?_⟩) (by assumption) ?_
  rotate_left
  · intro wS hSw
    (try dsimp only at hSw)
    go_simp
    (try (rw [if_neg (by (try simp only [ByteArray.size_append, ba_sz1]); omega)]))
    (try with_reducible rfl)
  refine wpAnyH_take (i := 4) (v := ?_) rfl (by kernel_rfl) (by kernel_rfl) (by kernel_rfl) (fun _ _ _ h => h) (Or.inl ⟨by rfl, ?_⟩) (by assumption) ?_
  rotate_left
  · intro wS hSw
    (try dsimp only at hSw)
    go_simp
    (try (rw [if_neg (by (try simp only [ByteArray.size_append, ba_sz1]); omega)]))
    (try with_reducible rfl)
  refine wpAnyH_take (i := 7) (v := ?_) rfl (by kernel_rfl) (by kernel_rfl) (by kernel_rfl) (fun _ _ _ h => h) (Or.inl ⟨by rfl, ?_⟩) (by assumption) ?_
  rotate_left
  · intro wS hSw
    (try dsimp only at hSw)
    go_simp
    (try (rw [if_neg (by (try simp only [ByteArray.size_append, ba_sz1]); omega)]))
    (try with_reducible rfl)
  refine wpAnyH_take (i := 8) (v := ?_) rfl (by kernel_rfl) (by kernel_rfl) (by kernel_rfl) (fun _ _ _ h => h) (Or.inl ⟨by rfl, ?_⟩) (by assumption) ?_
  rotate_left
  · intro wS hSw
    (try dsimp only at hSw)
    go_simp
    (try (rw [if_neg (by (try simp only [ByteArray.size_append, ba_sz1]); omega)]))
    (try with_reducible rfl)
  refine wpAnyH_take (i := 12) (v := ?_) rfl (by kernel_rfl) (by kernel_rfl) (by kernel_rfl) (fun _ _ _ h => h) (Or.inl ⟨by rfl, ?_⟩) (by assumption) ?_
  rotate_left
  · intro wS hSw
    (try dsimp only at hSw)
    go_simp
    (try (rw [if_neg (by (try simp only [ByteArray.size_append, ba_sz1]); omega)]))
    (try with_reducible rfl)
  refine wpAnyH_take (i := 13) (v := ?_) rfl (by kernel_rfl) (by kernel_rfl) (by kernel_rfl) (fun _ _ _ h => h) (Or.inl ⟨by rfl, ?_⟩) (by assumption) ?_
  rotate_left
  · intro wS hSw
    (try dsimp only at hSw)
    go_simp
    (try (rw [if_neg (by (try simp only [ByteArray.size_append, ba_sz1]); omega)]))
    (try with_reducible rfl)
  refine wpAnyH_take (i := 14) (v := ?_) rfl (by kernel_rfl) (by kernel_rfl) (by kernel_rfl) (fun _ _ _ h => h) (Or.inl ⟨by rfl, ?_⟩) (by assumption) ?_
  rotate_left
  · intro wS hSw
    (try dsimp only at hSw)
    go_simp
    (try (rw [if_neg (by (try simp only [ByteArray.size_append, ba_sz1]); omega)]))
    (try with_reducible rfl)
  refine wpAnyH_take (i := 15) (v := ?_) rfl (by kernel_rfl) (by kernel_rfl) (by kernel_rfl) (fun _ _ _ h => h) (Or.inl ⟨by rfl, ?_⟩) (by assumption) ?_
  rotate_left
  · intro wS hSw
    (try dsimp only at hSw)
    go_simp
    (try (rw [if_neg (by (try simp only [ByteArray.size_append, ba_sz1]); omega)]))
    (try with_reducible rfl)
  refine wpAnyH_take (i := 16) (v := ?_) rfl (by kernel_rfl) (by kernel_rfl) (by kernel_rfl) (fun _ _ _ h => h) (Or.inl ⟨by rfl, ?_⟩) (by assumption) ?_
  rotate_left
  · intro wS hSw
    (try dsimp only at hSw)
    go_simp
    (try (rw [if_neg (by (try simp only [ByteArray.size_append, ba_sz1]); omega)]))
    (try with_reducible rfl)
  refine wpAnyH_take (i := 17) (v := ?_) rfl (by kernel_rfl) (by kernel_rfl) (by kernel_rfl) (fun _ _ _ h => h) (Or.inl ⟨by rfl, ?_⟩) (by assumption) ?_
  rotate_left
  · intro wS hSw
    (try dsimp only at hSw)
    go_simp
    (try (rw [if_neg (by (try simp only [ByteArray.size_append, ba_sz1]); omega)]))
    (try with_reducible rfl)
  refine wpAnyH_ready (rs := [5]) (by kernel_rfl) (by simp) ?_
  refine (AllReadyH.cons rfl (fun K hK => ?_) AllReadyH.nil)
  go_simp
  refine (HL.out _ (hkw.trans hkd)).mono ?_
  rintro e W2 ⟨rfl, hk2⟩
  dsimp only
  refine hK.out _ _ (CF.out _ (hkd.trans hk2)) (fun hHeld => ?_)
  clear hK K
  refine wpAnyH_take (i := 6) (v := ?_) rfl (by kernel_rfl) (by kernel_rfl) (by kernel_rfl) (fun _ _ _ h => h) (Or.inl ⟨by rfl, ?_⟩) (by assumption) ?_
  rotate_left
  · intro wS hSw
    (try dsimp only at hSw)
    go_simp
    (try (rw [if_neg (by (try simp only [ByteArray.size_append, ba_sz1]); omega)]))
    (try with_reducible rfl)
  refine wpAnyH_ready (rs := [9]) (by kernel_rfl) (by simp) ?_
  refine (AllReadyH.cons rfl (fun K hK => ?_) AllReadyH.nil)
  go_simp
  refine (HSG.out _).mono ?_
  rintro e W3 ⟨rfl, hk3⟩
  dsimp only
  refine hK.out _ _ (CF.out _ ((hkd.trans hk2).trans hk3)) (fun hHeld => ?_)
  clear hK K
  refine wpAnyH_take (i := 10) (v := ?_) rfl (by kernel_rfl) (by kernel_rfl) (by kernel_rfl) (fun _ _ _ h => h) (Or.inl ⟨by rfl, ?_⟩) (by assumption) ?_
  rotate_left
  · intro wS hSw
    (try dsimp only at hSw)
    go_simp
    (try (rw [if_neg (by (try simp only [ByteArray.size_append, ba_sz1]); omega)]))
    (try with_reducible rfl)
  refine wpAnyH_take (i := 11) (v := ?_) rfl (by kernel_rfl) (by kernel_rfl) (by kernel_rfl) (fun _ _ _ h => h) (Or.inl ⟨by rfl, ?_⟩) (by assumption) ?_
  rotate_left
  · intro wS hSw
    (try dsimp only at hSw)
    go_simp
    (try (rw [if_neg (by (try simp only [ByteArray.size_append, ba_sz1]); omega)]))
    (try with_reducible rfl)
  refine wpAnyH_ready (rs := [18]) (by kernel_rfl) (by simp) ?_
  refine (AllReadyH.cons rfl (fun K hK => ?_) AllReadyH.nil)
  go_simp
  rw [IntWalk.i64_in (r + 1) (by omega)]
  refine (HR.out _ (hkw.trans ((hkd.trans hk2).trans hk3))).mono ?_
  rintro e W4 ⟨rfl, hk4⟩
  dsimp only
  refine hK.out _ _ (CF.out _ (((hkd.trans hk2).trans hk3).trans hk4)) (fun hHeld => ?_)
  clear hK K
  refine wpAnyH_take (i := 19) (v := ?_) rfl (by kernel_rfl) (by kernel_rfl) (by kernel_rfl) (fun _ _ _ h => h) (Or.inl ⟨by rfl, ?_⟩) (by assumption) ?_
  rotate_left
  · intro wS hSw
    (try dsimp only at hSw)
    go_simp
    (try (rw [if_neg (by (try simp only [ByteArray.size_append, ba_sz1]); omega)]))
    (try with_reducible rfl)
  refine wpAnyH_take (i := 20) (v := ?_) rfl (by kernel_rfl) (by kernel_rfl) (by kernel_rfl) (fun _ _ _ h => h) (Or.inl ⟨by rfl, ?_⟩) (by assumption) ?_
  rotate_left
  · intro wS hSw
    (try dsimp only at hSw)
    go_simp
    (try (rw [if_neg (by (try simp only [ByteArray.size_append, ba_sz1]); omega)]))
    (try with_reducible rfl)
  refine wpAnyH_done (by kernel_rfl) ?_ _
  go_wp2
  go_ret
  exact ⟨by rw [HT.out]; rfl, hkw.trans (((hkd.trans hk2).trans hk3).trans hk4)⟩
set_option maxRecDepth 100000 in
set_option maxHeartbeats 2000000 in
theorem rexpr_binN {u : Nat} (h3 : (rankOf u == 3) = false) (hd : d ≤ 24) (hIn : RInC d) {v : Value} {x y : ET} (hv : RowV w noX v (ET.ds [x, y])) (hu1 : 0 < u) (hu2 : u < 12) (hx : mayE d x = true) (hy : mayE d y = true) (hT : TabAt w) :
    Calls Tryz.prog 28 #[.agg #[.int .i64 6, .int .i64 m, .string n, .int .i64 sl, .bool lo, .int .i64 u, v]] w (Tells w (exprT (d + 1) 0 (.node 6 m n sl lo u [x, y]))) := by
  obtain ⟨A, N, C, rfl, hN, hNC, hCm⟩ := hv.form
  have hN2 : N = 2 := by simpa using hN
  subst hN2
  clear hN
  obtain ⟨g, o1, c1, k1, m1, s1, sl1, lo1, q1, A1, N1, C1, hv1, hev1, hc1⟩ := ET.arg hv (i := 0) (show 0 < 2 from by decide)
  obtain ⟨g2, o2, c2, k2, m2, s2, sl2, lo2, q2, A2, N2, C2, hv2, hev2, hc2⟩ := ET.arg hv (i := 1) (show 1 < 2 from by decide)
  injection hv1 with hA hN hC
  subst hA hC
  clear hN
  injection hv2 with hA hN hC
  injection hA with hA
  injection hA with hA1 hA2 _
  subst hA1 hA2
  clear hN hC
  have c10 := hc1 0 (by decide); have c11 := hc1 1 (by decide); have c12 := hc1 2 (by decide); have c13 := hc1 3 (by decide); have c14 := hc1 4 (by decide); have c15 := hc1 5 (by decide); have c16 := hc1 6 (by decide)
  have c20 := hc2 0 (by decide); have c21 := hc2 1 (by decide); have c22 := hc2 2 (by decide); have c23 := hc2 3 (by decide); have c24 := hc2 4 (by decide); have c25 := hc2 5 (by decide); have c26 := hc2 6 (by decide)
  simp only [List.getElem?_cons_zero, List.getElem?_cons_succ, Nat.zero_mul, Nat.one_mul, Nat.zero_add, Nat.add_zero, ← Nat.add_assoc] at c10 c11 c12 c13 c14 c15 c16 c20 c21 c22 c23 c24 c25 c26
  obtain ⟨w0, hw0⟩ : ∃ w0, w0 = w.alloc (.cells #[.int .i64 6, .int .i64 m, .string n, .int .i64 sl, .bool lo, .int .i64 u, .slice (some ⟨g, o1, none⟩) 2 C] 44) := ⟨_, rfl⟩
  have hkw : Kept noX w w0 := by rw [hw0]; exact (Kept.refl _ _).alloc _
  have HB := Lib.hid (show Cells w0 w.heap.size 44 [.int .i64 6, .int .i64 m, .string n, .int .i64 sl, .bool lo, .int .i64 u, .slice (some ⟨g, o1, none⟩) 2 C] from by rw [hw0]; exact Cells.fresh w 44 _)
  have e5 := HB.out.cell 5; have e6 := HB.out.cell 6
  simp only [List.getElem?_cons_zero, List.getElem?_cons_succ] at e5 e6
  obtain ⟨hrk, hr4⟩ := rankOf_is hu1 hu2
  have hT6 : exprT (d + 1) 0 (.node 6 m n sl lo u [x, y]) = ((exprT d (leftS (opRank u)) x) ++ catL [⟨#[32]⟩, opSign u, ⟨#[32]⟩]) ++ exprT d (opRank u + 1) y := by
    rw [exprT, if_neg (by decide), if_neg (by decide), if_neg (by decide), if_neg (by decide), if_neg (by decide), if_neg (Nat.not_lt_zero _)]; rfl
  have hlr : (leftS (opRank (u : Int)) : Int) + 1 = if rankOf u = 3 then 4 else rankOf u := by
    rw [hrk]
    by_cases h2 : opRank (u : Int) = 2
    · rw [h2, if_pos (by decide)]; rfl
    · rw [if_neg (by omega), leftS, if_neg h2]
  have hl5 : leftS (opRank (u : Int)) ≤ 5 := by
    unfold leftS; split <;> omega
  have hr5 : opRank (u : Int) + 1 ≤ 5 := by omega
  have HRK := Lib.hid (fun W => rank_any u hu2 W)
  have HSG := Lib.hid (fun W => rsign_any u hu2 W)
  rw [signOf_is hu1 hu2] at HSG
  have hsg := opSign_size (u : Int) (by omega) (by omega)
  have HL : Hid (∀ W, Kept noX w W → Calls Tryz.prog 54 #[.agg #[.int .i64 k1, .int .i64 m1, .string s1, .int .i64 sl1, .bool lo1, .int .i64 q1, .slice A1 N1 C1], .int .i64 ((leftS (opRank (u : Int)) : Int) + 1)] W (Tells W (exprT d (leftS (opRank u)) x))) := Lib.hid (fun W hk => hIn _ hl5 x _ W (hev1.keep hk) hx (hT.kept hk (fun _ h => h.elim)))
  have HR : Hid (∀ W, Kept noX w W → Calls Tryz.prog 54 #[.agg #[.int .i64 k2, .int .i64 m2, .string s2, .int .i64 sl2, .bool lo2, .int .i64 q2, .slice A2 N2 C2], .int .i64 (((opRank (u : Int) + 1 : Nat) : Int) + 1)] W (Tells W (exprT d (opRank u + 1) y))) := Lib.hid (fun W hk => hIn _ hr5 y _ W (hev2.keep hk) hy (hT.kept hk (fun _ h => h.elim)))
  have er : ((opRank (u : Int) + 1 : Nat) : Int) + 1 = rankOf u + 1 := by rw [hrk]; omega
  rw [er] at HR
  rw [hlr] at HL
  have hs1 := (exprT_size d (leftS (opRank (u : Int))) x hx).2
  have hs2 := (exprT_size d (opRank (u : Int) + 1) y hy).2
  have h2d : 2 ^ d ≤ 2 ^ 24 := Nat.pow_le_pow_right (by decide) hd
  obtain ⟨t1, ht1⟩ : ∃ t, t = exprT d (leftS (opRank (u : Int))) x := ⟨_, rfl⟩
  obtain ⟨t2, ht2⟩ : ∃ t, t = exprT d (opRank (u : Int) + 1) y := ⟨_, rfl⟩
  obtain ⟨sg, hsgn⟩ : ∃ t, t = opSign (u : Int) := ⟨_, rfl⟩
  rw [← ht1] at hs1 HL hT6
  rw [← ht2] at hs2 HR hT6
  rw [← hsgn] at HSG hsg hT6
  have hb1 : t1.size ≤ 1000000000 := by omega
  have hb2 : t2.size ≤ 1000000000 := by omega
  have HT : Hid (exprT (d + 1) 0 (.node 6 m n sl lo u [x, y]) = (((t1 ++ ⟨#[32]⟩) ++ sg) ++ ⟨#[32]⟩) ++ t2) := Lib.hid (by
    rw [hT6]
    simp only [catL, ByteArray.append_assoc, ba_an])
  have hrr : 1 ≤ rankOf u ∧ rankOf u ≤ 5 := by omega
  obtain ⟨hrr1, hrr2⟩ := hrr
  generalize rankOf u = r at HRK HL HR hrr1 hrr2 h3
  have CF := Lib.hid (fun (w' : World) (hk : Kept noX w0 w') => (⟨keep_cell hk e5, keep_cell hk e6, keep_cell hk (keep_cell hkw c10), keep_cell hk (keep_cell hkw c11), keep_cell hk (keep_cell hkw c12), keep_cell hk (keep_cell hkw c13), keep_cell hk (keep_cell hkw c14), keep_cell hk (keep_cell hkw c15), keep_cell hk (keep_cell hkw c16), keep_cell hk (keep_cell hkw c20), keep_cell hk (keep_cell hkw c21), keep_cell hk (keep_cell hkw c22), keep_cell hk (keep_cell hkw c23), keep_cell hk (keep_cell hkw c24), keep_cell hk (keep_cell hkw c25), keep_cell hk (keep_cell hkw c26)⟩ : w'.cell? ⟨w.heap.size, 5, none⟩ = some (.int .i64 u) ∧ w'.cell? ⟨w.heap.size, 6, none⟩ = some (.slice (some ⟨g, o1, none⟩) 2 C) ∧ w'.cell? ⟨g, o1, none⟩ = some (.int .i64 k1) ∧ w'.cell? ⟨g, o1 + 1, none⟩ = some (.int .i64 m1) ∧ w'.cell? ⟨g, o1 + 2, none⟩ = some (.string s1) ∧ w'.cell? ⟨g, o1 + 3, none⟩ = some (.int .i64 sl1) ∧ w'.cell? ⟨g, o1 + 4, none⟩ = some (.bool lo1) ∧ w'.cell? ⟨g, o1 + 5, none⟩ = some (.int .i64 q1) ∧ w'.cell? ⟨g, o1 + 6, none⟩ = some (.slice A1 N1 C1) ∧ w'.cell? ⟨g, o1 + 7, none⟩ = some (.int .i64 k2) ∧ w'.cell? ⟨g, o1 + 7 + 1, none⟩ = some (.int .i64 m2) ∧ w'.cell? ⟨g, o1 + 7 + 2, none⟩ = some (.string s2) ∧ w'.cell? ⟨g, o1 + 7 + 3, none⟩ = some (.int .i64 sl2) ∧ w'.cell? ⟨g, o1 + 7 + 4, none⟩ = some (.bool lo2) ∧ w'.cell? ⟨g, o1 + 7 + 5, none⟩ = some (.int .i64 q2) ∧ w'.cell? ⟨g, o1 + 7 + 6, none⟩ = some (.slice A2 N2 C2)))
  clear hv hx hy hT hIn hev1 hev2 hc1 hc2 ht1 ht2 hsgn hs1 hs2 h2d hd hT6 hlr hl5 hr5 er hrk hr4 hu1 hu2 c10 c11 c12 c13 c14 c15 c16 c20 c21 c22 c23 c24 c25 c26 e6
  rw [if_neg (by simpa using h3)] at HL
  go_enter Tryz.func28, Tryz.ntmps28
  go_wp2_with fail
  rw [← hw0]
  clear hw0
  refine (HRK.out _).mono ?_
  rintro e W1 ⟨rfl, hk1⟩
  go_wp2_with fail
  have hkd : Kept noX w0 W1.drew := hk1.drew
  refine wp_region_held_drew (S := (fun w' => w'.cell? ⟨w.heap.size, 5, none⟩ = some (.int .i64 u) ∧ w'.cell? ⟨w.heap.size, 6, none⟩ = some (.slice (some ⟨g, o1, none⟩) 2 C) ∧ w'.cell? ⟨g, o1, none⟩ = some (.int .i64 k1) ∧ w'.cell? ⟨g, o1 + 1, none⟩ = some (.int .i64 m1) ∧ w'.cell? ⟨g, o1 + 2, none⟩ = some (.string s1) ∧ w'.cell? ⟨g, o1 + 3, none⟩ = some (.int .i64 sl1) ∧ w'.cell? ⟨g, o1 + 4, none⟩ = some (.bool lo1) ∧ w'.cell? ⟨g, o1 + 5, none⟩ = some (.int .i64 q1) ∧ w'.cell? ⟨g, o1 + 6, none⟩ = some (.slice A1 N1 C1) ∧ w'.cell? ⟨g, o1 + 7, none⟩ = some (.int .i64 k2) ∧ w'.cell? ⟨g, o1 + 7 + 1, none⟩ = some (.int .i64 m2) ∧ w'.cell? ⟨g, o1 + 7 + 2, none⟩ = some (.string s2) ∧ w'.cell? ⟨g, o1 + 7 + 3, none⟩ = some (.int .i64 sl2) ∧ w'.cell? ⟨g, o1 + 7 + 4, none⟩ = some (.bool lo2) ∧ w'.cell? ⟨g, o1 + 7 + 5, none⟩ = some (.int .i64 q2) ∧ w'.cell? ⟨g, o1 + 7 + 6, none⟩ = some (.slice A2 N2 C2))) (by kernel_rfl) (CF.out _ hkd) (fun hHeld => ?_)
  refine wpAnyH_take (i := 0) (v := ?_) rfl (by kernel_rfl) (by kernel_rfl) (by kernel_rfl) (fun _ _ _ h => h) (Or.inl ⟨by rfl, ?_⟩) (by assumption) ?_
  rotate_left
  · intro wS hSw
    (try dsimp only at hSw)
    go_simp
    (try (rw [if_neg (by (try simp only [ByteArray.size_append, ba_sz1]); omega)]))
    (try with_reducible rfl)
  refine wpAnyH_take (i := 1) (v := ?_) rfl (by kernel_rfl) (by kernel_rfl) (by kernel_rfl) (fun _ _ _ h => h) (Or.inl ⟨by rfl, ?_⟩) (by assumption) ?_
  rotate_left
  · intro wS hSw
    (try dsimp only at hSw)
    go_simp
    (try (rw [if_neg (by (try simp only [ByteArray.size_append, ba_sz1]); omega)]))
    (try with_reducible rfl)
  refine wpAnyH_take (i := 2) (v := ?_) rfl (by kernel_rfl) (by kernel_rfl) (by kernel_rfl) (fun _ _ _ h => h) (Or.inl ⟨by rfl, ?_⟩) (by assumption) ?_
  rotate_left
  · intro wS hSw
    (try dsimp only at hSw)
    go_simp
    (try (rw [if_neg (by (try simp only [ByteArray.size_append, ba_sz1]); omega)]))
    (try with_reducible rfl)
  refine wpAnyH_take (i := 3) (v := ?_) rfl (by kernel_rfl) (by kernel_rfl) (by kernel_rfl) (fun _ _ _ h => h) (Or.inl ⟨by rfl, ?_⟩) (by assumption) ?_
  rotate_left
  · intro wS hSw
    (try dsimp only at hSw)
    go_simp
    (try (rw [if_neg (by (try simp only [ByteArray.size_append, ba_sz1]); omega)]))
    (try with_reducible rfl)
  refine wpAnyH_take (i := 4) (v := ?_) rfl (by kernel_rfl) (by kernel_rfl) (by kernel_rfl) (fun _ _ _ h => h) (Or.inl ⟨by rfl, ?_⟩) (by assumption) ?_
  rotate_left
  · intro wS hSw
    (try dsimp only at hSw)
    go_simp
    (try (rw [if_neg (by (try simp only [ByteArray.size_append, ba_sz1]); omega)]))
    (try with_reducible rfl)
  refine wpAnyH_take (i := 7) (v := ?_) rfl (by kernel_rfl) (by kernel_rfl) (by kernel_rfl) (fun _ _ _ h => h) (Or.inl ⟨by rfl, ?_⟩) (by assumption) ?_
  rotate_left
  · intro wS hSw
    (try dsimp only at hSw)
    go_simp
    (try (rw [if_neg (by (try simp only [ByteArray.size_append, ba_sz1]); omega)]))
    (try with_reducible rfl)
  refine wpAnyH_take (i := 8) (v := ?_) rfl (by kernel_rfl) (by kernel_rfl) (by kernel_rfl) (fun _ _ _ h => h) (Or.inl ⟨by rfl, ?_⟩) (by assumption) ?_
  rotate_left
  · intro wS hSw
    (try dsimp only at hSw)
    go_simp
    (try (rw [if_neg (by (try simp only [ByteArray.size_append, ba_sz1]); omega)]))
    (try with_reducible rfl)
  refine wpAnyH_take (i := 12) (v := ?_) rfl (by kernel_rfl) (by kernel_rfl) (by kernel_rfl) (fun _ _ _ h => h) (Or.inl ⟨by rfl, ?_⟩) (by assumption) ?_
  rotate_left
  · intro wS hSw
    (try dsimp only at hSw)
    go_simp
    (try (rw [if_neg (by (try simp only [ByteArray.size_append, ba_sz1]); omega)]))
    (try with_reducible rfl)
  refine wpAnyH_take (i := 13) (v := ?_) rfl (by kernel_rfl) (by kernel_rfl) (by kernel_rfl) (fun _ _ _ h => h) (Or.inl ⟨by rfl, ?_⟩) (by assumption) ?_
  rotate_left
  · intro wS hSw
    (try dsimp only at hSw)
    go_simp
    (try (rw [if_neg (by (try simp only [ByteArray.size_append, ba_sz1]); omega)]))
    (try with_reducible rfl)
  refine wpAnyH_take (i := 14) (v := ?_) rfl (by kernel_rfl) (by kernel_rfl) (by kernel_rfl) (fun _ _ _ h => h) (Or.inl ⟨by rfl, ?_⟩) (by assumption) ?_
  rotate_left
  · intro wS hSw
    (try dsimp only at hSw)
    go_simp
    (try (rw [if_neg (by (try simp only [ByteArray.size_append, ba_sz1]); omega)]))
    (try with_reducible rfl)
  refine wpAnyH_take (i := 15) (v := ?_) rfl (by kernel_rfl) (by kernel_rfl) (by kernel_rfl) (fun _ _ _ h => h) (Or.inl ⟨by rfl, ?_⟩) (by assumption) ?_
  rotate_left
  · intro wS hSw
    (try dsimp only at hSw)
    go_simp
    (try (rw [if_neg (by (try simp only [ByteArray.size_append, ba_sz1]); omega)]))
    (try with_reducible rfl)
  refine wpAnyH_take (i := 16) (v := ?_) rfl (by kernel_rfl) (by kernel_rfl) (by kernel_rfl) (fun _ _ _ h => h) (Or.inl ⟨by rfl, ?_⟩) (by assumption) ?_
  rotate_left
  · intro wS hSw
    (try dsimp only at hSw)
    go_simp
    (try (rw [if_neg (by (try simp only [ByteArray.size_append, ba_sz1]); omega)]))
    (try with_reducible rfl)
  refine wpAnyH_take (i := 17) (v := ?_) rfl (by kernel_rfl) (by kernel_rfl) (by kernel_rfl) (fun _ _ _ h => h) (Or.inl ⟨by rfl, ?_⟩) (by assumption) ?_
  rotate_left
  · intro wS hSw
    (try dsimp only at hSw)
    go_simp
    (try (rw [if_neg (by (try simp only [ByteArray.size_append, ba_sz1]); omega)]))
    (try with_reducible rfl)
  refine wpAnyH_ready (rs := [5]) (by kernel_rfl) (by simp) ?_
  refine (AllReadyH.cons rfl (fun K hK => ?_) AllReadyH.nil)
  go_simp
  refine (HL.out _ (hkw.trans hkd)).mono ?_
  rintro e W2 ⟨rfl, hk2⟩
  dsimp only
  refine hK.out _ _ (CF.out _ (hkd.trans hk2)) (fun hHeld => ?_)
  clear hK K
  refine wpAnyH_take (i := 6) (v := ?_) rfl (by kernel_rfl) (by kernel_rfl) (by kernel_rfl) (fun _ _ _ h => h) (Or.inl ⟨by rfl, ?_⟩) (by assumption) ?_
  rotate_left
  · intro wS hSw
    (try dsimp only at hSw)
    go_simp
    (try (rw [if_neg (by (try simp only [ByteArray.size_append, ba_sz1]); omega)]))
    (try with_reducible rfl)
  refine wpAnyH_ready (rs := [9]) (by kernel_rfl) (by simp) ?_
  refine (AllReadyH.cons rfl (fun K hK => ?_) AllReadyH.nil)
  go_simp
  refine (HSG.out _).mono ?_
  rintro e W3 ⟨rfl, hk3⟩
  dsimp only
  refine hK.out _ _ (CF.out _ ((hkd.trans hk2).trans hk3)) (fun hHeld => ?_)
  clear hK K
  refine wpAnyH_take (i := 10) (v := ?_) rfl (by kernel_rfl) (by kernel_rfl) (by kernel_rfl) (fun _ _ _ h => h) (Or.inl ⟨by rfl, ?_⟩) (by assumption) ?_
  rotate_left
  · intro wS hSw
    (try dsimp only at hSw)
    go_simp
    (try (rw [if_neg (by (try simp only [ByteArray.size_append, ba_sz1]); omega)]))
    (try with_reducible rfl)
  refine wpAnyH_take (i := 11) (v := ?_) rfl (by kernel_rfl) (by kernel_rfl) (by kernel_rfl) (fun _ _ _ h => h) (Or.inl ⟨by rfl, ?_⟩) (by assumption) ?_
  rotate_left
  · intro wS hSw
    (try dsimp only at hSw)
    go_simp
    (try (rw [if_neg (by (try simp only [ByteArray.size_append, ba_sz1]); omega)]))
    (try with_reducible rfl)
  refine wpAnyH_ready (rs := [18]) (by kernel_rfl) (by simp) ?_
  refine (AllReadyH.cons rfl (fun K hK => ?_) AllReadyH.nil)
  go_simp
  rw [IntWalk.i64_in (r + 1) (by omega)]
  refine (HR.out _ (hkw.trans ((hkd.trans hk2).trans hk3))).mono ?_
  rintro e W4 ⟨rfl, hk4⟩
  dsimp only
  refine hK.out _ _ (CF.out _ (((hkd.trans hk2).trans hk3).trans hk4)) (fun hHeld => ?_)
  clear hK K
  refine wpAnyH_take (i := 19) (v := ?_) rfl (by kernel_rfl) (by kernel_rfl) (by kernel_rfl) (fun _ _ _ h => h) (Or.inl ⟨by rfl, ?_⟩) (by assumption) ?_
  rotate_left
  · intro wS hSw
    (try dsimp only at hSw)
    go_simp
    (try (rw [if_neg (by (try simp only [ByteArray.size_append, ba_sz1]); omega)]))
    (try with_reducible rfl)
  refine wpAnyH_take (i := 20) (v := ?_) rfl (by kernel_rfl) (by kernel_rfl) (by kernel_rfl) (fun _ _ _ h => h) (Or.inl ⟨by rfl, ?_⟩) (by assumption) ?_
  rotate_left
  · intro wS hSw
    (try dsimp only at hSw)
    go_simp
    (try (rw [if_neg (by (try simp only [ByteArray.size_append, ba_sz1]); omega)]))
    (try with_reducible rfl)
  refine wpAnyH_done (by kernel_rfl) ?_ _
  go_wp2
  go_ret
  exact ⟨by rw [HT.out]; rfl, hkw.trans (((hkd.trans hk2).trans hk3).trans hk4)⟩
end

theorem rexpr_step {d : Nat} (hd : d + 1 ≤ 24) (hIn : RInC d) (hEx : RExpC d) : RExpC (d + 1) := by
  intro e cs w he hm hT
  obtain ⟨k, m, n, sl, lo, o, l⟩ := e
  obtain ⟨v, rfl, hv⟩ := EV.iff.1 he
  obtain ⟨h1, h2, h3, h4, h5, h6, h7⟩ := mayE_parts hm
  have hk : k = 1 ∨ k = 2 ∨ k = 3 ∨ k = 4 ∨ k = 5 ∨ k = 6 := by omega
  rcases hk with rfl | rfl | rfl | rfl | rfl | rfl
  · obtain ⟨A, N, C, rfl, _⟩ := hv.form
    have hb : 0 ≤ m ∧ m ≤ 2147483647 := by
      simp [numB] at h4
      omega
    exact rexpr_num hb.1 hb.2 hT l
  · obtain ⟨A, N, C, rfl, _⟩ := hv.form
    exact rexpr_name l
  · obtain ⟨x, rfl⟩ := one_arg h6
    exact rexpr_cell (by omega) hEx hv (nameIs_size (by simpa [nmB] using h3)).2 (h7 x (by simp)) hT
  · obtain ⟨x, rfl⟩ := one_arg h6
    exact rexpr_neg (by omega) hIn hv (h7 x (by simp)) hT
  · obtain ⟨x, rfl⟩ := one_arg h6
    exact rexpr_not (by omega) hIn hv (h7 x (by simp)) hT
  · obtain ⟨x, y, rfl⟩ := two_args h6
    have hb : 0 < o ∧ o ≤ 11 := by simpa [opB] using h5
    obtain ⟨u, rfl, hu1, hu2⟩ := op_nat hb.1 hb.2
    cases h3 : (rankOf u == 3) with
    | true => exact rexpr_bin3 h3 (by omega) hIn hv hu1 hu2 (h7 x (by simp)) (h7 y (by simp)) hT
    | false => exact rexpr_binN h3 (by omega) hIn hv hu1 hu2 (h7 x (by simp)) (h7 y (by simp)) hT
theorem rexpr_any : ∀ d, d ≤ 24 → RExpC d
  | 0, _ => fun _ _ _ _ hm => by simp [mayE] at hm
  | d + 1, h => rexpr_step h (rinner_of (by omega) (rexpr_any d (by omega))) (rexpr_any d (by omega))
end Go.Proofs.YtjkgepppoopheaaGreatDoor
