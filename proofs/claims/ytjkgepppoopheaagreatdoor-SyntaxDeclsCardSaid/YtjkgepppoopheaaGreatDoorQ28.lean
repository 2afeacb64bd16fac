/- The project's printer of declarations (conditions: the text is of at most 2^46 bytes; the tables stand; the declaration is one that may be). -/
import Derived.Test.YtjkgepppoopheaaGreatDoorAbb
import Derived.Test.YtjkgepppoopheaaGreatDoorQ27
import Derived.StillTailTactics
set_option maxRecDepth 100000
set_option maxHeartbeats 1000000
namespace Go.Proofs.YtjkgepppoopheaaGreatDoor
open Go.RowKit Go.Shelf
def declT (d : DT) : ByteArray :=
 match d.kind with
 | 1 => (catL [declL.getD 1 ⟨#[]⟩, ⟨#[32]⟩, d.name] ++ catL [⟨#[32, 61, 32]⟩, itoaB d.num]) ++ catL [⟨#[59, 10]⟩]
 | 2 => (catL [declL.getD 2 ⟨#[]⟩, ⟨#[32]⟩, d.name] ++ catL [⟨#[32]⟩, itoaB d.num]) ++ catL [⟨#[59, 10]⟩]
 | 3 => catL [declL.getD 3 ⟨#[]⟩, ⟨#[32]⟩, d.name] ++ catL [⟨#[59, 10]⟩]
 | 4 => catL [declL.getD 4 ⟨#[]⟩, ⟨#[32]⟩, d.name] ++ catL [⟨#[59, 10]⟩]
 | 5 => (catL [declL.getD 5 ⟨#[]⟩, ⟨#[32]⟩, d.name] ++ catL [⟨#[32]⟩, itoaB d.num]) ++ catL [⟨#[59, 10]⟩]
 | 6 => ((catL [declL.getD 6 ⟨#[]⟩, ⟨#[32]⟩, d.name] ++ catL [⟨#[32]⟩]) ++ blockOf (stmtT 24) 0 d.body) ++ catL [⟨#[10]⟩]
 | _ => ⟨#[]⟩
def mayBlockP (l : List ST) : Bool := (seqL 1 l).all fun p => decide (p.1 ≤ 24) && mayStP p.2
def mayDT (d : DT) : Bool := nameIs d.name.data.toList &&
 (if d.kind = 1 then decide (-2147483647 ≤ d.num) && decide (d.num ≤ 2147483647) && decide (d.body.length = 0)
  else if d.kind = 2 ∨ d.kind = 5 then decide (0 ≤ d.num) && decide (d.num ≤ 2147483647) && decide (d.body.length = 0)
  else if d.kind = 3 ∨ d.kind = 4 then decide (0 ≤ d.num) && decide (d.num ≤ 0) && decide (d.body.length = 0)
  else if d.kind = 6 then decide (d.num = 0) && mayBlockP d.body
  else false)
theorem ok_of_seq : ∀ (f d : Nat) (st : ST), d + f = 25 → (∀ p ∈ ST.seq d st, p.1 ≤ 24 ∧ mayStP p.2 = true) → okS f st = true := by
 intro f
 induction f with
 | zero =>
  intro d st hd h
  have := h (d, st) (by rw [ST.seq_eq]; exact List.mem_cons_self)
  dsimp only at this
  omega
 | succ f ih =>
  intro d st hd h
  have h0 := h (d, st) (by rw [ST.seq_eq]; exact List.mem_cons_self)
  have hin : ∀ (l : List ST) (x : ST), x ∈ l → ∀ p ∈ ST.seq (d + 1) x, p ∈ seqL (d + 1) l := by
   intro l
   induction l with
   | nil => intro x hx; cases hx
   | cons y l ihl =>
    intro x hx p hp
    rw [seqL]
    rcases List.mem_cons.1 hx with rfl | hx
    ·exact List.mem_append_left _ hp
    ·exact List.mem_append_right _ (ihl x hx p hp)
  rw [okS, Bool.and_eq_true, Bool.and_eq_true, List.all_eq_true, List.all_eq_true]
  refine ⟨⟨h0.2, fun x hx => ih (d + 1) x kom (fun p hp => h p ?_)⟩, fun x hx => ih (d + 1) x kom (fun p hp => h p ?_)⟩
  ·rw [ST.seq_eq]; exact List.mem_cons_of_mem _ (List.mem_append_left _ (hin _ x hx p hp))
  ·rw [ST.seq_eq]; exact List.mem_cons_of_mem _ (List.mem_append_right _ (hin _ x hx p hp))
theorem ok_of_block {l : List ST} (h : mayBlockP l = true) : l.all (okS 24) = true := by
 unfold mayBlockP at h
 rw [List.all_eq_true] at h ⊢
 intro st hst
 refine ok_of_seq 24 1 st rfl (fun p hp => ?_)
 have hin : ∀ (l : List ST), st ∈ l → p ∈ seqL 1 l := by
  intro l
  induction l with
  | nil => intro hx; cases hx
  | cons y l ihl =>
   intro hx
   rw [seqL]
   rcases List.mem_cons.1 hx with rfl | hx
   ·exact List.mem_append_left _ hp
   ·exact List.mem_append_right _ (ihl hx)
 have := h p (hin l hst)
 simpa using this
section
variable {w0 : World} {B : Nat} {W : World} {s : ByteArray} {d : DT} {v : Value}
theorem pdecl_1 (hds : DeclsAt w0) (h : PW w0 B W s) (hk : d.kind = 1) (hn0 : -9223372036854775808 ≤ d.num) (hn1 : d.num ≤ 9223372036854775807) (hv : RowV w0 noX v (ST.ds d.body)) (hlen : s.size + (declT d).size ≤ most) :
  Calls Tryz.prog 45 #[.pointer (some ⟨B, 0, none⟩), .agg #[.int .i64 1, .int .i64 d.line, .int .i64 d.col, .string d.name, .int .i64 d.num, v]] W (Wrote w0 B W (s ++ declT d)) := by
 obtain ⟨A, N, C, rfl, hN, hNC, hCm⟩ := hv.form
 rw [ST.ds_length] at hN
 subst hN
 obtain ⟨W0, hW0⟩ : ∃ W0, W0 = W.alloc (.cells #[.int .i64 1, .int .i64 d.line, .int .i64 d.col, .string d.name, .int .i64 d.num, .slice A d.body.length C] 54) := ⟨_, rfl⟩
 have hk0 : Kept noX W W0 := by rw [hW0]; exact (Kept.refl _ _).alloc _
 have HE0 := aP (show Cells W0 W.heap.size 54 [.int .i64 1, .int .i64 d.line, .int .i64 d.col, .string d.name, .int .i64 d.num, .slice A d.body.length C] from by rw [hW0]; exact Cells.fresh W 54 [.int .i64 1, .int .i64 d.line, .int .i64 d.col, .string d.name, .int .i64 d.num, .slice A d.body.length C])
 have z0 : W0.heap.size = W.heap.size + 1 := by rw [hW0]; simp
 have HW0 := aP (h.keep hk0)
 have hT : declT d = (catL [declL.getD 1 ⟨#[]⟩, ⟨#[32]⟩, d.name] ++ catL [⟨#[32, 61, 32]⟩, itoaB d.num]) ++ catL [⟨#[59, 10]⟩] := by rw [declT, hk] <;> rfl
 rw [hT] at hlen
 have HT := aP hT
 clear hT hk
 have hkd : Kept noX W0 W0.drew := (Kept.refl _ _).drew
 have HWd := aP (HW0.out.keep hkd)
 have HEd := aP (HE0.out.keep hkd)
 have HC1 := aP (HWd.out.lit [declL.getD 1 ⟨#[]⟩, ⟨#[32]⟩, d.name] (by simp only [ByteArray.size_append] at hlen ⊢; omega))
 have HH := aP h
 have HK0 := aP (hk0.trans hkd)
 have HV := aP hv
 have hlt := h.lt
 have q := HW0.out.cell (hds 1 _ rfl)
 have qb := block_lt_of q
 have p0 := HE0.out.cell 0; have p3 := HE0.out.cell 3
 simp only [aS, aZ] at p0 p3
 clear h hk0 hv
 go_enter Tryz.func45, Tryz.ntmps45
 go_wp2_with fail
 rw [← hW0]
 have l0 : W.heap.size < W0.heap.size := by omega
 clear hW0 z0
 refine wp_region_held_drew (S := (fun w' => w'.cell? ⟨W.heap.size, 0, none⟩ = some (.int .i64 1) ∧ w'.cell? ⟨W.heap.size, 3, none⟩ = some (.string d.name) ∧ w'.cell? ⟨0, 1, none⟩ = some (.string (declL.getD 1 ⟨#[]⟩)))) krf ⟨p0, p3, q⟩ (fun hHeld => ?_)
 refine wpAnyH_take (i := 0) (v := ?_) rfl krf krf krf (fun _ _ _ h => h) (Or.inl ⟨by rfl, ?_⟩) (by assumption) ?_
 rotate_left
 ·intro wS hSw
  (try dsimp only at hSw)
  go_simp
  (try with_reducible rfl)
 refine wpAnyH_take (i := 1) (v := ?_) rfl krf krf krf (fun _ _ _ h => h) (Or.inl ⟨by rfl, ?_⟩) (by assumption) ?_
 rotate_left
 ·intro wS hSw
  (try dsimp only at hSw)
  go_simp
  (try with_reducible rfl)
 refine wpAnyH_take (i := 2) (v := ?_) rfl krf krf krf (fun _ _ _ h => h) (Or.inl ⟨by rfl, ?_⟩) (by assumption) ?_
 rotate_left
 ·intro wS hSw
  (try dsimp only at hSw)
  go_simp
  (try with_reducible rfl)
 refine wpAnyH_take (i := 3) (v := ?_) rfl krf krf krf (fun _ _ _ h => h) (Or.inl ⟨by rfl, ?_⟩) (by assumption) ?_
 rotate_left
 ·intro wS hSw
  (try dsimp only at hSw)
  go_simp
  (try with_reducible rfl)
 refine wpAnyH_take (i := 4) (v := ?_) rfl krf krf krf (fun _ _ _ h => h) (Or.inl ⟨by rfl, ?_⟩) (by assumption) ?_
 rotate_left
 ·intro wS hSw
  (try dsimp only at hSw)
  go_simp
  (try with_reducible rfl)
 refine wpAnyH_take (i := 5) (v := ?_) rfl krf krf krf (fun _ _ _ h => h) (Or.inl ⟨by rfl, ?_⟩) (by assumption) ?_
 rotate_left
 ·intro wS hSw
  (try dsimp only at hSw)
  go_simp
  (try with_reducible rfl)
 refine wpAnyH_take (i := 6) (v := ?_) rfl krf krf krf (fun _ _ _ h => h) (Or.inl ⟨by rfl, ?_⟩) (by assumption) ?_
 rotate_left
 ·intro wS hSw
  (try dsimp only at hSw)
  go_simp
  (try with_reducible rfl)
 refine wpAnyH_ready (rs := [7]) krf (by simp) ?_
 refine (AllReadyH.cons rfl (fun K hK => ?_) AllReadyH.nil)
 go_simp
 have hka : Kept noX W0.drew (W0.drew.alloc (.cells #[.string (declL.getD 1 ⟨#[]⟩), .string ⟨#[32]⟩, .string d.name] 9)) := (Kept.refl _ _).alloc _
 have HEa := HEd.out.keep hka
 have pa0 := HEa.cell 0; have pa3 := HEa.cell 3
 simp only [aS, aZ] at pa0 pa3
 have qa := (HWd.out.keep hka).cell (hds 1 _ rfl)
 refine hK.out _ _ (⟨pa0, pa3, qa⟩ : _ ∧ _ ∧ _) (fun hHeld => ?_)
 clear hK K
 refine wpAnyH_ready (rs := [8]) krf (by simp) ?_
 refine (AllReadyH.cons rfl (fun K hK => ?_) AllReadyH.nil)
 go_simp
 refine (HC1.out).mono ?_
 rintro e W1 ⟨rfl, hw1, hp1⟩
 dsimp only
 clear p0 p3 q qb pa0 pa3 qa HEa hka
 have HEb := hp1.cells HWd.out.at_ HEd.out kom (by decide)
 have pa0 := HEb.cell 0; have pa3 := HEb.cell 3
 simp only [aS, aZ] at pa0 pa3
 have qa := hw1.cell (hds 1 _ rfl)
 refine hK.out _ _ (⟨pa0, pa3, qa⟩ : _ ∧ _ ∧ _) (fun hHeld => ?_)
 clear hK K
 refine wpAnyH_done krf ?_ _
 clear pa0 pa3 qa HEb hHeld
 have HE1 := aP (hp1.cells HWd.out.at_ HEd.out kom (by decide))
 have HP1 := aP hp1
 have HW1 := aP hw1
 clear hw1 hp1
 have p4 := HE1.out.cell 4
 simp only [aS, aZ] at p4
 have HF := aP (fmt_calls (W := W1) d.num hn0 hn1 HW1.out.tabAt)
 go_wp2_with fail
 refine HF.out.mono ?_
 rintro e W2 ⟨rfl, hk2⟩
 clear p4
 have HE2 := aP (HE1.out.keep hk2)
 have HW2 := aP (HW1.out.keep hk2)
 have HP2 := aP (HP1.out.post HW1.out.at_ hk2)
 have p0 := HE2.out.cell 0
 simp only [aZ] at p0
 have HC3 := aP (HW2.out.lit [⟨#[32, 61, 32]⟩, itoaB d.num] (by simp only [ByteArray.size_append] at hlen ⊢; omega))
 go_wp2_with fail
 refine (HC3.out).mono ?_
 rintro e W3 ⟨rfl, hw3, hp3⟩
 have HE3 := aP (hp3.cells HW2.out.at_ HE2.out kom (by decide))
 have HP3 := aP (HP2.out.trans hp3 HWd.out.at_)
 have HW3 := aP hw3
 clear hw3 hp3
 have HC4 := aP (HW3.out.lit [⟨#[59, 10]⟩] (by simp only [ByteArray.size_append] at hlen ⊢; omega))
 go_wp2_with fail
 refine (HC4.out).mono ?_
 rintro e W4 ⟨rfl, hw4, hp4⟩
 have HE4 := aP (hp4.cells HW3.out.at_ HE3.out kom (by decide))
 have HP4 := aP (HP3.out.trans hp4 HWd.out.at_)
 have HW4 := aP hw4
 clear hw4 hp4
 go_wp2
 first | (go_end0) | (refine bodyPost_ret (results_none rfl _ _ _) rfl ?_)
 refine ⟨rfl, ?_, Put.pre HH.out.at_ HK0.out HP4.out⟩
 rw [HT.out]
 simpa only [ByteArray.append_assoc] using HW4.out
theorem pdecl_2 (hds : DeclsAt w0) (h : PW w0 B W s) (hk : d.kind = 2) (hn0 : -9223372036854775808 ≤ d.num) (hn1 : d.num ≤ 9223372036854775807) (hv : RowV w0 noX v (ST.ds d.body)) (hlen : s.size + (declT d).size ≤ most) :
  Calls Tryz.prog 45 #[.pointer (some ⟨B, 0, none⟩), .agg #[.int .i64 2, .int .i64 d.line, .int .i64 d.col, .string d.name, .int .i64 d.num, v]] W (Wrote w0 B W (s ++ declT d)) := by
 obtain ⟨A, N, C, rfl, hN, hNC, hCm⟩ := hv.form
 rw [ST.ds_length] at hN
 subst hN
 obtain ⟨W0, hW0⟩ : ∃ W0, W0 = W.alloc (.cells #[.int .i64 2, .int .i64 d.line, .int .i64 d.col, .string d.name, .int .i64 d.num, .slice A d.body.length C] 54) := ⟨_, rfl⟩
 have hk0 : Kept noX W W0 := by rw [hW0]; exact (Kept.refl _ _).alloc _
 have HE0 := aP (show Cells W0 W.heap.size 54 [.int .i64 2, .int .i64 d.line, .int .i64 d.col, .string d.name, .int .i64 d.num, .slice A d.body.length C] from by rw [hW0]; exact Cells.fresh W 54 [.int .i64 2, .int .i64 d.line, .int .i64 d.col, .string d.name, .int .i64 d.num, .slice A d.body.length C])
 have z0 : W0.heap.size = W.heap.size + 1 := by rw [hW0]; simp
 have HW0 := aP (h.keep hk0)
 have hT : declT d = (catL [declL.getD 2 ⟨#[]⟩, ⟨#[32]⟩, d.name] ++ catL [⟨#[32]⟩, itoaB d.num]) ++ catL [⟨#[59, 10]⟩] := by rw [declT, hk] <;> rfl
 rw [hT] at hlen
 have HT := aP hT
 clear hT hk
 have hkd : Kept noX W0 W0.drew := (Kept.refl _ _).drew
 have HWd := aP (HW0.out.keep hkd)
 have HEd := aP (HE0.out.keep hkd)
 have HC1 := aP (HWd.out.lit [declL.getD 2 ⟨#[]⟩, ⟨#[32]⟩, d.name] (by simp only [ByteArray.size_append] at hlen ⊢; omega))
 have HH := aP h
 have HK0 := aP (hk0.trans hkd)
 have HV := aP hv
 have hlt := h.lt
 have q := HW0.out.cell (hds 2 _ rfl)
 have qb := block_lt_of q
 have p0 := HE0.out.cell 0; have p3 := HE0.out.cell 3
 simp only [aS, aZ] at p0 p3
 clear h hk0 hv
 go_enter Tryz.func45, Tryz.ntmps45
 go_wp2_with fail
 rw [← hW0]
 have l0 : W.heap.size < W0.heap.size := by omega
 clear hW0 z0
 refine wp_region_held_drew (S := (fun w' => w'.cell? ⟨W.heap.size, 0, none⟩ = some (.int .i64 2) ∧ w'.cell? ⟨W.heap.size, 3, none⟩ = some (.string d.name) ∧ w'.cell? ⟨0, 2, none⟩ = some (.string (declL.getD 2 ⟨#[]⟩)))) krf ⟨p0, p3, q⟩ (fun hHeld => ?_)
 refine wpAnyH_take (i := 0) (v := ?_) rfl krf krf krf (fun _ _ _ h => h) (Or.inl ⟨by rfl, ?_⟩) (by assumption) ?_
 rotate_left
 ·intro wS hSw
  (try dsimp only at hSw)
  go_simp
  (try with_reducible rfl)
 refine wpAnyH_take (i := 1) (v := ?_) rfl krf krf krf (fun _ _ _ h => h) (Or.inl ⟨by rfl, ?_⟩) (by assumption) ?_
 rotate_left
 ·intro wS hSw
  (try dsimp only at hSw)
  go_simp
  (try with_reducible rfl)
 refine wpAnyH_take (i := 2) (v := ?_) rfl krf krf krf (fun _ _ _ h => h) (Or.inl ⟨by rfl, ?_⟩) (by assumption) ?_
 rotate_left
 ·intro wS hSw
  (try dsimp only at hSw)
  go_simp
  (try with_reducible rfl)
 refine wpAnyH_take (i := 3) (v := ?_) rfl krf krf krf (fun _ _ _ h => h) (Or.inl ⟨by rfl, ?_⟩) (by assumption) ?_
 rotate_left
 ·intro wS hSw
  (try dsimp only at hSw)
  go_simp
  (try with_reducible rfl)
 refine wpAnyH_take (i := 4) (v := ?_) rfl krf krf krf (fun _ _ _ h => h) (Or.inl ⟨by rfl, ?_⟩) (by assumption) ?_
 rotate_left
 ·intro wS hSw
  (try dsimp only at hSw)
  go_simp
  (try with_reducible rfl)
 refine wpAnyH_take (i := 5) (v := ?_) rfl krf krf krf (fun _ _ _ h => h) (Or.inl ⟨by rfl, ?_⟩) (by assumption) ?_
 rotate_left
 ·intro wS hSw
  (try dsimp only at hSw)
  go_simp
  (try with_reducible rfl)
 refine wpAnyH_take (i := 6) (v := ?_) rfl krf krf krf (fun _ _ _ h => h) (Or.inl ⟨by rfl, ?_⟩) (by assumption) ?_
 rotate_left
 ·intro wS hSw
  (try dsimp only at hSw)
  go_simp
  (try with_reducible rfl)
 refine wpAnyH_ready (rs := [7]) krf (by simp) ?_
 refine (AllReadyH.cons rfl (fun K hK => ?_) AllReadyH.nil)
 go_simp
 have hka : Kept noX W0.drew (W0.drew.alloc (.cells #[.string (declL.getD 2 ⟨#[]⟩), .string ⟨#[32]⟩, .string d.name] 9)) := (Kept.refl _ _).alloc _
 have HEa := HEd.out.keep hka
 have pa0 := HEa.cell 0; have pa3 := HEa.cell 3
 simp only [aS, aZ] at pa0 pa3
 have qa := (HWd.out.keep hka).cell (hds 2 _ rfl)
 refine hK.out _ _ (⟨pa0, pa3, qa⟩ : _ ∧ _ ∧ _) (fun hHeld => ?_)
 clear hK K
 refine wpAnyH_ready (rs := [8]) krf (by simp) ?_
 refine (AllReadyH.cons rfl (fun K hK => ?_) AllReadyH.nil)
 go_simp
 refine (HC1.out).mono ?_
 rintro e W1 ⟨rfl, hw1, hp1⟩
 dsimp only
 clear p0 p3 q qb pa0 pa3 qa HEa hka
 have HEb := hp1.cells HWd.out.at_ HEd.out kom (by decide)
 have pa0 := HEb.cell 0; have pa3 := HEb.cell 3
 simp only [aS, aZ] at pa0 pa3
 have qa := hw1.cell (hds 2 _ rfl)
 refine hK.out _ _ (⟨pa0, pa3, qa⟩ : _ ∧ _ ∧ _) (fun hHeld => ?_)
 clear hK K
 refine wpAnyH_done krf ?_ _
 clear pa0 pa3 qa HEb hHeld
 have HE1 := aP (hp1.cells HWd.out.at_ HEd.out kom (by decide))
 have HP1 := aP hp1
 have HW1 := aP hw1
 clear hw1 hp1
 have p4 := HE1.out.cell 4
 simp only [aS, aZ] at p4
 have HF := aP (fmt_calls (W := W1) d.num hn0 hn1 HW1.out.tabAt)
 go_wp2_with fail
 refine HF.out.mono ?_
 rintro e W2 ⟨rfl, hk2⟩
 clear p4
 have HE2 := aP (HE1.out.keep hk2)
 have HW2 := aP (HW1.out.keep hk2)
 have HP2 := aP (HP1.out.post HW1.out.at_ hk2)
 have p0 := HE2.out.cell 0
 simp only [aZ] at p0
 have HC3 := aP (HW2.out.lit [⟨#[32]⟩, itoaB d.num] (by simp only [ByteArray.size_append] at hlen ⊢; omega))
 go_wp2_with fail
 refine (HC3.out).mono ?_
 rintro e W3 ⟨rfl, hw3, hp3⟩
 have HE3 := aP (hp3.cells HW2.out.at_ HE2.out kom (by decide))
 have HP3 := aP (HP2.out.trans hp3 HWd.out.at_)
 have HW3 := aP hw3
 clear hw3 hp3
 have HC4 := aP (HW3.out.lit [⟨#[59, 10]⟩] (by simp only [ByteArray.size_append] at hlen ⊢; omega))
 go_wp2_with fail
 refine (HC4.out).mono ?_
 rintro e W4 ⟨rfl, hw4, hp4⟩
 have HE4 := aP (hp4.cells HW3.out.at_ HE3.out kom (by decide))
 have HP4 := aP (HP3.out.trans hp4 HWd.out.at_)
 have HW4 := aP hw4
 clear hw4 hp4
 go_wp2
 first | (go_end0) | (refine bodyPost_ret (results_none rfl _ _ _) rfl ?_)
 refine ⟨rfl, ?_, Put.pre HH.out.at_ HK0.out HP4.out⟩
 rw [HT.out]
 simpa only [ByteArray.append_assoc] using HW4.out
theorem pdecl_3 (hds : DeclsAt w0) (h : PW w0 B W s) (hk : d.kind = 3) (hn0 : -9223372036854775808 ≤ d.num) (hn1 : d.num ≤ 9223372036854775807) (hv : RowV w0 noX v (ST.ds d.body)) (hlen : s.size + (declT d).size ≤ most) :
  Calls Tryz.prog 45 #[.pointer (some ⟨B, 0, none⟩), .agg #[.int .i64 3, .int .i64 d.line, .int .i64 d.col, .string d.name, .int .i64 d.num, v]] W (Wrote w0 B W (s ++ declT d)) := by
 obtain ⟨A, N, C, rfl, hN, hNC, hCm⟩ := hv.form
 rw [ST.ds_length] at hN
 subst hN
 obtain ⟨W0, hW0⟩ : ∃ W0, W0 = W.alloc (.cells #[.int .i64 3, .int .i64 d.line, .int .i64 d.col, .string d.name, .int .i64 d.num, .slice A d.body.length C] 54) := ⟨_, rfl⟩
 have hk0 : Kept noX W W0 := by rw [hW0]; exact (Kept.refl _ _).alloc _
 have HE0 := aP (show Cells W0 W.heap.size 54 [.int .i64 3, .int .i64 d.line, .int .i64 d.col, .string d.name, .int .i64 d.num, .slice A d.body.length C] from by rw [hW0]; exact Cells.fresh W 54 [.int .i64 3, .int .i64 d.line, .int .i64 d.col, .string d.name, .int .i64 d.num, .slice A d.body.length C])
 have z0 : W0.heap.size = W.heap.size + 1 := by rw [hW0]; simp
 have HW0 := aP (h.keep hk0)
 have hT : declT d = catL [declL.getD 3 ⟨#[]⟩, ⟨#[32]⟩, d.name] ++ catL [⟨#[59, 10]⟩] := by rw [declT, hk] <;> rfl
 rw [hT] at hlen
 have HT := aP hT
 clear hT hk
 have hkd : Kept noX W0 W0.drew := (Kept.refl _ _).drew
 have HWd := aP (HW0.out.keep hkd)
 have HEd := aP (HE0.out.keep hkd)
 have HC1 := aP (HWd.out.lit [declL.getD 3 ⟨#[]⟩, ⟨#[32]⟩, d.name] (by simp only [ByteArray.size_append] at hlen ⊢; omega))
 have HH := aP h
 have HK0 := aP (hk0.trans hkd)
 have HV := aP hv
 have hlt := h.lt
 have q := HW0.out.cell (hds 3 _ rfl)
 have qb := block_lt_of q
 have p0 := HE0.out.cell 0; have p3 := HE0.out.cell 3
 simp only [aS, aZ] at p0 p3
 clear h hk0 hv
 go_enter Tryz.func45, Tryz.ntmps45
 go_wp2_with fail
 rw [← hW0]
 have l0 : W.heap.size < W0.heap.size := by omega
 clear hW0 z0
 refine wp_region_held_drew (S := (fun w' => w'.cell? ⟨W.heap.size, 0, none⟩ = some (.int .i64 3) ∧ w'.cell? ⟨W.heap.size, 3, none⟩ = some (.string d.name) ∧ w'.cell? ⟨0, 3, none⟩ = some (.string (declL.getD 3 ⟨#[]⟩)))) krf ⟨p0, p3, q⟩ (fun hHeld => ?_)
 refine wpAnyH_take (i := 0) (v := ?_) rfl krf krf krf (fun _ _ _ h => h) (Or.inl ⟨by rfl, ?_⟩) (by assumption) ?_
 rotate_left
 ·intro wS hSw
  (try dsimp only at hSw)
  go_simp
  (try with_reducible rfl)
 refine wpAnyH_take (i := 1) (v := ?_) rfl krf krf krf (fun _ _ _ h => h) (Or.inl ⟨by rfl, ?_⟩) (by assumption) ?_
 rotate_left
 ·intro wS hSw
  (try dsimp only at hSw)
  go_simp
  (try with_reducible rfl)
 refine wpAnyH_take (i := 2) (v := ?_) rfl krf krf krf (fun _ _ _ h => h) (Or.inl ⟨by rfl, ?_⟩) (by assumption) ?_
 rotate_left
 ·intro wS hSw
  (try dsimp only at hSw)
  go_simp
  (try with_reducible rfl)
 refine wpAnyH_take (i := 3) (v := ?_) rfl krf krf krf (fun _ _ _ h => h) (Or.inl ⟨by rfl, ?_⟩) (by assumption) ?_
 rotate_left
 ·intro wS hSw
  (try dsimp only at hSw)
  go_simp
  (try with_reducible rfl)
 refine wpAnyH_take (i := 4) (v := ?_) rfl krf krf krf (fun _ _ _ h => h) (Or.inl ⟨by rfl, ?_⟩) (by assumption) ?_
 rotate_left
 ·intro wS hSw
  (try dsimp only at hSw)
  go_simp
  (try with_reducible rfl)
 refine wpAnyH_take (i := 5) (v := ?_) rfl krf krf krf (fun _ _ _ h => h) (Or.inl ⟨by rfl, ?_⟩) (by assumption) ?_
 rotate_left
 ·intro wS hSw
  (try dsimp only at hSw)
  go_simp
  (try with_reducible rfl)
 refine wpAnyH_take (i := 6) (v := ?_) rfl krf krf krf (fun _ _ _ h => h) (Or.inl ⟨by rfl, ?_⟩) (by assumption) ?_
 rotate_left
 ·intro wS hSw
  (try dsimp only at hSw)
  go_simp
  (try with_reducible rfl)
 refine wpAnyH_ready (rs := [7]) krf (by simp) ?_
 refine (AllReadyH.cons rfl (fun K hK => ?_) AllReadyH.nil)
 go_simp
 have hka : Kept noX W0.drew (W0.drew.alloc (.cells #[.string (declL.getD 3 ⟨#[]⟩), .string ⟨#[32]⟩, .string d.name] 9)) := (Kept.refl _ _).alloc _
 have HEa := HEd.out.keep hka
 have pa0 := HEa.cell 0; have pa3 := HEa.cell 3
 simp only [aS, aZ] at pa0 pa3
 have qa := (HWd.out.keep hka).cell (hds 3 _ rfl)
 refine hK.out _ _ (⟨pa0, pa3, qa⟩ : _ ∧ _ ∧ _) (fun hHeld => ?_)
 clear hK K
 refine wpAnyH_ready (rs := [8]) krf (by simp) ?_
 refine (AllReadyH.cons rfl (fun K hK => ?_) AllReadyH.nil)
 go_simp
 refine (HC1.out).mono ?_
 rintro e W1 ⟨rfl, hw1, hp1⟩
 dsimp only
 clear p0 p3 q qb pa0 pa3 qa HEa hka
 have HEb := hp1.cells HWd.out.at_ HEd.out kom (by decide)
 have pa0 := HEb.cell 0; have pa3 := HEb.cell 3
 simp only [aS, aZ] at pa0 pa3
 have qa := hw1.cell (hds 3 _ rfl)
 refine hK.out _ _ (⟨pa0, pa3, qa⟩ : _ ∧ _ ∧ _) (fun hHeld => ?_)
 clear hK K
 refine wpAnyH_done krf ?_ _
 clear pa0 pa3 qa HEb hHeld
 have HE1 := aP (hp1.cells HWd.out.at_ HEd.out kom (by decide))
 have HP1 := aP hp1
 have HW1 := aP hw1
 clear hw1 hp1
 have p4 := HE1.out.cell 4
 simp only [aS, aZ] at p4
 have HF := aP (fmt_calls (W := W1) d.num hn0 hn1 HW1.out.tabAt)
 go_wp2_with fail
 refine HF.out.mono ?_
 rintro e W2 ⟨rfl, hk2⟩
 clear p4
 have HE2 := aP (HE1.out.keep hk2)
 have HW2 := aP (HW1.out.keep hk2)
 have HP2 := aP (HP1.out.post HW1.out.at_ hk2)
 have p0 := HE2.out.cell 0
 simp only [aZ] at p0
 have HC3 := aP (HW2.out.lit [⟨#[59, 10]⟩] (by simp only [ByteArray.size_append] at hlen ⊢; omega))
 go_wp2_with fail
 refine (HC3.out).mono ?_
 rintro e W3 ⟨rfl, hw3, hp3⟩
 have HE3 := aP (hp3.cells HW2.out.at_ HE2.out kom (by decide))
 have HP3 := aP (HP2.out.trans hp3 HWd.out.at_)
 have HW3 := aP hw3
 clear hw3 hp3
 go_wp2
 first | (go_end0) | (refine bodyPost_ret (results_none rfl _ _ _) rfl ?_)
 refine ⟨rfl, ?_, Put.pre HH.out.at_ HK0.out HP3.out⟩
 rw [HT.out]
 simpa only [ByteArray.append_assoc] using HW3.out
theorem pdecl_4 (hds : DeclsAt w0) (h : PW w0 B W s) (hk : d.kind = 4) (hn0 : -9223372036854775808 ≤ d.num) (hn1 : d.num ≤ 9223372036854775807) (hv : RowV w0 noX v (ST.ds d.body)) (hlen : s.size + (declT d).size ≤ most) :
  Calls Tryz.prog 45 #[.pointer (some ⟨B, 0, none⟩), .agg #[.int .i64 4, .int .i64 d.line, .int .i64 d.col, .string d.name, .int .i64 d.num, v]] W (Wrote w0 B W (s ++ declT d)) := by
 obtain ⟨A, N, C, rfl, hN, hNC, hCm⟩ := hv.form
 rw [ST.ds_length] at hN
 subst hN
 obtain ⟨W0, hW0⟩ : ∃ W0, W0 = W.alloc (.cells #[.int .i64 4, .int .i64 d.line, .int .i64 d.col, .string d.name, .int .i64 d.num, .slice A d.body.length C] 54) := ⟨_, rfl⟩
 have hk0 : Kept noX W W0 := by rw [hW0]; exact (Kept.refl _ _).alloc _
 have HE0 := aP (show Cells W0 W.heap.size 54 [.int .i64 4, .int .i64 d.line, .int .i64 d.col, .string d.name, .int .i64 d.num, .slice A d.body.length C] from by rw [hW0]; exact Cells.fresh W 54 [.int .i64 4, .int .i64 d.line, .int .i64 d.col, .string d.name, .int .i64 d.num, .slice A d.body.length C])
 have z0 : W0.heap.size = W.heap.size + 1 := by rw [hW0]; simp
 have HW0 := aP (h.keep hk0)
 have hT : declT d = catL [declL.getD 4 ⟨#[]⟩, ⟨#[32]⟩, d.name] ++ catL [⟨#[59, 10]⟩] := by rw [declT, hk] <;> rfl
 rw [hT] at hlen
 have HT := aP hT
 clear hT hk
 have hkd : Kept noX W0 W0.drew := (Kept.refl _ _).drew
 have HWd := aP (HW0.out.keep hkd)
 have HEd := aP (HE0.out.keep hkd)
 have HC1 := aP (HWd.out.lit [declL.getD 4 ⟨#[]⟩, ⟨#[32]⟩, d.name] (by simp only [ByteArray.size_append] at hlen ⊢; omega))
 have HH := aP h
 have HK0 := aP (hk0.trans hkd)
 have HV := aP hv
 have hlt := h.lt
 have q := HW0.out.cell (hds 4 _ rfl)
 have qb := block_lt_of q
 have p0 := HE0.out.cell 0; have p3 := HE0.out.cell 3
 simp only [aS, aZ] at p0 p3
 clear h hk0 hv
 go_enter Tryz.func45, Tryz.ntmps45
 go_wp2_with fail
 rw [← hW0]
 have l0 : W.heap.size < W0.heap.size := by omega
 clear hW0 z0
 refine wp_region_held_drew (S := (fun w' => w'.cell? ⟨W.heap.size, 0, none⟩ = some (.int .i64 4) ∧ w'.cell? ⟨W.heap.size, 3, none⟩ = some (.string d.name) ∧ w'.cell? ⟨0, 4, none⟩ = some (.string (declL.getD 4 ⟨#[]⟩)))) krf ⟨p0, p3, q⟩ (fun hHeld => ?_)
 refine wpAnyH_take (i := 0) (v := ?_) rfl krf krf krf (fun _ _ _ h => h) (Or.inl ⟨by rfl, ?_⟩) (by assumption) ?_
 rotate_left
 ·intro wS hSw
  (try dsimp only at hSw)
  go_simp
  (try with_reducible rfl)
 refine wpAnyH_take (i := 1) (v := ?_) rfl krf krf krf (fun _ _ _ h => h) (Or.inl ⟨by rfl, ?_⟩) (by assumption) ?_
 rotate_left
 ·intro wS hSw
  (try dsimp only at hSw)
  go_simp
  (try with_reducible rfl)
 refine wpAnyH_take (i := 2) (v := ?_) rfl krf krf krf (fun _ _ _ h => h) (Or.inl ⟨by rfl, ?_⟩) (by assumption) ?_
 rotate_left
 ·intro wS hSw
  (try dsimp only at hSw)
  go_simp
  (try with_reducible rfl)
 refine wpAnyH_take (i := 3) (v := ?_) rfl krf krf krf (fun _ _ _ h => h) (Or.inl ⟨by rfl, ?_⟩) (by assumption) ?_
 rotate_left
 ·intro wS hSw
  (try dsimp only at hSw)
  go_simp
  (try with_reducible rfl)
 refine wpAnyH_take (i := 4) (v := ?_) rfl krf krf krf (fun _ _ _ h => h) (Or.inl ⟨by rfl, ?_⟩) (by assumption) ?_
 rotate_left
 ·intro wS hSw
  (try dsimp only at hSw)
  go_simp
  (try with_reducible rfl)
 refine wpAnyH_take (i := 5) (v := ?_) rfl krf krf krf (fun _ _ _ h => h) (Or.inl ⟨by rfl, ?_⟩) (by assumption) ?_
 rotate_left
 ·intro wS hSw
  (try dsimp only at hSw)
  go_simp
  (try with_reducible rfl)
 refine wpAnyH_take (i := 6) (v := ?_) rfl krf krf krf (fun _ _ _ h => h) (Or.inl ⟨by rfl, ?_⟩) (by assumption) ?_
 rotate_left
 ·intro wS hSw
  (try dsimp only at hSw)
  go_simp
  (try with_reducible rfl)
 refine wpAnyH_ready (rs := [7]) krf (by simp) ?_
 refine (AllReadyH.cons rfl (fun K hK => ?_) AllReadyH.nil)
 go_simp
 have hka : Kept noX W0.drew (W0.drew.alloc (.cells #[.string (declL.getD 4 ⟨#[]⟩), .string ⟨#[32]⟩, .string d.name] 9)) := (Kept.refl _ _).alloc _
 have HEa := HEd.out.keep hka
 have pa0 := HEa.cell 0; have pa3 := HEa.cell 3
 simp only [aS, aZ] at pa0 pa3
 have qa := (HWd.out.keep hka).cell (hds 4 _ rfl)
 refine hK.out _ _ (⟨pa0, pa3, qa⟩ : _ ∧ _ ∧ _) (fun hHeld => ?_)
 clear hK K
 refine wpAnyH_ready (rs := [8]) krf (by simp) ?_
 refine (AllReadyH.cons rfl (fun K hK => ?_) AllReadyH.nil)
 go_simp
 refine (HC1.out).mono ?_
 rintro e W1 ⟨rfl, hw1, hp1⟩
 dsimp only
 clear p0 p3 q qb pa0 pa3 qa HEa hka
 have HEb := hp1.cells HWd.out.at_ HEd.out kom (by decide)
 have pa0 := HEb.cell 0; have pa3 := HEb.cell 3
 simp only [aS, aZ] at pa0 pa3
 have qa := hw1.cell (hds 4 _ rfl)
 refine hK.out _ _ (⟨pa0, pa3, qa⟩ : _ ∧ _ ∧ _) (fun hHeld => ?_)
 clear hK K
 refine wpAnyH_done krf ?_ _
 clear pa0 pa3 qa HEb hHeld
 have HE1 := aP (hp1.cells HWd.out.at_ HEd.out kom (by decide))
 have HP1 := aP hp1
 have HW1 := aP hw1
 clear hw1 hp1
 have p4 := HE1.out.cell 4
 simp only [aS, aZ] at p4
 have HF := aP (fmt_calls (W := W1) d.num hn0 hn1 HW1.out.tabAt)
 go_wp2_with fail
 refine HF.out.mono ?_
 rintro e W2 ⟨rfl, hk2⟩
 clear p4
 have HE2 := aP (HE1.out.keep hk2)
 have HW2 := aP (HW1.out.keep hk2)
 have HP2 := aP (HP1.out.post HW1.out.at_ hk2)
 have p0 := HE2.out.cell 0
 simp only [aZ] at p0
 have HC3 := aP (HW2.out.lit [⟨#[59, 10]⟩] (by simp only [ByteArray.size_append] at hlen ⊢; omega))
 go_wp2_with fail
 refine (HC3.out).mono ?_
 rintro e W3 ⟨rfl, hw3, hp3⟩
 have HE3 := aP (hp3.cells HW2.out.at_ HE2.out kom (by decide))
 have HP3 := aP (HP2.out.trans hp3 HWd.out.at_)
 have HW3 := aP hw3
 clear hw3 hp3
 go_wp2
 first | (go_end0) | (refine bodyPost_ret (results_none rfl _ _ _) rfl ?_)
 refine ⟨rfl, ?_, Put.pre HH.out.at_ HK0.out HP3.out⟩
 rw [HT.out]
 simpa only [ByteArray.append_assoc] using HW3.out
theorem pdecl_5 (hds : DeclsAt w0) (h : PW w0 B W s) (hk : d.kind = 5) (hn0 : -9223372036854775808 ≤ d.num) (hn1 : d.num ≤ 9223372036854775807) (hv : RowV w0 noX v (ST.ds d.body)) (hlen : s.size + (declT d).size ≤ most) :
  Calls Tryz.prog 45 #[.pointer (some ⟨B, 0, none⟩), .agg #[.int .i64 5, .int .i64 d.line, .int .i64 d.col, .string d.name, .int .i64 d.num, v]] W (Wrote w0 B W (s ++ declT d)) := by
 obtain ⟨A, N, C, rfl, hN, hNC, hCm⟩ := hv.form
 rw [ST.ds_length] at hN
 subst hN
 obtain ⟨W0, hW0⟩ : ∃ W0, W0 = W.alloc (.cells #[.int .i64 5, .int .i64 d.line, .int .i64 d.col, .string d.name, .int .i64 d.num, .slice A d.body.length C] 54) := ⟨_, rfl⟩
 have hk0 : Kept noX W W0 := by rw [hW0]; exact (Kept.refl _ _).alloc _
 have HE0 := aP (show Cells W0 W.heap.size 54 [.int .i64 5, .int .i64 d.line, .int .i64 d.col, .string d.name, .int .i64 d.num, .slice A d.body.length C] from by rw [hW0]; exact Cells.fresh W 54 [.int .i64 5, .int .i64 d.line, .int .i64 d.col, .string d.name, .int .i64 d.num, .slice A d.body.length C])
 have z0 : W0.heap.size = W.heap.size + 1 := by rw [hW0]; simp
 have HW0 := aP (h.keep hk0)
 have hT : declT d = (catL [declL.getD 5 ⟨#[]⟩, ⟨#[32]⟩, d.name] ++ catL [⟨#[32]⟩, itoaB d.num]) ++ catL [⟨#[59, 10]⟩] := by rw [declT, hk] <;> rfl
 rw [hT] at hlen
 have HT := aP hT
 clear hT hk
 have hkd : Kept noX W0 W0.drew := (Kept.refl _ _).drew
 have HWd := aP (HW0.out.keep hkd)
 have HEd := aP (HE0.out.keep hkd)
 have HC1 := aP (HWd.out.lit [declL.getD 5 ⟨#[]⟩, ⟨#[32]⟩, d.name] (by simp only [ByteArray.size_append] at hlen ⊢; omega))
 have HH := aP h
 have HK0 := aP (hk0.trans hkd)
 have HV := aP hv
 have hlt := h.lt
 have q := HW0.out.cell (hds 5 _ rfl)
 have qb := block_lt_of q
 have p0 := HE0.out.cell 0; have p3 := HE0.out.cell 3
 simp only [aS, aZ] at p0 p3
 clear h hk0 hv
 go_enter Tryz.func45, Tryz.ntmps45
 go_wp2_with fail
 rw [← hW0]
 have l0 : W.heap.size < W0.heap.size := by omega
 clear hW0 z0
 refine wp_region_held_drew (S := (fun w' => w'.cell? ⟨W.heap.size, 0, none⟩ = some (.int .i64 5) ∧ w'.cell? ⟨W.heap.size, 3, none⟩ = some (.string d.name) ∧ w'.cell? ⟨0, 5, none⟩ = some (.string (declL.getD 5 ⟨#[]⟩)))) krf ⟨p0, p3, q⟩ (fun hHeld => ?_)
 refine wpAnyH_take (i := 0) (v := ?_) rfl krf krf krf (fun _ _ _ h => h) (Or.inl ⟨by rfl, ?_⟩) (by assumption) ?_
 rotate_left
 ·intro wS hSw
  (try dsimp only at hSw)
  go_simp
  (try with_reducible rfl)
 refine wpAnyH_take (i := 1) (v := ?_) rfl krf krf krf (fun _ _ _ h => h) (Or.inl ⟨by rfl, ?_⟩) (by assumption) ?_
 rotate_left
 ·intro wS hSw
  (try dsimp only at hSw)
  go_simp
  (try with_reducible rfl)
 refine wpAnyH_take (i := 2) (v := ?_) rfl krf krf krf (fun _ _ _ h => h) (Or.inl ⟨by rfl, ?_⟩) (by assumption) ?_
 rotate_left
 ·intro wS hSw
  (try dsimp only at hSw)
  go_simp
  (try with_reducible rfl)
 refine wpAnyH_take (i := 3) (v := ?_) rfl krf krf krf (fun _ _ _ h => h) (Or.inl ⟨by rfl, ?_⟩) (by assumption) ?_
 rotate_left
 ·intro wS hSw
  (try dsimp only at hSw)
  go_simp
  (try with_reducible rfl)
 refine wpAnyH_take (i := 4) (v := ?_) rfl krf krf krf (fun _ _ _ h => h) (Or.inl ⟨by rfl, ?_⟩) (by assumption) ?_
 rotate_left
 ·intro wS hSw
  (try dsimp only at hSw)
  go_simp
  (try with_reducible rfl)
 refine wpAnyH_take (i := 5) (v := ?_) rfl krf krf krf (fun _ _ _ h => h) (Or.inl ⟨by rfl, ?_⟩) (by assumption) ?_
 rotate_left
 ·intro wS hSw
  (try dsimp only at hSw)
  go_simp
  (try with_reducible rfl)
 refine wpAnyH_take (i := 6) (v := ?_) rfl krf krf krf (fun _ _ _ h => h) (Or.inl ⟨by rfl, ?_⟩) (by assumption) ?_
 rotate_left
 ·intro wS hSw
  (try dsimp only at hSw)
  go_simp
  (try with_reducible rfl)
 refine wpAnyH_ready (rs := [7]) krf (by simp) ?_
 refine (AllReadyH.cons rfl (fun K hK => ?_) AllReadyH.nil)
 go_simp
 have hka : Kept noX W0.drew (W0.drew.alloc (.cells #[.string (declL.getD 5 ⟨#[]⟩), .string ⟨#[32]⟩, .string d.name] 9)) := (Kept.refl _ _).alloc _
 have HEa := HEd.out.keep hka
 have pa0 := HEa.cell 0; have pa3 := HEa.cell 3
 simp only [aS, aZ] at pa0 pa3
 have qa := (HWd.out.keep hka).cell (hds 5 _ rfl)
 refine hK.out _ _ (⟨pa0, pa3, qa⟩ : _ ∧ _ ∧ _) (fun hHeld => ?_)
 clear hK K
 refine wpAnyH_ready (rs := [8]) krf (by simp) ?_
 refine (AllReadyH.cons rfl (fun K hK => ?_) AllReadyH.nil)
 go_simp
 refine (HC1.out).mono ?_
 rintro e W1 ⟨rfl, hw1, hp1⟩
 dsimp only
 clear p0 p3 q qb pa0 pa3 qa HEa hka
 have HEb := hp1.cells HWd.out.at_ HEd.out kom (by decide)
 have pa0 := HEb.cell 0; have pa3 := HEb.cell 3
 simp only [aS, aZ] at pa0 pa3
 have qa := hw1.cell (hds 5 _ rfl)
 refine hK.out _ _ (⟨pa0, pa3, qa⟩ : _ ∧ _ ∧ _) (fun hHeld => ?_)
 clear hK K
 refine wpAnyH_done krf ?_ _
 clear pa0 pa3 qa HEb hHeld
 have HE1 := aP (hp1.cells HWd.out.at_ HEd.out kom (by decide))
 have HP1 := aP hp1
 have HW1 := aP hw1
 clear hw1 hp1
 have p4 := HE1.out.cell 4
 simp only [aS, aZ] at p4
 have HF := aP (fmt_calls (W := W1) d.num hn0 hn1 HW1.out.tabAt)
 go_wp2_with fail
 refine HF.out.mono ?_
 rintro e W2 ⟨rfl, hk2⟩
 clear p4
 have HE2 := aP (HE1.out.keep hk2)
 have HW2 := aP (HW1.out.keep hk2)
 have HP2 := aP (HP1.out.post HW1.out.at_ hk2)
 have p0 := HE2.out.cell 0
 simp only [aZ] at p0
 have HC3 := aP (HW2.out.lit [⟨#[32]⟩, itoaB d.num] (by simp only [ByteArray.size_append] at hlen ⊢; omega))
 go_wp2_with fail
 refine (HC3.out).mono ?_
 rintro e W3 ⟨rfl, hw3, hp3⟩
 have HE3 := aP (hp3.cells HW2.out.at_ HE2.out kom (by decide))
 have HP3 := aP (HP2.out.trans hp3 HWd.out.at_)
 have HW3 := aP hw3
 clear hw3 hp3
 have HC4 := aP (HW3.out.lit [⟨#[59, 10]⟩] (by simp only [ByteArray.size_append] at hlen ⊢; omega))
 go_wp2_with fail
 refine (HC4.out).mono ?_
 rintro e W4 ⟨rfl, hw4, hp4⟩
 have HE4 := aP (hp4.cells HW3.out.at_ HE3.out kom (by decide))
 have HP4 := aP (HP3.out.trans hp4 HWd.out.at_)
 have HW4 := aP hw4
 clear hw4 hp4
 go_wp2
 first | (go_end0) | (refine bodyPost_ret (results_none rfl _ _ _) rfl ?_)
 refine ⟨rfl, ?_, Put.pre HH.out.at_ HK0.out HP4.out⟩
 rw [HT.out]
 simpa only [ByteArray.append_assoc] using HW4.out
theorem pdecl_6 (hws : WordsAt w0) (hds : DeclsAt w0) (h : PW w0 B W s) (hk : d.kind = 6) (hn0 : -9223372036854775808 ≤ d.num) (hn1 : d.num ≤ 9223372036854775807) (hv : RowV w0 noX v (ST.ds d.body)) (hok : d.body.all (okS 24) = true) (hlen : s.size + (declT d).size ≤ most) :
  Calls Tryz.prog 45 #[.pointer (some ⟨B, 0, none⟩), .agg #[.int .i64 6, .int .i64 d.line, .int .i64 d.col, .string d.name, .int .i64 d.num, v]] W (Wrote w0 B W (s ++ declT d)) := by
 obtain ⟨A, N, C, rfl, hN, hNC, hCm⟩ := hv.form
 rw [ST.ds_length] at hN
 subst hN
 obtain ⟨W0, hW0⟩ : ∃ W0, W0 = W.alloc (.cells #[.int .i64 6, .int .i64 d.line, .int .i64 d.col, .string d.name, .int .i64 d.num, .slice A d.body.length C] 54) := ⟨_, rfl⟩
 have hk0 : Kept noX W W0 := by rw [hW0]; exact (Kept.refl _ _).alloc _
 have HE0 := aP (show Cells W0 W.heap.size 54 [.int .i64 6, .int .i64 d.line, .int .i64 d.col, .string d.name, .int .i64 d.num, .slice A d.body.length C] from by rw [hW0]; exact Cells.fresh W 54 [.int .i64 6, .int .i64 d.line, .int .i64 d.col, .string d.name, .int .i64 d.num, .slice A d.body.length C])
 have z0 : W0.heap.size = W.heap.size + 1 := by rw [hW0]; simp
 have HW0 := aP (h.keep hk0)
 have hT : declT d = ((catL [declL.getD 6 ⟨#[]⟩, ⟨#[32]⟩, d.name] ++ catL [⟨#[32]⟩]) ++ blockOf (stmtT 24) 0 d.body) ++ catL [⟨#[10]⟩] := by rw [declT, hk] <;> rfl
 rw [hT] at hlen
 have HT := aP hT
 clear hT hk
 have hkd : Kept noX W0 W0.drew := (Kept.refl _ _).drew
 have HWd := aP (HW0.out.keep hkd)
 have HEd := aP (HE0.out.keep hkd)
 have HC1 := aP (HWd.out.lit [declL.getD 6 ⟨#[]⟩, ⟨#[32]⟩, d.name] (by simp only [ByteArray.size_append] at hlen ⊢; omega))
 have HH := aP h
 have HK0 := aP (hk0.trans hkd)
 have HV := aP hv
 have hlt := h.lt
 have q := HW0.out.cell (hds 6 _ rfl)
 have qb := block_lt_of q
 have p0 := HE0.out.cell 0; have p3 := HE0.out.cell 3
 simp only [aS, aZ] at p0 p3
 clear h hk0 hv
 go_enter Tryz.func45, Tryz.ntmps45
 go_wp2_with fail
 rw [← hW0]
 have l0 : W.heap.size < W0.heap.size := by omega
 clear hW0 z0
 refine wp_region_held_drew (S := (fun w' => w'.cell? ⟨W.heap.size, 0, none⟩ = some (.int .i64 6) ∧ w'.cell? ⟨W.heap.size, 3, none⟩ = some (.string d.name) ∧ w'.cell? ⟨0, 6, none⟩ = some (.string (declL.getD 6 ⟨#[]⟩)))) krf ⟨p0, p3, q⟩ (fun hHeld => ?_)
 refine wpAnyH_take (i := 0) (v := ?_) rfl krf krf krf (fun _ _ _ h => h) (Or.inl ⟨by rfl, ?_⟩) (by assumption) ?_
 rotate_left
 ·intro wS hSw
  (try dsimp only at hSw)
  go_simp
  (try with_reducible rfl)
 refine wpAnyH_take (i := 1) (v := ?_) rfl krf krf krf (fun _ _ _ h => h) (Or.inl ⟨by rfl, ?_⟩) (by assumption) ?_
 rotate_left
 ·intro wS hSw
  (try dsimp only at hSw)
  go_simp
  (try with_reducible rfl)
 refine wpAnyH_take (i := 2) (v := ?_) rfl krf krf krf (fun _ _ _ h => h) (Or.inl ⟨by rfl, ?_⟩) (by assumption) ?_
 rotate_left
 ·intro wS hSw
  (try dsimp only at hSw)
  go_simp
  (try with_reducible rfl)
 refine wpAnyH_take (i := 3) (v := ?_) rfl krf krf krf (fun _ _ _ h => h) (Or.inl ⟨by rfl, ?_⟩) (by assumption) ?_
 rotate_left
 ·intro wS hSw
  (try dsimp only at hSw)
  go_simp
  (try with_reducible rfl)
 refine wpAnyH_take (i := 4) (v := ?_) rfl krf krf krf (fun _ _ _ h => h) (Or.inl ⟨by rfl, ?_⟩) (by assumption) ?_
 rotate_left
 ·intro wS hSw
  (try dsimp only at hSw)
  go_simp
  (try with_reducible rfl)
 refine wpAnyH_take (i := 5) (v := ?_) rfl krf krf krf (fun _ _ _ h => h) (Or.inl ⟨by rfl, ?_⟩) (by assumption) ?_
 rotate_left
 ·intro wS hSw
  (try dsimp only at hSw)
  go_simp
  (try with_reducible rfl)
 refine wpAnyH_take (i := 6) (v := ?_) rfl krf krf krf (fun _ _ _ h => h) (Or.inl ⟨by rfl, ?_⟩) (by assumption) ?_
 rotate_left
 ·intro wS hSw
  (try dsimp only at hSw)
  go_simp
  (try with_reducible rfl)
 refine wpAnyH_ready (rs := [7]) krf (by simp) ?_
 refine (AllReadyH.cons rfl (fun K hK => ?_) AllReadyH.nil)
 go_simp
 have hka : Kept noX W0.drew (W0.drew.alloc (.cells #[.string (declL.getD 6 ⟨#[]⟩), .string ⟨#[32]⟩, .string d.name] 9)) := (Kept.refl _ _).alloc _
 have HEa := HEd.out.keep hka
 have pa0 := HEa.cell 0; have pa3 := HEa.cell 3
 simp only [aS, aZ] at pa0 pa3
 have qa := (HWd.out.keep hka).cell (hds 6 _ rfl)
 refine hK.out _ _ (⟨pa0, pa3, qa⟩ : _ ∧ _ ∧ _) (fun hHeld => ?_)
 clear hK K
 refine wpAnyH_ready (rs := [8]) krf (by simp) ?_
 refine (AllReadyH.cons rfl (fun K hK => ?_) AllReadyH.nil)
 go_simp
 refine (HC1.out).mono ?_
 rintro e W1 ⟨rfl, hw1, hp1⟩
 dsimp only
 clear p0 p3 q qb pa0 pa3 qa HEa hka
 have HEb := hp1.cells HWd.out.at_ HEd.out kom (by decide)
 have pa0 := HEb.cell 0; have pa3 := HEb.cell 3
 simp only [aS, aZ] at pa0 pa3
 have qa := hw1.cell (hds 6 _ rfl)
 refine hK.out _ _ (⟨pa0, pa3, qa⟩ : _ ∧ _ ∧ _) (fun hHeld => ?_)
 clear hK K
 refine wpAnyH_done krf ?_ _
 clear pa0 pa3 qa HEb hHeld
 have HE1 := aP (hp1.cells HWd.out.at_ HEd.out kom (by decide))
 have HP1 := aP hp1
 have HW1 := aP hw1
 clear hw1 hp1
 have p4 := HE1.out.cell 4
 simp only [aS, aZ] at p4
 have HF := aP (fmt_calls (W := W1) d.num hn0 hn1 HW1.out.tabAt)
 go_wp2_with fail
 refine HF.out.mono ?_
 rintro e W2 ⟨rfl, hk2⟩
 clear p4
 have HE2 := aP (HE1.out.keep hk2)
 have HW2 := aP (HW1.out.keep hk2)
 have HP2 := aP (HP1.out.post HW1.out.at_ hk2)
 have p0 := HE2.out.cell 0
 simp only [aZ] at p0
 have HC3 := aP (HW2.out.lit [⟨#[32]⟩] (by simp only [ByteArray.size_append] at hlen ⊢; omega))
 go_wp2_with fail
 refine (HC3.out).mono ?_
 rintro e W3 ⟨rfl, hw3, hp3⟩
 have HE3 := aP (hp3.cells HW2.out.at_ HE2.out kom (by decide))
 have HP3 := aP (HP2.out.trans hp3 HWd.out.at_)
 have HW3 := aP hw3
 clear hw3 hp3
 have p5 := HE3.out.cell 5
 simp only [aS, aZ] at p5
 have HC4 := aP (pblock_all w0 B hws 24 W3 _ 0 d.body _ HW3.out HV.out hok (by decide) (by simp only [ByteArray.size_append] at hlen ⊢; omega))
 go_wp2_with fail
 refine (HC4.out).mono ?_
 rintro e W4 ⟨rfl, hw4, hp4⟩
 clear p5
 have HE4 := aP (hp4.cells HW3.out.at_ HE3.out kom (by decide))
 have HP4 := aP (HP3.out.trans hp4 HWd.out.at_)
 have HW4 := aP hw4
 clear hw4 hp4
 have HC5 := aP (HW4.out.lit [⟨#[10]⟩] (by simp only [ByteArray.size_append] at hlen ⊢; omega))
 go_wp2_with fail
 refine (HC5.out).mono ?_
 rintro e W5 ⟨rfl, hw5, hp5⟩
 have HE5 := aP (hp5.cells HW4.out.at_ HE4.out kom (by decide))
 have HP5 := aP (HP4.out.trans hp5 HWd.out.at_)
 have HW5 := aP hw5
 clear hw5 hp5
 go_wp2
 first | (go_end0) | (refine bodyPost_ret (results_none rfl _ _ _) rfl ?_)
 refine ⟨rfl, ?_, Put.pre HH.out.at_ HK0.out HP5.out⟩
 rw [HT.out]
 simpa only [ByteArray.append_assoc] using HW5.out
end
theorem pdecl_all {w0 : World} {B : Nat} (hws : WordsAt w0) (hds : DeclsAt w0) {W : World} {s : ByteArray} {d : DT} {cs : List Value} (h : PW w0 B W s) (hd : DV w0 noX cs d) (hm : mayDT d = true) (hlen : s.size + (declT d).size ≤ most) :
  Calls Tryz.prog 45 #[.pointer (some ⟨B, 0, none⟩), .agg cs.toArray] W (Wrote w0 B W (s ++ declT d)) := by
 obtain ⟨v, rfl, hv⟩ := DV.iff.1 hd
 obtain ⟨q, hq⟩ : ∃ q, q = d.kind := ⟨_, rfl⟩
 unfold mayDT at hm
 rw [Bool.and_eq_true] at hm
 have hm := hm.2
 rw [← hq] at hm ⊢
 split at hm
 ·rename_i h1
  simp at hm
  rw [h1]
  exact pdecl_1 hds h kom kom kom hv hlen
 ·split at hm
  ·rename_i h1
   simp at hm
   rcases h1 with h1 | h1
   ·rw [h1]; exact pdecl_2 hds h kom kom kom hv hlen
   ·rw [h1]; exact pdecl_5 hds h kom kom kom hv hlen
  ·split at hm
   ·rename_i h1
    simp at hm
    rcases h1 with h1 | h1
    ·rw [h1]; exact pdecl_3 hds h kom kom kom hv hlen
    ·rw [h1]; exact pdecl_4 hds h kom kom kom hv hlen
   ·split at hm
    ·rename_i h1
     simp at hm
     rw [h1]
     exact pdecl_6 hws hds h kom kom kom hv (ok_of_block hm.2) hlen
    ·cases hm
end Go.Proofs.YtjkgepppoopheaaGreatDoor
