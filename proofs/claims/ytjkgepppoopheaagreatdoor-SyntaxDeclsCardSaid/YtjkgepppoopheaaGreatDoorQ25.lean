/- The project's printer of expressions, whole (conditions: the text is of at most 2^46 bytes; the tables stand; the expression is one that may be). -/
import Derived.Test.YtjkgepppoopheaaGreatDoorAbb
import Derived.Test.YtjkgepppoopheaaGreatDoorQ24
import Derived.Defers
set_option maxRecDepth 100000
set_option maxHeartbeats 1000000
namespace Go.Proofs.YtjkgepppoopheaaGreatDoor
open Go.RowKit Go.Shelf
theorem betweenC_any (b : Nat) (t : ByteArray) (q o : Int) (w : World) (hb : w.cell? ⟨b, 5, none⟩ = some (.int .i64 o)) :
  Calls Tryz.prog 154 (#[.agg #[.string t, .int .i64 q]] ++ #[.pointer (some ⟨b, 0, none⟩)]) w fun e w' => e = .returned (.bool (opP o t q)) ∧ Kept noX w w' := by
 have hbl := block_lt_of hb
 have hq : (q == o) = opP o t q := rfl
 generalize opP o t q = r at hq
 go_enter Tryz.func154, Tryz.ntmps154
 go_wp2
 go_ret
 exact ⟨rfl, (Kept.refl _ _).alloc _⟩
def calm (Q : Exit → Act → World → Prop) : Exit → Act → World → Prop
 | .panic _, _, _ => False
 | .normal, a, w => Q .normal a w
 | .exit id, a, w => Q (.exit id) a w
 | .goto l, a, w => Q (.goto l) a w
 | .ret, a, w => Q .ret a w
 | .outgrown, a, w => Q .outgrown a w
theorem calm_le {Q : Exit → Act → World → Prop} {e : Exit} {a : Act} {w : World} (h : calm Q e a w) : Q e a w := by
 cases e
 all_goals first | exact h | exact h.elim
theorem opRank_le {o : Int} (h1 : 0 < o) (h2 : o ≤ 11) : opRank o ≤ 4 := by
 have : o = 1 ∨ o = 2 ∨ o = 3 ∨ o = 4 ∨ o = 5 ∨ o = 6 ∨ o = 7 ∨ o = 8 ∨ o = 9 ∨ o = 10 ∨ o = 11 := by omega
 rcases this with rfl | rfl | rfl | rfl | rfl | rfl | rfl | rfl | rfl | rfl | rfl <;> decide
theorem ET.arg {W : World} {v : Value} {l : List ET} (h : RowV W noX v (ET.ds l)) {i : Nat} (hi : i < l.length) :
  ∃ g o c k m s sl lo q A N C, v = .slice (some ⟨g, o, none⟩) l.length c ∧ EV W noX [.int .i64 k, .int .i64 m, .string s, .int .i64 sl, .bool lo, .int .i64 q, .slice A N C] l[i] ∧
   (∀ j, j < 7 → W.cell? ⟨g, o + (i * 7 + j), none⟩ = ([.int .i64 k, .int .i64 m, .string s, .int .i64 sl, .bool lo, .int .i64 q, .slice A N C] : List Value)[j]?) := by
 obtain ⟨b, o, c, size, cs, hv, hsz, hr, hc⟩ := h.at_ (i := i) (by simpa using hi)
 rw [ET.ds_get] at hr
 have he : EV W noX cs l[i] := hr
 have hl := he.len
 rw [hl] at hsz
 subst hsz
 obtain ⟨k, m, s, sl, lo, q, A, N, C, rfl⟩ := he.form
 exact ⟨b, o, c, k, m, s, sl, lo, q, A, N, C, by rw [ET.ds_length] at hv; exact hv, he, hc⟩
set_option maxHeartbeats 2000000 in
theorem between_step {w0 : World} {B d : Nat} (hE : PEC w0 B d) (W : World) (s : ByteArray) (least : Nat) (k m : Int) (n : ByteArray) (sl : Int) (lo : Bool) (o : Int) (x y : ET) (v : Value) (h : PW w0 B W s) (hv : RowV w0 noX v (ET.ds [x, y]))
  (ho1 : 0 < o) (ho2 : o ≤ 11) (hx : mayE d x = true) (hy : mayE d y = true) (hlen : s.size + (exprT (d + 1) least (.node 6 m n sl lo o [x, y])).size ≤ most) :
  Calls Tryz.prog 105 #[.pointer (some ⟨B, 0, none⟩), .agg #[.int .i64 k, .int .i64 m, .string n, .int .i64 sl, .bool lo, .int .i64 o, v], .int .i64 (least : Nat)] W (Wrote w0 B W (s ++ exprT (d + 1) least (.node 6 m n sl lo o [x, y]))) := by
 have hmf : ∀ (fn : Fn) (first cap : Array Value) (w : World), (Instr.makeFunc fn first cap).run Tryz.prog w = .ok (.func fn first cap) w := fun _ _ _ _ => rfl
 obtain ⟨A, N, C, rfl, hN, hNC, hCm⟩ := hv.form
 have hN2 : N = 2 := by simpa using hN
 subst hN2
 clear hN
 obtain ⟨g, o1, c1, k1, m1, s1', sl1, lo1, q1, A1, N1, C1, hv1, hev1, hc1⟩ := ET.arg hv (i := 0) (show 0 < 2 from by decide)
 obtain ⟨g2, o2, c2, k2, m2, s2', sl2, lo2, q2, A2, N2, C2, hv2, hev2, hc2⟩ := ET.arg hv (i := 1) (show 1 < 2 from by decide)
 injection hv1 with hA hN hC
 subst hA hC
 clear hN
 injection hv2 with hA hN hC
 injection hA with hA
 injection hA with hA1 hA2 _
 subst hA1 hA2
 clear hN hC
 have c10 := hc1 0 (by decide); have c11 := hc1 1 (by decide); have c12 := hc1 2 (by decide); have c13 := hc1 3 (by decide); have c14 := hc1 4 (by decide); have c15 := hc1 5 (by decide); have c16 := hc1 6 (by decide)
 have c20 := hc2 0 (by decide); have c21 := hc2 1 (by decide); have c22 := hc2 2 (by decide); have c23 := hc2 3 (by decide); have c24 := hc2 4 (by decide); have c25 := hc2 5 (by decide); have c26 := hc2 6 (by decide)
 simp only [aZ, aS, Nat.zero_mul, Nat.one_mul, Nat.zero_add, Nat.add_zero, ← Nat.add_assoc] at c10 c11 c12 c13 c14 c15 c16 c20 c21 c22 c23 c24 c25 c26
 clear hc1 hc2
 have hr4 := opRank_le ho1 ho2
 have hlt := h.lt
 obtain ⟨W0, hW0⟩ : ∃ W0, W0 = W.alloc (.cells #[.int .i64 k, .int .i64 m, .string n, .int .i64 sl, .bool lo, .int .i64 o, .slice (some ⟨g, o1, none⟩) 2 C] 44) := ⟨_, rfl⟩
 have hk0 : Kept noX W W0 := by rw [hW0]; exact (Kept.refl _ _).alloc _
 have HE0 := aP (show Cells W0 W.heap.size 44 [.int .i64 k, .int .i64 m, .string n, .int .i64 sl, .bool lo, .int .i64 o, .slice (some ⟨g, o1, none⟩) 2 C] from by rw [hW0]; exact Cells.fresh W 44 [.int .i64 k, .int .i64 m, .string n, .int .i64 sl, .bool lo, .int .i64 o, .slice (some ⟨g, o1, none⟩) 2 C])
 have z0 : W0.heap.size = W.heap.size + 1 := by rw [hW0]; simp
 have hw0 := h.keep hk0
 have hro := ranked_gen 154 #[.pointer (some ⟨W.heap.size, 0, none⟩)] (enters_of Tryz.func154 krf rfl) (opP o) W0 hw0.opsAt (fun W1 t q hk => betweenC_any W.heap.size t q o W1 (by
   have := (HE0.out.keep hk).cell 5
   exact this))
 have HRO := aP hro
 have HB0 := aP hw0.at_
 have HW0 := aP hw0
 have HH := aP h
 have HK0 := aP hk0
 have HV := aP hv
 clear hro hw0 h hk0 hv
 refine calls_of_wp_defers Tryz.func105 rfl (wp_mono (Q := calm (bodyPostD Tryz.prog Tryz.f105 (Wrote w0 B W (s ++ exprT (d + 1) least (.node 6 m n sl lo o [x, y]))))) ?_ (fun _ _ _ h => calm_le h))
 simp only [Tryz.ntmps105, List.size_toArray, List.length_cons, List.length_nil, Nat.reduceAdd, Nat.reduceSub, Array.replicate_succ, Array.replicate_zero, List.push_toArray, List.append_toArray, List.nil_append, List.cons_append]
 go_wp2_with fail
 rw [← hW0]
 have l0 : W.heap.size < W0.heap.size := by omega
 clear hW0 z0
 refine HRO.out.mono ?_
 rintro e W1 ⟨rfl, hk1⟩
 have hrk : opRank o = (rankedP (opP o)).2.1 := rfl
 have hsg : opSign o = (rankedP (opP o)).1.1 := rfl
 unfold rankedV
 rw [← hrk, ← hsg]
 clear hrk hsg
 generalize (rankedP (opP o)).1.2 = oq
 generalize (rankedP (opP o)).2.2 = ob
 have HE1 := aP (HE0.out.keep hk1)
 have hw1 := HW0.out.keep hk1
 have s1 := hk1.size
 obtain ⟨W2, hW2⟩ : ∃ W2, W2 = W1.alloc (.cells #[.string (opSign o), .int .i64 oq] 196) := ⟨_, rfl⟩
 have hk2 : Kept noX W1 W2 := by rw [hW2]; exact (Kept.refl _ _).alloc _
 have HO2 := aP (show Cells W2 W1.heap.size 196 [.string (opSign o), .int .i64 oq] from by rw [hW2]; exact Cells.fresh W1 196 _)
 have z2 : W2.heap.size = W1.heap.size + 1 := by rw [hW2]; simp
 have HE2 := aP (HE1.out.keep hk2)
 have hw2 := hw1.keep hk2
 have HW2 := aP hw2
 have HB2 := aP hw2.at_
 have HPRE := aP (fun W' (hp : Put B W2 W') => Put.pre HH.out.at_ HK0.out (Put.pre HB0.out (hk1.trans hk2) hp))
 clear hw1 hw2 hk2 HB0 HW0 HE0 HE1 HRO
 by_cases hrl : opRank o < least
 ·have hdr : decide ((opRank o : Int) < (least : Int)) = true := by simpa using hrl
  have hT : exprT (d + 1) least (.node 6 m n sl lo o [x, y]) = (((⟨#[40]⟩ ++ exprT d (leftS (opRank o)) x) ++ catL [⟨#[32]⟩, opSign o, ⟨#[32]⟩]) ++ exprT d (opRank o + 1) y) ++ ⟨#[41]⟩ := by
   rw [exprT, if_neg (by decide), if_neg (by decide), if_neg (by decide), if_neg (by decide), if_neg (by decide), if_pos hrl] <;> rfl
  rw [hT] at hlen
  have HT := aP hT
  clear hT
  have hcp : catL [(⟨#[40]⟩ : ByteArray)] = ⟨#[40]⟩ := by simp [catL, ba_an]
  have HL2 := aP (HW2.out.lit [⟨#[40]⟩] (by rw [hcp]; simp only [ByteArray.size_append] at hlen; omega))
  rw [hcp] at HL2
  clear hcp
  go_wp2_with fail
  rw [← hW2, ← z2]
  have l1 : W1.heap.size < W2.heap.size := by omega
  clear hW2 z2
  refine (HL2.out).mono ?_
  rintro e W3 ⟨rfl, hw3, hp3⟩
  have HEa := aP (hp3.cells HB2.out HE2.out kom (by decide))
  have HOa := aP (hp3.cells HB2.out HO2.out (by have := HB2.out.lt; have := hlt; omega) (by decide))
  have s3 := hp3.kept.size
  obtain ⟨W4, hW4⟩ : ∃ W4, W4 = W3.alloc (.cells #[.string ⟨#[41]⟩] 9) := ⟨_, rfl⟩
  have hk4 : Kept noX W3 W4 := by rw [hW4]; exact (Kept.refl _ _).alloc _
  have HG := aP (show Cells W4 W3.heap.size 9 [.string ⟨#[41]⟩] from by rw [hW4]; exact Cells.fresh W3 9 _)
  have HWk := aP (hw3.keep hk4)
  have HEk := aP (HEa.out.keep hk4)
  have HOk := aP (HOa.out.keep hk4)
  have HP4 := aP (hp3.post hw3.at_ hk4)
  have hB3 := hw3.lt
  clear hw3 hp3 HEa HOa
  go_wp2_with fail
  rw [← hW4]
  clear hW4 hk4
  have r0 := HWk.out.cell c10; have r1 := HWk.out.cell c11; have r2 := HWk.out.cell c12; have r3 := HWk.out.cell c13; have r4 := HWk.out.cell c14; have r5 := HWk.out.cell c15; have r6 := HWk.out.cell c16
  have e6 := HEk.out.cell 6
  simp only [aZ, aS] at e6
  have hkd : Kept noX W4 W4.drew := (Kept.refl _ _).drew
  have HX := aP (hE W4.drew (s ++ ⟨#[40]⟩) (leftS (opRank o)) x _ (HWk.out.keep hkd) hev1 hx (by unfold leftS; split <;> omega) (by simp only [ByteArray.size_append] at hlen ⊢; omega))
  refine wp_region_held_drew (S := (fun w' => w'.cell? ⟨W.heap.size, 6, none⟩ = some (.slice (some ⟨g, o1, none⟩) 2 C) ∧ w'.cell? ⟨g, o1, none⟩ = some (.int .i64 k1) ∧ w'.cell? ⟨g, o1 + 1, none⟩ = some (.int .i64 m1) ∧ w'.cell? ⟨g, o1 + 2, none⟩ = some (.string s1') ∧ w'.cell? ⟨g, o1 + 3, none⟩ = some (.int .i64 sl1) ∧ w'.cell? ⟨g, o1 + 4, none⟩ = some (.bool lo1) ∧ w'.cell? ⟨g, o1 + 5, none⟩ = some (.int .i64 q1) ∧ w'.cell? ⟨g, o1 + 6, none⟩ = some (.slice A1 N1 C1))) krf ⟨e6, r0, r1, r2, r3, r4, r5, r6⟩ (fun hHeld => ?_)
  refine wpAnyH_take (i := 0) (v := ?_) rfl krf krf krf (fun _ _ _ h => h) (Or.inl ⟨by rfl, ?_⟩) (by assumption) ?_
  rotate_left
  ·intro wS hSw
   (try dsimp only at hSw)
   go_simp
   (try with_reducible rfl)
  refine wpAnyH_take (i := 1) (v := ?_) rfl krf krf krf (fun _ _ _ h => h) (Or.inl ⟨by rfl, ?_⟩) (by assumption) ?_
  rotate_left
  ·intro wS hSw
   (try dsimp only at hSw)
   go_simp
   (try with_reducible rfl)
  refine wpAnyH_take (i := 2) (v := ?_) rfl krf krf krf (fun _ _ _ h => h) (Or.inl ⟨by rfl, ?_⟩) (by assumption) ?_
  rotate_left
  ·intro wS hSw
   (try dsimp only at hSw)
   go_simp
   (try with_reducible rfl)
  refine wpAnyH_take (i := 3) (v := ?_) rfl krf krf krf (fun _ _ _ h => h) (Or.inl ⟨by rfl, ?_⟩) (by assumption) ?_
  rotate_left
  ·intro wS hSw
   (try dsimp only at hSw)
   go_simp
   (try with_reducible rfl)
  refine wpAnyH_take (i := 4) (v := ?_) rfl krf krf krf (fun _ _ _ h => h) (Or.inl ⟨by rfl, ?_⟩) (by assumption) ?_
  rotate_left
  ·intro wS hSw
   (try dsimp only at hSw)
   go_simp
   (try with_reducible rfl)
  refine wpAnyH_take (i := 5) (v := ?_) rfl krf krf krf (fun _ _ _ h => h) (Or.inl ⟨by rfl, ?_⟩) (by assumption) ?_
  rotate_left
  ·intro wS hSw
   (try dsimp only at hSw)
   go_simp
   (try with_reducible rfl)
  refine wpAnyH_ready (rs := [6]) krf (by simp) ?_
  refine (AllReadyH.cons rfl (fun K hK => ?_) AllReadyH.nil)
  go_simp
  refine (lefts_any (opRank o) kom W4.drew).mono ?_
  rintro e W3 ⟨rfl, rfl⟩
  dsimp only
  refine hK.out _ _ (⟨e6, r0, r1, r2, r3, r4, r5, r6⟩ : _ ∧ _ ∧ _ ∧ _ ∧ _ ∧ _ ∧ _ ∧ _) (fun hHeld => ?_)
  clear hK K
  refine wpAnyH_ready (rs := [7]) krf (by simp) ?_
  refine (AllReadyH.cons rfl (fun K hK => ?_) AllReadyH.nil)
  go_simp
  refine (HX.out).mono ?_
  rintro e W5 ⟨rfl, hw5, hp5⟩
  dsimp only
  have HBd := aP (HWk.out.at_.keep hkd)
  have HE5 := aP (hp5.cells HBd.out (HEk.out.keep hkd) kom (by decide))
  have HO5 := aP (hp5.cells HBd.out (HOk.out.keep hkd) kom (by decide))
  clear r0 r1 r2 r3 r4 r5 r6 e6
  have r0 := hw5.cell c10; have r1 := hw5.cell c11; have r2 := hw5.cell c12; have r3 := hw5.cell c13; have r4 := hw5.cell c14; have r5 := hw5.cell c15; have r6 := hw5.cell c16
  have e6 := HE5.out.cell 6
  simp only [aZ, aS] at e6
  refine hK.out _ _ (⟨e6, r0, r1, r2, r3, r4, r5, r6⟩ : _ ∧ _ ∧ _ ∧ _ ∧ _ ∧ _ ∧ _ ∧ _) (fun hHeld => ?_)
  clear hK K
  refine wpAnyH_done krf ?_ _
  clear r0 r1 r2 r3 r4 r5 r6 e6
  have u0 := HO5.out.cell 0
  simp only [aZ] at u0
  have HL5 := aP (hw5.lit [⟨#[32]⟩, opSign o, ⟨#[32]⟩] (by simp only [ByteArray.size_append] at hlen ⊢; omega))
  have HW5 := aP hw5
  have HP5 := aP hp5
  have lo5 := HO5.out.lt
  clear hw5 hp5 hHeld
  go_wp2_with fail
  refine (HL5.out).mono ?_
  rintro e W6 ⟨rfl, hw6, hp6⟩
  have HE6 := aP (hp6.cells HW5.out.at_ HE5.out kom (by decide))
  have t0 := hw6.cell c20; have t1 := hw6.cell c21; have t2 := hw6.cell c22; have t3 := hw6.cell c23; have t4 := hw6.cell c24; have t5 := hw6.cell c25; have t6 := hw6.cell c26
  have e6 := HE6.out.cell 6
  simp only [aZ, aS] at e6
  have HY := aP (hE W6 _ (opRank o + 1) y _ hw6 hev2 hy kom (by simp only [ByteArray.size_append] at hlen ⊢; omega))
  have HW6 := aP hw6
  have HP6 := aP hp6
  clear hw6 hp6 u0
  go_wp2_with fail
  refine (HY.out).mono ?_
  rintro e W7 ⟨rfl, hw7, hp7⟩
  clear t0 t1 t2 t3 t4 t5 t6 e6
  have HW7 := aP hw7
  have HP7 := aP (((Put.pre HWk.out.at_ hkd HP5.out).trans HP6.out HWk.out.at_).trans hp7 HWk.out.at_)
  clear hw7 hp7
  have HG7 := aP (HP7.out.cells HWk.out.at_ HG.out kom (by decide))
  go_wp2
  show Leaves _ _ _ _ [_] .returning W7
  refine leaves_cons (f := 90) (args := #[.pointer (some ⟨B, 0, none⟩), .slice (some ⟨W3.heap.size, 0, none⟩) 1 1]) (by simp) (by simp [go_sem]) ?_
  have hcc : catL [(⟨#[41]⟩ : ByteArray)] = ⟨#[41]⟩ := by simp [catL, ba_an]
  refine (put_deferred (ts := [⟨#[41]⟩]) HW7.out.at_ HG7.out kom (by rw [hcc]; simp only [ByteArray.size_append] at hlen ⊢; unfold most at hlen; omega) kle .returning).mono ?_
  rintro e u' W8 ⟨rfl, rfl, hb8, hp8⟩
  rw [hcc] at hb8
  simp only [settle]
  refine ⟨_, results_none rfl _ _ _, rfl, ?_, HPRE.out _ ((HP4.out.trans HP7.out HB2.out).trans hp8 HB2.out)⟩
  have := HW7.out.put hp8 hb8
  rw [HT.out]
  simpa only [ByteArray.append_assoc] using this
 ·have hdr : decide ((opRank o : Int) < (least : Int)) = false := by simpa using hrl
  have hT : exprT (d + 1) least (.node 6 m n sl lo o [x, y]) = ((exprT d (leftS (opRank o)) x) ++ catL [⟨#[32]⟩, opSign o, ⟨#[32]⟩]) ++ exprT d (opRank o + 1) y := by
   rw [exprT, if_neg (by decide), if_neg (by decide), if_neg (by decide), if_neg (by decide), if_neg (by decide), if_neg hrl] <;> rfl
  rw [hT] at hlen
  have HT := aP hT
  clear hT
  go_wp2_with fail
  rw [← hW2]
  have l1 : W1.heap.size < W2.heap.size := by omega
  clear hW2 z2
  have HWk := HW2
  have HEk := HE2
  have HOk := HO2
  have r0 := HWk.out.cell c10; have r1 := HWk.out.cell c11; have r2 := HWk.out.cell c12; have r3 := HWk.out.cell c13; have r4 := HWk.out.cell c14; have r5 := HWk.out.cell c15; have r6 := HWk.out.cell c16
  have e6 := HEk.out.cell 6
  simp only [aZ, aS] at e6
  have hkd : Kept noX W2 W2.drew := (Kept.refl _ _).drew
  have HX := aP (hE W2.drew (s) (leftS (opRank o)) x _ (HWk.out.keep hkd) hev1 hx (by unfold leftS; split <;> omega) (by simp only [ByteArray.size_append] at hlen; omega))
  refine wp_region_held_drew (S := (fun w' => w'.cell? ⟨W.heap.size, 6, none⟩ = some (.slice (some ⟨g, o1, none⟩) 2 C) ∧ w'.cell? ⟨g, o1, none⟩ = some (.int .i64 k1) ∧ w'.cell? ⟨g, o1 + 1, none⟩ = some (.int .i64 m1) ∧ w'.cell? ⟨g, o1 + 2, none⟩ = some (.string s1') ∧ w'.cell? ⟨g, o1 + 3, none⟩ = some (.int .i64 sl1) ∧ w'.cell? ⟨g, o1 + 4, none⟩ = some (.bool lo1) ∧ w'.cell? ⟨g, o1 + 5, none⟩ = some (.int .i64 q1) ∧ w'.cell? ⟨g, o1 + 6, none⟩ = some (.slice A1 N1 C1))) krf ⟨e6, r0, r1, r2, r3, r4, r5, r6⟩ (fun hHeld => ?_)
  refine wpAnyH_take (i := 0) (v := ?_) rfl krf krf krf (fun _ _ _ h => h) (Or.inl ⟨by rfl, ?_⟩) (by assumption) ?_
  rotate_left
  ·intro wS hSw
   (try dsimp only at hSw)
   go_simp
   (try with_reducible rfl)
  refine wpAnyH_take (i := 1) (v := ?_) rfl krf krf krf (fun _ _ _ h => h) (Or.inl ⟨by rfl, ?_⟩) (by assumption) ?_
  rotate_left
  ·intro wS hSw
   (try dsimp only at hSw)
   go_simp
   (try with_reducible rfl)
  refine wpAnyH_take (i := 2) (v := ?_) rfl krf krf krf (fun _ _ _ h => h) (Or.inl ⟨by rfl, ?_⟩) (by assumption) ?_
  rotate_left
  ·intro wS hSw
   (try dsimp only at hSw)
   go_simp
   (try with_reducible rfl)
  refine wpAnyH_take (i := 3) (v := ?_) rfl krf krf krf (fun _ _ _ h => h) (Or.inl ⟨by rfl, ?_⟩) (by assumption) ?_
  rotate_left
  ·intro wS hSw
   (try dsimp only at hSw)
   go_simp
   (try with_reducible rfl)
  refine wpAnyH_take (i := 4) (v := ?_) rfl krf krf krf (fun _ _ _ h => h) (Or.inl ⟨by rfl, ?_⟩) (by assumption) ?_
  rotate_left
  ·intro wS hSw
   (try dsimp only at hSw)
   go_simp
   (try with_reducible rfl)
  refine wpAnyH_take (i := 5) (v := ?_) rfl krf krf krf (fun _ _ _ h => h) (Or.inl ⟨by rfl, ?_⟩) (by assumption) ?_
  rotate_left
  ·intro wS hSw
   (try dsimp only at hSw)
   go_simp
   (try with_reducible rfl)
  refine wpAnyH_ready (rs := [6]) krf (by simp) ?_
  refine (AllReadyH.cons rfl (fun K hK => ?_) AllReadyH.nil)
  go_simp
  refine (lefts_any (opRank o) kom W2.drew).mono ?_
  rintro e W3 ⟨rfl, rfl⟩
  dsimp only
  refine hK.out _ _ (⟨e6, r0, r1, r2, r3, r4, r5, r6⟩ : _ ∧ _ ∧ _ ∧ _ ∧ _ ∧ _ ∧ _ ∧ _) (fun hHeld => ?_)
  clear hK K
  refine wpAnyH_ready (rs := [7]) krf (by simp) ?_
  refine (AllReadyH.cons rfl (fun K hK => ?_) AllReadyH.nil)
  go_simp
  refine (HX.out).mono ?_
  rintro e W5 ⟨rfl, hw5, hp5⟩
  dsimp only
  have HBd := aP (HWk.out.at_.keep hkd)
  have HE5 := aP (hp5.cells HBd.out (HEk.out.keep hkd) kom (by decide))
  have HO5 := aP (hp5.cells HBd.out (HOk.out.keep hkd) kom (by decide))
  clear r0 r1 r2 r3 r4 r5 r6 e6
  have r0 := hw5.cell c10; have r1 := hw5.cell c11; have r2 := hw5.cell c12; have r3 := hw5.cell c13; have r4 := hw5.cell c14; have r5 := hw5.cell c15; have r6 := hw5.cell c16
  have e6 := HE5.out.cell 6
  simp only [aZ, aS] at e6
  refine hK.out _ _ (⟨e6, r0, r1, r2, r3, r4, r5, r6⟩ : _ ∧ _ ∧ _ ∧ _ ∧ _ ∧ _ ∧ _ ∧ _) (fun hHeld => ?_)
  clear hK K
  refine wpAnyH_done krf ?_ _
  clear r0 r1 r2 r3 r4 r5 r6 e6
  have u0 := HO5.out.cell 0
  simp only [aZ] at u0
  have HL5 := aP (hw5.lit [⟨#[32]⟩, opSign o, ⟨#[32]⟩] (by simp only [ByteArray.size_append] at hlen ⊢; omega))
  have HW5 := aP hw5
  have HP5 := aP hp5
  have lo5 := HO5.out.lt
  clear hw5 hp5 hHeld
  go_wp2_with fail
  refine (HL5.out).mono ?_
  rintro e W6 ⟨rfl, hw6, hp6⟩
  have HE6 := aP (hp6.cells HW5.out.at_ HE5.out kom (by decide))
  have t0 := hw6.cell c20; have t1 := hw6.cell c21; have t2 := hw6.cell c22; have t3 := hw6.cell c23; have t4 := hw6.cell c24; have t5 := hw6.cell c25; have t6 := hw6.cell c26
  have e6 := HE6.out.cell 6
  simp only [aZ, aS] at e6
  have HY := aP (hE W6 _ (opRank o + 1) y _ hw6 hev2 hy kom (by simp only [ByteArray.size_append] at hlen ⊢; omega))
  have HW6 := aP hw6
  have HP6 := aP hp6
  clear hw6 hp6 u0
  go_wp2_with fail
  refine (HY.out).mono ?_
  rintro e W7 ⟨rfl, hw7, hp7⟩
  clear t0 t1 t2 t3 t4 t5 t6 e6
  have HW7 := aP hw7
  have HP7 := aP (((Put.pre HWk.out.at_ hkd HP5.out).trans HP6.out HWk.out.at_).trans hp7 HWk.out.at_)
  clear hw7 hp7
  go_wp2
  show Leaves _ _ _ _ [] .returning W7
  exact ⟨_, results_none rfl _ _ _, rfl, by (rw [HT.out]; simpa only [ByteArray.append_assoc] using HW7.out), HPRE.out _ HP7.out⟩
theorem mayE_parts {d : Nat} {k m : Int} {s : ByteArray} {sl : Int} {lo : Bool} {o : Int} {l : List ET} (h : mayE (d + 1) (.node k m s sl lo o l) = true) :
  0 < k ∧ k ≤ 6 ∧ nmB s (decide (k = 2 ∨ k = 3)) = true ∧ numB m (decide (k = 1)) = true ∧ opB o (decide (k = 6)) = true ∧ l.length = argsN k ∧ ∀ x ∈ l, mayE d x = true := by
 rw [mayE] at h
 simp only [Bool.and_eq_true, decide_eq_true_eq, List.all_eq_true] at h
 obtain ⟨⟨⟨⟨⟨⟨h1, h2⟩, h3⟩, h4⟩, h5⟩, h6⟩, h7⟩ := h
 exact ⟨h1, h2, h3, h4, h5, h6, h7⟩
theorem one_arg {l : List ET} (h : l.length = 1) : ∃ x, l = [x] := by
 match l, h with
 | [x], _ => exact ⟨x, rfl⟩
theorem two_args {l : List ET} (h : l.length = 2) : ∃ x y, l = [x, y] := by
 match l, h with
 | [x, y], _ => exact ⟨x, y, rfl⟩
section
variable {w0 : World} {B d : Nat} {W : World} {s : ByteArray} {least : Nat} {m : Int} {n : ByteArray} {sl : Int} {lo : Bool} {o : Int}
theorem pexpr_num {A : Option Addr} {N C : Nat} (h : PW w0 B W s) (h0 : -9223372036854775808 ≤ m) (h1 : m ≤ 9223372036854775807) (l : List ET) (hlen : s.size + (exprT (d + 1) least (.node 1 m n sl lo o l)).size ≤ most) :
  Calls Tryz.prog 53 #[.pointer (some ⟨B, 0, none⟩), .agg #[.int .i64 1, .int .i64 m, .string n, .int .i64 sl, .bool lo, .int .i64 o, .slice A N C], .int .i64 (least : Nat)] W (Wrote w0 B W (s ++ exprT (d + 1) least (.node 1 m n sl lo o l))) := by
 obtain ⟨W0, hW0⟩ : ∃ W0, W0 = W.alloc (.cells #[.int .i64 1, .int .i64 m, .string n, .int .i64 sl, .bool lo, .int .i64 o, .slice A N C] 44) := ⟨_, rfl⟩
 have hk0 : Kept noX W W0 := by rw [hW0]; exact (Kept.refl _ _).alloc _
 have HE0 := aP (show Cells W0 W.heap.size 44 [.int .i64 1, .int .i64 m, .string n, .int .i64 sl, .bool lo, .int .i64 o, .slice A N C] from by rw [hW0]; exact Cells.fresh W 44 [.int .i64 1, .int .i64 m, .string n, .int .i64 sl, .bool lo, .int .i64 o, .slice A N C])
 have z0 : W0.heap.size = W.heap.size + 1 := by rw [hW0]; simp
 have hw0 := h.keep hk0
 have hT : exprT (d + 1) least (.node 1 m n sl lo o l) = itoaB m := by rw [exprT] <;> rfl
 rw [hT] at hlen
 have HT := aP hT
 have HF := aP (fmt_calls (W := W0) m h0 h1 hw0.tabAt)
 have HW0 := aP hw0
 have HH := aP h
 have HK0 := aP hk0
 clear h hw0 hk0 hT
 go_enter Tryz.func53, Tryz.ntmps53
 go_wp2_with fail
 rw [← hW0]
 clear hW0 z0
 refine HF.out.mono ?_
 rintro e W1 ⟨rfl, hk1⟩
 have hcp : catL [itoaB m] = itoaB m := by simp [catL, ba_an]
 have HL := aP ((HW0.out.keep hk1).lit [itoaB m] (by rw [hcp]; exact hlen))
 rw [hcp] at HL
 clear hcp
 go_wp2_with fail
 refine (HL.out).mono ?_
 rintro e W2 ⟨rfl, hw2, hp2⟩
 have HW2 := aP hw2
 clear hw2
 go_wp2
 go_end0
 exact ⟨rfl, by rw [HT.out]; exact HW2.out, Put.pre HH.out.at_ HK0.out (Put.pre HW0.out.at_ hk1 hp2)⟩
theorem pexpr_name {A : Option Addr} {N C : Nat} (h : PW w0 B W s) (l : List ET) (hlen : s.size + (exprT (d + 1) least (.node 2 m n sl lo o l)).size ≤ most) :
  Calls Tryz.prog 53 #[.pointer (some ⟨B, 0, none⟩), .agg #[.int .i64 2, .int .i64 m, .string n, .int .i64 sl, .bool lo, .int .i64 o, .slice A N C], .int .i64 (least : Nat)] W (Wrote w0 B W (s ++ exprT (d + 1) least (.node 2 m n sl lo o l))) := by
 obtain ⟨W0, hW0⟩ : ∃ W0, W0 = W.alloc (.cells #[.int .i64 2, .int .i64 m, .string n, .int .i64 sl, .bool lo, .int .i64 o, .slice A N C] 44) := ⟨_, rfl⟩
 have hk0 : Kept noX W W0 := by rw [hW0]; exact (Kept.refl _ _).alloc _
 have HE0 := aP (show Cells W0 W.heap.size 44 [.int .i64 2, .int .i64 m, .string n, .int .i64 sl, .bool lo, .int .i64 o, .slice A N C] from by rw [hW0]; exact Cells.fresh W 44 [.int .i64 2, .int .i64 m, .string n, .int .i64 sl, .bool lo, .int .i64 o, .slice A N C])
 have z0 : W0.heap.size = W.heap.size + 1 := by rw [hW0]; simp
 have hw0 := h.keep hk0
 have hT : exprT (d + 1) least (.node 2 m n sl lo o l) = n := by rw [exprT] <;> rfl
 rw [hT] at hlen
 have HT := aP hT
 have hcp : catL [n] = n := by simp [catL, ba_an]
 have HL := aP (hw0.lit [n] (by rw [hcp]; exact hlen))
 rw [hcp] at HL
 have HH := aP h
 have HK0 := aP hk0
 clear h hw0 hk0 hT hcp
 go_enter Tryz.func53, Tryz.ntmps53
 go_wp2_with fail
 rw [← hW0, ← z0]
 clear hW0 z0
 refine (HL.out).mono ?_
 rintro e W2 ⟨rfl, hw2, hp2⟩
 have HW2 := aP hw2
 clear hw2
 go_wp2
 go_end0
 exact ⟨rfl, by rw [HT.out]; exact HW2.out, Put.pre HH.out.at_ HK0.out hp2⟩
theorem pexpr_neg (hE : PEC w0 B d) {v : Value} {x : ET} (h : PW w0 B W s) (hv : RowV w0 noX v (ET.ds [x])) (hx : mayE d x = true) (hlen : s.size + (exprT (d + 1) least (.node 4 m n sl lo o [x])).size ≤ most) :
  Calls Tryz.prog 53 #[.pointer (some ⟨B, 0, none⟩), .agg #[.int .i64 4, .int .i64 m, .string n, .int .i64 sl, .bool lo, .int .i64 o, v], .int .i64 (least : Nat)] W (Wrote w0 B W (s ++ exprT (d + 1) least (.node 4 m n sl lo o [x]))) := by
 obtain ⟨A, N, C, rfl, hN, hNC, hCm⟩ := hv.form
 have hN2 : N = 1 := by simpa using hN
 subst hN2
 clear hN
 have hlt := h.lt
 obtain ⟨g, o1, c1, ka, ma, sa, sla, loa, qa, Aa, Na, Ca, hv1, hev1, hc1⟩ := ET.arg hv (i := 0) (show 0 < 1 from by decide)
 injection hv1 with hA hN hC
 subst hA hC
 clear hN
 have c10 := hc1 0 (by decide); have c11 := hc1 1 (by decide); have c12 := hc1 2 (by decide); have c13 := hc1 3 (by decide); have c14 := hc1 4 (by decide); have c15 := hc1 5 (by decide); have c16 := hc1 6 (by decide)
 simp only [aZ, aS, Nat.zero_mul, Nat.zero_add, Nat.add_zero] at c10 c11 c12 c13 c14 c15 c16
 clear hc1
 obtain ⟨W0, hW0⟩ : ∃ W0, W0 = W.alloc (.cells #[.int .i64 4, .int .i64 m, .string n, .int .i64 sl, .bool lo, .int .i64 o, .slice (some ⟨g, o1, none⟩) 1 C] 44) := ⟨_, rfl⟩
 have hk0 : Kept noX W W0 := by rw [hW0]; exact (Kept.refl _ _).alloc _
 have HE0 := aP (show Cells W0 W.heap.size 44 [.int .i64 4, .int .i64 m, .string n, .int .i64 sl, .bool lo, .int .i64 o, .slice (some ⟨g, o1, none⟩) 1 C] from by rw [hW0]; exact Cells.fresh W 44 [.int .i64 4, .int .i64 m, .string n, .int .i64 sl, .bool lo, .int .i64 o, .slice (some ⟨g, o1, none⟩) 1 C])
 have z0 : W0.heap.size = W.heap.size + 1 := by rw [hW0]; simp
 have hw0 := h.keep hk0
 have hT : exprT (d + 1) least (.node 4 m n sl lo o [x]) = ⟨#[45]⟩ ++ exprT d 5 x := by rw [exprT] <;> rfl
 rw [hT] at hlen
 have HT := aP hT
 clear hT
 have hcp : catL [(⟨#[45]⟩ : ByteArray)] = ⟨#[45]⟩ := by simp [catL, ba_an]
 have HL := aP (hw0.lit [⟨#[45]⟩] (by rw [hcp]; simp only [ByteArray.size_append] at hlen; omega))
 rw [hcp] at HL
 clear hcp
 have HB0 := aP hw0.at_
 have HH := aP h
 have HK0 := aP hk0
 clear h hw0 hk0
 go_enter Tryz.func53, Tryz.ntmps53
 go_wp2_with fail
 rw [← hW0, ← z0]
 have l0 : W.heap.size < W0.heap.size := by omega
 clear hW0 z0
 refine (HL.out).mono ?_
 rintro e W1 ⟨rfl, hw1, hp1⟩
 have HE1 := aP (hp1.cells HB0.out HE0.out kom (by decide))
 have e6 := HE1.out.cell 6
 simp only [aZ, aS] at e6
 have r0 := hw1.cell c10; have r1 := hw1.cell c11; have r2 := hw1.cell c12; have r3 := hw1.cell c13; have r4 := hw1.cell c14; have r5 := hw1.cell c15; have r6 := hw1.cell c16
 have HX := aP (hE W1 _ 5 x _ hw1 hev1 hx (by decide) (by simp only [ByteArray.size_append] at hlen ⊢; omega))
 have HP1 := aP hp1
 clear hp1 hw1
 go_wp2_with fail
 refine (HX.out).mono ?_
 rintro e W2 ⟨rfl, hw2, hp2⟩
 have HW2 := aP hw2
 clear hw2
 go_wp2
 go_end0
 refine ⟨rfl, ?_, Put.pre HH.out.at_ HK0.out (HP1.out.trans hp2 HB0.out)⟩
 rw [HT.out]
 simpa only [ByteArray.append_assoc] using HW2.out
theorem pexpr_not (hE : PEC w0 B d) {v : Value} {x : ET} (h : PW w0 B W s) (hv : RowV w0 noX v (ET.ds [x])) (hx : mayE d x = true) (hlen : s.size + (exprT (d + 1) least (.node 5 m n sl lo o [x])).size ≤ most) :
  Calls Tryz.prog 53 #[.pointer (some ⟨B, 0, none⟩), .agg #[.int .i64 5, .int .i64 m, .string n, .int .i64 sl, .bool lo, .int .i64 o, v], .int .i64 (least : Nat)] W (Wrote w0 B W (s ++ exprT (d + 1) least (.node 5 m n sl lo o [x]))) := by
 obtain ⟨A, N, C, rfl, hN, hNC, hCm⟩ := hv.form
 have hN2 : N = 1 := by simpa using hN
 subst hN2
 clear hN
 have hlt := h.lt
 obtain ⟨g, o1, c1, ka, ma, sa, sla, loa, qa, Aa, Na, Ca, hv1, hev1, hc1⟩ := ET.arg hv (i := 0) (show 0 < 1 from by decide)
 injection hv1 with hA hN hC
 subst hA hC
 clear hN
 have c10 := hc1 0 (by decide); have c11 := hc1 1 (by decide); have c12 := hc1 2 (by decide); have c13 := hc1 3 (by decide); have c14 := hc1 4 (by decide); have c15 := hc1 5 (by decide); have c16 := hc1 6 (by decide)
 simp only [aZ, aS, Nat.zero_mul, Nat.zero_add, Nat.add_zero] at c10 c11 c12 c13 c14 c15 c16
 clear hc1
 obtain ⟨W0, hW0⟩ : ∃ W0, W0 = W.alloc (.cells #[.int .i64 5, .int .i64 m, .string n, .int .i64 sl, .bool lo, .int .i64 o, .slice (some ⟨g, o1, none⟩) 1 C] 44) := ⟨_, rfl⟩
 have hk0 : Kept noX W W0 := by rw [hW0]; exact (Kept.refl _ _).alloc _
 have HE0 := aP (show Cells W0 W.heap.size 44 [.int .i64 5, .int .i64 m, .string n, .int .i64 sl, .bool lo, .int .i64 o, .slice (some ⟨g, o1, none⟩) 1 C] from by rw [hW0]; exact Cells.fresh W 44 [.int .i64 5, .int .i64 m, .string n, .int .i64 sl, .bool lo, .int .i64 o, .slice (some ⟨g, o1, none⟩) 1 C])
 have z0 : W0.heap.size = W.heap.size + 1 := by rw [hW0]; simp
 have hw0 := h.keep hk0
 have hT : exprT (d + 1) least (.node 5 m n sl lo o [x]) = ⟨#[33]⟩ ++ exprT d 5 x := by rw [exprT] <;> rfl
 rw [hT] at hlen
 have HT := aP hT
 clear hT
 have hcp : catL [(⟨#[33]⟩ : ByteArray)] = ⟨#[33]⟩ := by simp [catL, ba_an]
 have HL := aP (hw0.lit [⟨#[33]⟩] (by rw [hcp]; simp only [ByteArray.size_append] at hlen; omega))
 rw [hcp] at HL
 clear hcp
 have HB0 := aP hw0.at_
 have HH := aP h
 have HK0 := aP hk0
 clear h hw0 hk0
 go_enter Tryz.func53, Tryz.ntmps53
 go_wp2_with fail
 rw [← hW0, ← z0]
 have l0 : W.heap.size < W0.heap.size := by omega
 clear hW0 z0
 refine (HL.out).mono ?_
 rintro e W1 ⟨rfl, hw1, hp1⟩
 have HE1 := aP (hp1.cells HB0.out HE0.out kom (by decide))
 have e6 := HE1.out.cell 6
 simp only [aZ, aS] at e6
 have r0 := hw1.cell c10; have r1 := hw1.cell c11; have r2 := hw1.cell c12; have r3 := hw1.cell c13; have r4 := hw1.cell c14; have r5 := hw1.cell c15; have r6 := hw1.cell c16
 have HX := aP (hE W1 _ 5 x _ hw1 hev1 hx (by decide) (by simp only [ByteArray.size_append] at hlen ⊢; omega))
 have HP1 := aP hp1
 clear hp1 hw1
 go_wp2_with fail
 refine (HX.out).mono ?_
 rintro e W2 ⟨rfl, hw2, hp2⟩
 have HW2 := aP hw2
 clear hw2
 go_wp2
 go_end0
 refine ⟨rfl, ?_, Put.pre HH.out.at_ HK0.out (HP1.out.trans hp2 HB0.out)⟩
 rw [HT.out]
 simpa only [ByteArray.append_assoc] using HW2.out
end
section
variable {w0 : World} {B d : Nat} {W : World} {s : ByteArray} {least : Nat} {m : Int} {n : ByteArray} {sl : Int} {lo : Bool} {o : Int}
theorem pexpr_cell (hE : PEC w0 B d) {v : Value} {x : ET} (h : PW w0 B W s) (hv : RowV w0 noX v (ET.ds [x])) (hx : mayE d x = true) (hlen : s.size + (exprT (d + 1) least (.node 3 m n sl lo o [x])).size ≤ most) :
  Calls Tryz.prog 53 #[.pointer (some ⟨B, 0, none⟩), .agg #[.int .i64 3, .int .i64 m, .string n, .int .i64 sl, .bool lo, .int .i64 o, v], .int .i64 (least : Nat)] W (Wrote w0 B W (s ++ exprT (d + 1) least (.node 3 m n sl lo o [x]))) := by
 obtain ⟨A, N, C, rfl, hN, hNC, hCm⟩ := hv.form
 have hN2 : N = 1 := by simpa using hN
 subst hN2
 clear hN
 have hlt := h.lt
 obtain ⟨g, o1, c1, ka, ma, sa, sla, loa, qa, Aa, Na, Ca, hv1, hev1, hc1⟩ := ET.arg hv (i := 0) (show 0 < 1 from by decide)
 injection hv1 with hA hN hC
 subst hA hC
 clear hN
 have c10 := hc1 0 (by decide); have c11 := hc1 1 (by decide); have c12 := hc1 2 (by decide); have c13 := hc1 3 (by decide); have c14 := hc1 4 (by decide); have c15 := hc1 5 (by decide); have c16 := hc1 6 (by decide)
 simp only [aZ, aS, Nat.zero_mul, Nat.zero_add, Nat.add_zero] at c10 c11 c12 c13 c14 c15 c16
 clear hc1
 obtain ⟨W0, hW0⟩ : ∃ W0, W0 = W.alloc (.cells #[.int .i64 3, .int .i64 m, .string n, .int .i64 sl, .bool lo, .int .i64 o, .slice (some ⟨g, o1, none⟩) 1 C] 44) := ⟨_, rfl⟩
 have hk0 : Kept noX W W0 := by rw [hW0]; exact (Kept.refl _ _).alloc _
 have HE0 := aP (show Cells W0 W.heap.size 44 [.int .i64 3, .int .i64 m, .string n, .int .i64 sl, .bool lo, .int .i64 o, .slice (some ⟨g, o1, none⟩) 1 C] from by rw [hW0]; exact Cells.fresh W 44 [.int .i64 3, .int .i64 m, .string n, .int .i64 sl, .bool lo, .int .i64 o, .slice (some ⟨g, o1, none⟩) 1 C])
 have z0 : W0.heap.size = W.heap.size + 1 := by rw [hW0]; simp
 have hw0 := h.keep hk0
 have hT : exprT (d + 1) least (.node 3 m n sl lo o [x]) = cellT d n x := by rw [exprT] <;> rfl
 rw [hT] at hlen
 have HT := aP hT
 clear hT
 have e2 := HE0.out.cell 2
 have e6 := HE0.out.cell 6
 simp only [aZ, aS] at e2 e6
 have r0 := hw0.cell c10; have r1 := hw0.cell c11; have r2 := hw0.cell c12; have r3 := hw0.cell c13; have r4 := hw0.cell c14; have r5 := hw0.cell c15; have r6 := hw0.cell c16
 have hkd : Kept noX W0 W0.drew := (Kept.refl _ _).drew
 have HC := aP (cell_step hE W0.drew s n x _ (hw0.keep hkd) hev1 hx hlen)
 have HB0 := aP (hw0.keep hkd).at_
 have HBp := aP hw0.at_
 have HE0d := aP (HE0.out.keep hkd)
 have HH := aP h
 have HK0 := aP (hk0.trans hkd)
 clear h hw0 hk0
 refine calls_of_wp Tryz.func53 rfl ?_
 simp only [Tryz.ntmps53, List.size_toArray, List.length_cons, List.length_nil, Nat.reduceAdd, Nat.reduceSub, Array.replicate_succ, Array.replicate_zero, List.push_toArray, List.append_toArray, List.nil_append, List.cons_append]
 go_wp2_with fail
 rw [← hW0]
 have l0 : W.heap.size < W0.heap.size := by omega
 clear hW0 z0
 refine wp_region_held_drew (S := (fun w' => w'.cell? ⟨W.heap.size, 2, none⟩ = some (.string n) ∧ w'.cell? ⟨W.heap.size, 6, none⟩ = some (.slice (some ⟨g, o1, none⟩) 1 C) ∧ w'.cell? ⟨g, o1, none⟩ = some (.int .i64 ka) ∧ w'.cell? ⟨g, o1 + 1, none⟩ = some (.int .i64 ma) ∧ w'.cell? ⟨g, o1 + 2, none⟩ = some (.string sa) ∧ w'.cell? ⟨g, o1 + 3, none⟩ = some (.int .i64 sla) ∧ w'.cell? ⟨g, o1 + 4, none⟩ = some (.bool loa) ∧ w'.cell? ⟨g, o1 + 5, none⟩ = some (.int .i64 qa) ∧ w'.cell? ⟨g, o1 + 6, none⟩ = some (.slice Aa Na Ca))) krf ⟨e2, e6, r0, r1, r2, r3, r4, r5, r6⟩ (fun hHeld => ?_)
 refine wpAnyH_take (i := 0) (v := ?_) rfl krf krf krf (fun _ _ _ h => h) (Or.inl ⟨by rfl, ?_⟩) (by assumption) ?_
 rotate_left
 ·intro wS hSw
  (try dsimp only at hSw)
  go_simp
  (try with_reducible rfl)
 refine wpAnyH_take (i := 1) (v := ?_) rfl krf krf krf (fun _ _ _ h => h) (Or.inl ⟨by rfl, ?_⟩) (by assumption) ?_
 rotate_left
 ·intro wS hSw
  (try dsimp only at hSw)
  go_simp
  (try with_reducible rfl)
 refine wpAnyH_take (i := 2) (v := ?_) rfl krf krf krf (fun _ _ _ h => h) (Or.inl ⟨by rfl, ?_⟩) (by assumption) ?_
 rotate_left
 ·intro wS hSw
  (try dsimp only at hSw)
  go_simp
  (try with_reducible rfl)
 refine wpAnyH_take (i := 3) (v := ?_) rfl krf krf krf (fun _ _ _ h => h) (Or.inl ⟨by rfl, ?_⟩) (by assumption) ?_
 rotate_left
 ·intro wS hSw
  (try dsimp only at hSw)
  go_simp
  (try with_reducible rfl)
 refine wpAnyH_take (i := 4) (v := ?_) rfl krf krf krf (fun _ _ _ h => h) (Or.inl ⟨by rfl, ?_⟩) (by assumption) ?_
 rotate_left
 ·intro wS hSw
  (try dsimp only at hSw)
  go_simp
  (try with_reducible rfl)
 refine wpAnyH_take (i := 5) (v := ?_) rfl krf krf krf (fun _ _ _ h => h) (Or.inl ⟨by rfl, ?_⟩) (by assumption) ?_
 rotate_left
 ·intro wS hSw
  (try dsimp only at hSw)
  go_simp
  (try with_reducible rfl)
 refine wpAnyH_take (i := 6) (v := ?_) rfl krf krf krf (fun _ _ _ h => h) (Or.inl ⟨by rfl, ?_⟩) (by assumption) ?_
 rotate_left
 ·intro wS hSw
  (try dsimp only at hSw)
  go_simp
  (try with_reducible rfl)
 refine wpAnyH_ready (rs := [7]) krf (by simp) ?_
 refine (AllReadyH.cons rfl (fun K hK => ?_) AllReadyH.nil)
 go_simp
 refine (HC.out).mono ?_
 rintro e W2 ⟨rfl, hw2, hp2⟩
 dsimp only
 have HE2 := aP (hp2.cells HB0.out HE0d.out kom (by decide))
 clear r0 r1 r2 r3 r4 r5 r6 e2 e6
 have e2 := HE2.out.cell 2
 have e6 := HE2.out.cell 6
 simp only [aZ, aS] at e2 e6
 have r0 := hw2.cell c10; have r1 := hw2.cell c11; have r2 := hw2.cell c12; have r3 := hw2.cell c13; have r4 := hw2.cell c14; have r5 := hw2.cell c15; have r6 := hw2.cell c16
 refine hK.out _ _ (⟨e2, e6, r0, r1, r2, r3, r4, r5, r6⟩ : _ ∧ _ ∧ _ ∧ _ ∧ _ ∧ _ ∧ _ ∧ _ ∧ _) (fun hHeld => ?_)
 clear hK K
 refine wpAnyH_done krf ?_ _
 clear r0 r1 r2 r3 r4 r5 r6 e2 e6
 have HW2 := aP hw2
 clear hw2 hHeld
 go_wp2
 go_end0
 exact ⟨rfl, by rw [HT.out]; exact HW2.out, Put.pre HH.out.at_ HK0.out hp2⟩
theorem pexpr_bin (hE : PEC w0 B d) {v : Value} {x y : ET} (h : PW w0 B W s) (hv : RowV w0 noX v (ET.ds [x, y])) (ho1 : 0 < o) (ho2 : o ≤ 11) (hx : mayE d x = true) (hy : mayE d y = true) (hlen : s.size + (exprT (d + 1) least (.node 6 m n sl lo o [x, y])).size ≤ most) :
  Calls Tryz.prog 53 #[.pointer (some ⟨B, 0, none⟩), .agg #[.int .i64 6, .int .i64 m, .string n, .int .i64 sl, .bool lo, .int .i64 o, v], .int .i64 (least : Nat)] W (Wrote w0 B W (s ++ exprT (d + 1) least (.node 6 m n sl lo o [x, y]))) := by
 have hv' := hv
 obtain ⟨A, N, C, rfl, hN, hNC, hCm⟩ := hv.form
 have hN2 : N = 2 := by simpa using hN
 subst hN2
 clear hN
 obtain ⟨W0, hW0⟩ : ∃ W0, W0 = W.alloc (.cells #[.int .i64 6, .int .i64 m, .string n, .int .i64 sl, .bool lo, .int .i64 o, .slice A 2 C] 44) := ⟨_, rfl⟩
 have hk0 : Kept noX W W0 := by rw [hW0]; exact (Kept.refl _ _).alloc _
 have HE0 := aP (show Cells W0 W.heap.size 44 [.int .i64 6, .int .i64 m, .string n, .int .i64 sl, .bool lo, .int .i64 o, .slice A 2 C] from by rw [hW0]; exact Cells.fresh W 44 [.int .i64 6, .int .i64 m, .string n, .int .i64 sl, .bool lo, .int .i64 o, .slice A 2 C])
 have z0 : W0.heap.size = W.heap.size + 1 := by rw [hW0]; simp
 have hw0 := h.keep hk0
 have HBT := aP (between_step hE W0 s least 6 m n sl lo o x y (.slice A 2 C) hw0 hv' ho1 ho2 hx hy hlen)
 have e0 := HE0.out.cell 0; have e1 := HE0.out.cell 1; have e2 := HE0.out.cell 2; have e3 := HE0.out.cell 3; have e4 := HE0.out.cell 4; have e5 := HE0.out.cell 5; have e6 := HE0.out.cell 6
 simp only [aZ, aS] at e0 e1 e2 e3 e4 e5 e6
 have HH := aP h
 have HK0 := aP hk0
 clear h hw0 hk0
 go_enter Tryz.func53, Tryz.ntmps53
 go_wp2_with fail
 rw [← hW0]
 have l0 : W.heap.size < W0.heap.size := by omega
 clear hW0 z0
 refine (HBT.out).mono ?_
 rintro e W2 ⟨rfl, hw2, hp2⟩
 have HW2 := aP hw2
 clear hw2 e0 e1 e2 e3 e4 e5 e6
 go_wp2
 go_end0
 exact ⟨rfl, HW2.out, Put.pre HH.out.at_ HK0.out hp2⟩
end
theorem pexpr_step {w0 : World} {B d : Nat} (hE : PEC w0 B d) : PEC w0 B (d + 1) := by
 intro W s least e cs h he hm _ hlen
 obtain ⟨k, m, n, sl, lo, o, l⟩ := e
 obtain ⟨v, rfl, hv⟩ := EV.iff.1 he
 obtain ⟨h1, h2, _, h4, h5, h6, h7⟩ := mayE_parts hm
 have hk : k = 1 ∨ k = 2 ∨ k = 3 ∨ k = 4 ∨ k = 5 ∨ k = 6 := by omega
 rcases hk with rfl | rfl | rfl | rfl | rfl | rfl
 ·obtain ⟨A, N, C, rfl, _⟩ := hv.form
  have hb : -9223372036854775808 ≤ m ∧ m ≤ 9223372036854775807 := by
   simp [numB] at h4
   omega
  exact pexpr_num h hb.1 hb.2 l hlen
 ·obtain ⟨A, N, C, rfl, _⟩ := hv.form
  exact pexpr_name h l hlen
 ·obtain ⟨x, rfl⟩ := one_arg h6
  exact pexpr_cell hE h hv (h7 x (by simp)) hlen
 ·obtain ⟨x, rfl⟩ := one_arg h6
  exact pexpr_neg hE h hv (h7 x (by simp)) hlen
 ·obtain ⟨x, rfl⟩ := one_arg h6
  exact pexpr_not hE h hv (h7 x (by simp)) hlen
 ·obtain ⟨x, y, rfl⟩ := two_args h6
  have hb : 0 < o ∧ o ≤ 11 := by simpa [opB] using h5
  exact pexpr_bin hE h hv hb.1 hb.2 (h7 x (by simp)) (h7 y (by simp)) hlen
theorem pexpr_all (w0 : World) (B : Nat) : ∀ d, PEC w0 B d
 | 0 => fun _ _ _ _ _ _ _ hm => by simp [mayE] at hm
 | d + 1 => pexpr_step (pexpr_all w0 B d)
end Go.Proofs.YtjkgepppoopheaaGreatDoor
