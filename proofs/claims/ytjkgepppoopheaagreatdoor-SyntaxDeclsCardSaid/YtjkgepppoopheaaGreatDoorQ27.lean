/- The project's printer of statements, whole (conditions: the text is of at most 2^46 bytes; the tables stand; the statements are such that may be). -/
import Derived.Test.YtjkgepppoopheaaGreatDoorAbb
import Derived.Test.YtjkgepppoopheaaGreatDoorQ26
set_option maxRecDepth 100000
set_option maxHeartbeats 1000000
namespace Go.Proofs.YtjkgepppoopheaaGreatDoor
open Go.RowKit Go.Shelf
def mayStP (st : ST) : Bool :=
 decide (0 < st.kind) && decide (st.kind ≤ 15) &&
 nmB st.name (decide (st.kind ≠ 4 ∧ st.kind ≠ 5 ∧ st.kind < 14)) && nmB st.oth (decide (st.kind = 8 ∨ st.kind = 12)) &&
 (if st.kind ≤ 5 ∨ st.kind = 11 ∨ st.kind = 15 then mayE 24 st.expr else noneE st.expr) && (if st.kind = 3 then mayE 24 st.index else noneE st.index) &&
 (decide (st.kind = 4 ∨ st.kind = 5) || decide (st.body.length = 0)) && (decide (st.kind = 4) || decide (st.els.length = 0))
where noneE : ET → Bool
 | .node k m s _ _ o l => decide (k = 0) && decide (m = 0) && decide (s = ⟨#[]⟩) && decide (o = 0) && decide (l.length = 0)
def okS : Nat → ST → Bool
 | 0, _ => false
 | f + 1, st => mayStP st && st.body.all (okS f) && st.els.all (okS f)
def PSC (w0 : World) (B f : Nat) : Prop := ∀ (W : World) (s : ByteArray) (tabs : Nat) (st : ST) (cs : List Value), PW w0 B W s → SV w0 noX cs st → okS f st = true → tabs + f ≤ 1000 → s.size + (stmtT f tabs st).size ≤ most →
 Calls Tryz.prog 141 #[.pointer (some ⟨B, 0, none⟩), .agg cs.toArray, .int .i64 (tabs : Nat)] W (Wrote w0 B W (s ++ stmtT f tabs st))
def PBC (w0 : World) (B f : Nat) : Prop := ∀ (W : World) (s : ByteArray) (tabs : Nat) (l : List ST) (v : Value), PW w0 B W s → RowV w0 noX v (ST.ds l) → l.all (okS f) = true → tabs + f < 1000 → s.size + (blockOf (stmtT f) tabs l).size ≤ most →
 Calls Tryz.prog 91 #[.pointer (some ⟨B, 0, none⟩), v, .int .i64 (tabs : Nat)] W (Wrote w0 B W (s ++ blockOf (stmtT f) tabs l))
theorem PW.tabs {w0 W : World} {B : Nat} {s : ByteArray} (h : PW w0 B W s) (n : Nat) (hn : n ≤ 1000) (hlen : s.size + n ≤ most) :
  Calls Tryz.prog 140 #[.pointer (some ⟨B, 0, none⟩), .int .i64 (n : Nat)] W (Wrote w0 B W (s ++ tabsB n)) := by
 refine (tabs_calls n kom h.at_ hlen).mono ?_
 rintro e W' ⟨rfl, h1, h2⟩
 exact ⟨rfl, h.put h2 h1, h2⟩
theorem pblock_step {w0 : World} {B f : Nat} (hS : PSC w0 B f) : PBC w0 B f := by
 intro W s tabs l v h hv hok htabs hlen
 obtain ⟨A, N, C, rfl, hN, hNC, hCm⟩ := hv.form
 rw [ST.ds_length] at hN
 subst hN
 have hlm := Nat.le_trans hNC hCm
 unfold maxLen at hlm
 obtain ⟨ps, hps⟩ : ∃ ps, ps = l.map fun x => (tabsB (tabs + 1) ++ stmtT f (tabs + 1) x) ++ catL [⟨#[10]⟩] := ⟨_, rfl⟩
 have hpl : ps.length = l.length := by rw [hps, List.length_map]
 have hpi : ∀ k (hk : k < l.length), catL (ps.take (k + 1)) = catL (ps.take k) ++ ((tabsB (tabs + 1) ++ stmtT f (tabs + 1) l[k]) ++ catL [⟨#[10]⟩]) := fun k hk => by
  rw [hps, catL_take (by simpa using hk)]
  simp
 have hT : blockOf (stmtT f) tabs l = (catL [⟨#[123, 10]⟩] ++ catL ps) ++ (tabsB tabs ++ catL [⟨#[125]⟩]) := by rw [blockOf, hps]
 rw [hT] at hlen
 have HT := aP hT
 have HPL := aP hpl
 have HPI := aP hpi
 clear hT hps hpl hpi
 have HV := aP hv
 have HOK := aP (List.all_eq_true.1 hok)
 have HL0 := aP (h.lit [⟨#[123, 10]⟩] (by simp only [ByteArray.size_append] at hlen; omega))
 have HH := aP h
 have hBl := h.lt
 have hbase := h.base
 clear hv hok h
 go_enter Tryz.func91, Tryz.ntmps91
 go_wp2_with fail
 refine (HL0.out).mono ?_
 rintro e W1 ⟨rfl, hw1, hp1⟩
 have HW1 := aP hw1
 have HP1 := aP hp1
 clear hw1 hp1
 go_wp2_with fail
 go_loopw [13] (fun i wr => ∃ k : Nat, k ≤ l.length ∧ i = .int .i64 k ∧ PW w0 B wr ((s ++ catL [⟨#[123, 10]⟩]) ++ catL (ps.take k)) ∧ Put B W wr) (fun i _ => l.length - (intOf i).toNat)
 case atStart => exact ⟨0, Nat.zero_le _, rfl, by rw [List.take_zero, catL, ba_an]; exact HW1.out, HP1.out⟩
 case round =>
  obtain ⟨k, hk, rfl, hwr, hpr⟩ := hrel
  by_cases hlt : k < l.length
  ·have hdl : decide ((k : Int) < (l.length : Int)) = true := by simpa using hlt
   obtain ⟨g, o, c2, size, cs, hveq, hcl, hrep, hcell⟩ := HV.out.at_ (i := k) (by simpa using hlt)
   rw [ST.ds_get] at hrep
   have hsv : SV w0 noX cs l[k] := hrep
   have hlen25 := hsv.len
   rw [hlen25] at hcl
   subst hcl
   injection hveq with hA hlen2 hc2
   subst hA hc2
   clear hlen2
   have hcr : ∀ j u, cs[j]? = some u → wr.cell? ⟨g, (o + k * 25) + j, none⟩ = some u := fun j u hu => by
    have hj : j < 25 := by rw [← hlen25]; exact (List.getElem?_eq_some_iff.1 hu).1
    rw [Nat.add_assoc]
    exact hwr.cell ((hcell j hj).trans hu)
   have hck := HPI.out k hlt
   have hcle := catL_take_le ps (k + 1)
   rw [hck] at hcle
   have HCK := aP hck
   have HCR := aP hcr
   have HL := aP hlen25
   have HSV := aP hsv
   have HO := aP (Rep.one hsv)
   have HWr := aP hwr
   have HPr := aP hpr
   have hok1 := HOK.out _ (List.getElem_mem hlt)
   have hwrl := hwr.lt
   clear hcell hcr hlen25 hrep hsv hwr hpr hck
   go_wp2_with (first
     | ((with_reducible refine atl ?_); refine wpList_load_part rfl 63 (.tmp 15) rfl g (o + k * 25) rfl _ Tryz.underlying63 rfl cs (by rw [HL.out]; kernel_rfl) HCR.out ?_)
     | ((with_reducible refine ats ?_); refine wpList_store_part rfl rfl 63 (.tmp 7) (.tmp 16) rfl (wr.heap.size) 0 rfl cs rfl (Cells.fresh wr 63 zeroSt) (by rw [HL.out]; exact Nat.le_of_ble_eq_true rfl) (by rw [HL.out]; kernel_rfl) HO.out ?_; intro W5 hB5 hk5a
        have hB5 : Cells W5 wr.heap.size 63 cs := by
          rw [HL.out, show zeroSt.take 0 ++ cs ++ zeroSt.drop (0 + 25) = cs from by simp [zeroSt]] at hB5
          exact hB5
        have hk5 : Kept noX wr W5 := ((Kept.refl noX wr).alloc _).own hk5a (Nat.le_refl _)
        have HB5 := aP hB5
        clear hB5 hk5a))
   have HW5 := aP (HWr.out.keep hk5)
   have HC6 := aP (HW5.out.tabs (tabs + 1) kom (by simp only [ByteArray.size_append, tabsB_size] at hlen hcle ⊢; omega))
   refine Calls.mono (show Calls _ _ #[_, .int .i64 ((tabs : Int) + 1)] _ _ from HC6.out) ?_
   rintro e W6 ⟨rfl, hw6, hp6⟩
   have HB6 := aP (hp6.cells HW5.out.at_ HB5.out kom (by decide))
   have HW6 := aP hw6
   have HP6 := aP hp6
   clear hw6 hp6
   go_wp2_with (first | ((with_reducible refine atl ?_); refine wpList_load_cells rfl 63 (.tmp 7) rfl (wr.heap.size) rfl _ Tryz.underlying63 rfl HB6.out (by rw [HL.out]; kernel_rfl) ?_))
   have HC7 := aP (hS W6 _ (tabs + 1) l[k] cs HW6.out HSV.out hok1 kom (by simp only [ByteArray.size_append] at hlen hcle ⊢; omega))
   refine Calls.mono (show Calls _ _ #[_, _, .int .i64 ((tabs : Int) + 1)] _ _ from HC7.out) ?_
   rintro e W7 ⟨rfl, hw7, hp7⟩
   have HC8 := aP (hw7.lit [⟨#[10]⟩] (by simp only [ByteArray.size_append] at hlen hcle ⊢; omega))
   have HW7 := aP hw7
   have HP7 := aP hp7
   clear hw7 hp7
   go_wp2_with fail
   refine (HC8.out).mono ?_
   rintro e W8 ⟨rfl, hw8, hp8⟩
   have HW8 := aP hw8
   have HP8 := aP (((Put.pre HWr.out.at_ hk5 HP6.out).trans HP7.out HWr.out.at_).trans hp8 HWr.out.at_)
   clear hw8 hp8
   go_wp2
   go_roundw
   case rel =>
    refine ⟨k + 1, by omega, by go_num, ?_, HPr.out.trans HP8.out HH.out.at_⟩
    rw [HCK.out]
    have := HW8.out
    simpa only [ByteArray.append_assoc] using this
   case measure => simp [intOf]; omega
  ·have hdl : decide ((k : Int) < (l.length : Int)) = false := by simpa using hlt
   have hk2 : k = l.length := by omega
   rw [hk2, ← HPL.out, List.take_length] at hwr
   have HC2 := aP (hwr.tabs tabs kom (by simp only [ByteArray.size_append, tabsB_size] at hlen ⊢; omega))
   have HWr := aP hwr
   have HPr := aP hpr
   clear hwr hpr
   go_wp2_with fail
   refine (HC2.out).mono ?_
   rintro e W2 ⟨rfl, hw2, hp2⟩
   have HC3 := aP (hw2.lit [⟨#[125]⟩] (by simp only [ByteArray.size_append] at hlen ⊢; omega))
   have HW2 := aP hw2
   have HP2 := aP hp2
   clear hw2 hp2
   go_wp2_with fail
   refine (HC3.out).mono ?_
   rintro e W3 ⟨rfl, hw3, hp3⟩
   have HW3 := aP hw3
   have HP3 := aP hp3
   clear hw3 hp3
   go_wp2
   go_end0
   refine ⟨rfl, ?_, (HPr.out.trans HP2.out HH.out.at_).trans HP3.out HH.out.at_⟩
   rw [HT.out]
   have := HW3.out
   simpa only [ByteArray.append_assoc] using this
def Says (w : World) (b : Bool) (e : Ending) (w' : World) : Prop := e = .returned (.bool b) ∧ Kept noX w w'
theorem mayName_any (s : ByteArray) (b : Bool) (hs : s.size ≤ 9223372036854775807) (w : World) : Calls Tryz.prog 101 #[.string s, .bool b] w (Says w (nmB s b)) := by
 have HN := aP (name_any s hs w)
 cases b with
 | true =>
  go_enter Tryz.func101, Tryz.ntmps101
  go_wp2_with fail
  refine HN.out.mono ?_
  rintro e W1 ⟨rfl, hk1⟩
  go_wp2
  go_ret
  exact ⟨rfl, hk1⟩
 | false =>
  have hk0 : s.toList.isEmpty = nmB s false := by
   rw [ByteArray.toList_eq, nmB]
   simp only [Bool.false_eq_true, if_false]
   by_cases h : s = ⟨#[]⟩
   ·subst h; simp
   ·exact k_13
  have HK := aP hk0
  clear hk0
  go_enter Tryz.func101, Tryz.ntmps101
  go_wp2
  go_ret
  refine ⟨?_, Kept.refl _ _⟩
  rw [← HK.out]
  rfl
theorem int_beq0 (n : Int) : decide (n = 0) = (n == 0) := by by_cases h : n = 0 <;> simp [h]
theorem mayNum_any (n : Int) (b : Bool) (w : World) : Calls Tryz.prog 102 #[.int .i64 n, .bool b] w (Says w (numB n b)) := by
 have HV : Hid (numB n b = (n == 0 || (b && decide (0 < n) && decide (n ≤ 2147483647)))) := aP (by rw [numB, int_beq0])
 cases h0 : (n == 0) <;> cases hb : b <;> cases h1 : decide (0 < n) <;> cases h2 : decide (n ≤ 2147483647)
 all_goals
  subst hb
  have h3 := HV.out
  rw [h0, h1, h2] at h3
  rw [h3]
  clear h3 HV
  go_enter Tryz.func102, Tryz.ntmps102
  go_wp2
  go_ret
  exact ⟨rfl, Kept.refl _ _⟩
theorem mayOp_any (n : Int) (b : Bool) (w : World) : Calls Tryz.prog 103 #[.int .i64 n, .bool b] w (Says w (opB n b)) := by
 have HV : Hid (opB n b = (if b then decide (0 < n) && decide (n ≤ 11) else n == 0)) := aP (by rw [opB, int_beq0])
 cases h0 : (n == 0) <;> cases hb : b <;> cases h1 : decide (0 < n) <;> cases h2 : decide (n ≤ 11)
 all_goals
  subst hb
  have h3 := HV.out
  rw [h0, h1, h2] at h3
  rw [h3]
  clear h3 HV
  go_enter Tryz.func103, Tryz.ntmps103
  go_wp2
  go_ret
  exact ⟨rfl, Kept.refl _ _⟩
def shapeE (k : Nat) : List Value := [.bool (decide ((k : Int) = 1)), .bool (decide ((k : Int) = 2 ∨ (k : Int) = 3)), .bool (decide ((k : Int) = 6)), .int .i64 (argsN k : Nat)]
def ExprsAt (W : World) : Prop := ∀ k, k < 7 → ∀ j v, (shapeE k)[j]? = some v → W.cell? ⟨1, k * 4 + j, none⟩ = some v
theorem ExprsAt.keep {W W' : World} (h : ExprsAt W) (hk : Kept noX W W') : ExprsAt W' := fun k hk7 j v hj => by
 rw [← h k hk7 j v hj]
 exact World.cell?_of_block (hk.block _ (block_lt_of (h k hk7 j v hj)) (fun hX => hX.elim))
def smE : Nat → ET → Bool
 | 0, _ => true
 | d + 1, .node _ _ s _ _ _ l => decide (s.size ≤ 9223372036854775807) && l.all (smE d)
theorem all_take {α : Type} {f : α → Bool} {l : List α} {k : Nat} (hk : k < l.length) : (l.take (k + 1)).all f = ((l.take k).all f && f l[k]) := by
 rw [List.take_succ_eq_append_getElem hk, List.all_append]; simp
def zeroEsh : List Value := [.bool false, .bool false, .bool false, .int .i64 0]
theorem mayExpr_any : ∀ (d : Nat), d ≤ 1000 → ∀ (e : ET) (cs : List Value) (w : World), EV w noX cs e → ExprsAt w → smE d e = true → Calls Tryz.prog 52 #[.agg cs.toArray, .int .i64 (d : Nat)] w (Says w (mayE d e)) := by
 intro d
 induction d with
 | zero =>
  intro _ e cs w h hT hsm
  obtain ⟨k, m, s, sl, lo, o, A, N, C, rfl⟩ := h.form
  clear h hT hsm
  go_enter Tryz.func52, Tryz.ntmps52
  go_wp2
  go_ret
  exact ⟨by rw [mayE] <;> rfl, (Kept.refl _ _).alloc _⟩
 | succ d ih =>
  intro hd e cs w h hT hsm
  obtain ⟨q, m, s, sl, lo, o, l⟩ := e
  obtain ⟨v, rfl, hv⟩ := EV.iff.1 h
  obtain ⟨A, n, c, rfl, hn, hnc, hcm⟩ := hv.form
  rw [ET.ds_length] at hn
  subst hn
  unfold maxLen at hcm
  obtain ⟨D, hD⟩ : ∃ D : Int, D = ((d + 1 : Nat) : Int) := ⟨_, rfl⟩
  have hd0 : (D == 0) = false := by simp; omega
  have hd1 : wrap64 (D - 1) = (d : Nat) := by unfold wrap64; omega
  rw [← hD]
  have HD := aP hD
  clear hD
  have HV := aP hv
  have HIH := aP (ih kom)
  have HT := aP hT
  clear h hv ih hT
  rw [smE, Bool.and_eq_true, decide_eq_true_iff, List.all_eq_true] at hsm
  obtain ⟨hs, hsm⟩ := hsm
  have HSM := aP hsm
  clear hsm
  by_cases hq0 : q ≤ 0
  ·have hq0' : decide (q ≤ 0) = true := decide_eq_true hq0
   have HM : Hid (mayE (d + 1) (.node q m s sl lo o l) = false) := aP (by rw [mayE, decide_eq_false (show ¬ 0 < q by omega)] <;> rfl)
   clear hq0
   go_enter Tryz.func52, Tryz.ntmps52
   go_wp2
   go_ret
   exact ⟨by rw [HM.out] <;> rfl, (Kept.refl _ _).alloc _⟩
  by_cases hq6 : 6 < q
  ·have hq0' : decide (q ≤ 0) = false := decide_eq_false hq0
   have hq6' : decide (6 < q) = true := decide_eq_true hq6
   have HM : Hid (mayE (d + 1) (.node q m s sl lo o l) = false) := aP (by rw [mayE, decide_eq_false (show ¬ q ≤ 6 by omega)]; simp)
   clear hq0 hq6
   go_enter Tryz.func52, Tryz.ntmps52
   go_wp2
   go_ret
   exact ⟨by rw [HM.out] <;> rfl, (Kept.refl _ _).alloc _⟩
  obtain ⟨κ, rfl⟩ : ∃ κ : Nat, q = κ := ⟨q.toNat, by omega⟩
  have hk7 : κ < 7 := by omega
  have hkz : decide (κ = 0) = false := decide_eq_false kom
  have hq0' : decide ((κ : Int) ≤ 0) = false := decide_eq_false hq0
  have hq6' : decide (6 < (κ : Int)) = false := decide_eq_false hq6
  have HM : Hid (mayE (d + 1) (.node κ m s sl lo o l) = (nmB s (decide ((κ : Int) = 2 ∨ (κ : Int) = 3)) && numB m (decide ((κ : Int) = 1)) && opB o (decide ((κ : Int) = 6)) && decide (l.length = argsN κ) && l.all (mayE d))) :=
   aP (by rw [mayE, decide_eq_true (show (0 : Int) < κ by omega), decide_eq_true (show (κ : Int) ≤ 6 by omega)]; simp)
  clear hq0 hq6
  obtain ⟨b1, hb1⟩ : ∃ b, b = decide ((κ : Int) = 1) := ⟨_, rfl⟩
  obtain ⟨b2, hb2⟩ : ∃ b, b = decide ((κ : Int) = 2 ∨ (κ : Int) = 3) := ⟨_, rfl⟩
  obtain ⟨b3, hb3⟩ : ∃ b, b = decide ((κ : Int) = 6) := ⟨_, rfl⟩
  obtain ⟨nA, hnA⟩ : ∃ n, n = argsN κ := ⟨_, rfl⟩
  rw [← hb1, ← hb2, ← hb3, ← hnA] at HM
  have HTk := aP (fun W hk => HT.out.keep (W' := W) hk κ hk7)
  simp only [shapeE] at HTk
  rw [← hb1, ← hb2, ← hb3, ← hnA] at HTk
  clear hb1 hb2 hb3 hnA
  obtain ⟨E, hE⟩ : ∃ E, E = mayE (d + 1) (.node κ m s sl lo o l) := ⟨_, rfl⟩
  rw [← hE] at HM ⊢
  clear hE
  have HE0 := aP (Cells.fresh w 44 [.int .i64 κ, .int .i64 m, .string s, .int .i64 sl, .bool lo, .int .i64 o, .slice A l.length c])
  have HF0 := aP (show Cells ((w.alloc (.cells #[.int .i64 κ, .int .i64 m, .string s, .int .i64 sl, .bool lo, .int .i64 o, .slice A l.length c] 44)).alloc (.cells #[.bool false, .bool false, .bool false, .int .i64 0] 149)) (w.heap.size + 1) 149 zeroEsh from by
    have := Cells.fresh (w.alloc (.cells #[.int .i64 κ, .int .i64 m, .string s, .int .i64 sl, .bool lo, .int .i64 o, .slice A l.length c] 44)) 149 zeroEsh
    rwa [World.size_alloc] at this)
  go_enter Tryz.func52, Tryz.ntmps52
  go_wp2_with (first
    | ((with_reducible refine atl ?_); refine wpList_load_part rfl 149 (.tmp 22) rfl 1 (κ * 4) rfl _ Tryz.underlying149 rfl [.bool b1, .bool b2, .bool b3, .int .i64 nA] krf (HTk.out _ ((Kept.refl _ _).alloc _)) ?_)
    | ((with_reducible refine ats ?_); refine wpList_store_part rfl rfl 149 (.tmp 5) (.tmp 23) rfl (w.heap.size + 1) 0 rfl [.bool b1, .bool b2, .bool b3, .int .i64 nA] rfl HF0.out (by exact Nat.le_of_ble_eq_true rfl) krf k1c ?_; intro W5 hB5 hk5a
       have hB5 : Cells W5 (w.heap.size + 1) 149 [.bool b1, .bool b2, .bool b3, .int .i64 nA] := hB5
       have hk5 : Kept noX w W5 := (((Kept.refl noX w).alloc _).alloc _).own hk5a kom
       have HE5 := aP ((HE0.out.keep ((Kept.refl _ _).alloc _)).kept hk5a kom)
       have HB5 := aP hB5
       have p0 := HE5.out.cell 0; have p1 := HE5.out.cell 1; have p2 := HE5.out.cell 2; have p5 := HE5.out.cell 5; have p6 := HE5.out.cell 6
       have q0 := HB5.out.cell 0; have q1 := HB5.out.cell 1; have q2 := HB5.out.cell 2; have q3 := HB5.out.cell 3
       simp only [aZ, aS] at p0 p1 p2 p5 p6 q0 q1 q2 q3
       clear hB5 hk5a))
  refine (mayName_any s _ hs _).mono ?_
  rintro e W6 ⟨rfl, hk6⟩
  clear p0 p1 p2 p5 p6 q0 q1 q2 q3
  cases hc1 : nmB s b2 with
  | false => exact k_23
  | true =>
  have HM2 := aP (HM.out.trans (by rw [hc1]))
  clear hc1
  have p1 := (HE5.out.keep hk6).cell 1; have q0 := (HB5.out.keep hk6).cell 0
  simp only [aZ, aS] at p1 q0
  go_wp2_with fail
  refine (mayNum_any m _ _).mono ?_
  rintro e W7 ⟨rfl, hk7'⟩
  clear p1 q0
  have hk67 := hk6.trans hk7'
  cases hc1 : numB m b1 with
  | false => exact k_21
  | true =>
  have HM3 := aP (HM2.out.trans (by rw [hc1]))
  clear hc1
  have p5 := (HE5.out.keep hk67).cell 5; have q2 := (HB5.out.keep hk67).cell 2
  simp only [aZ, aS] at p5 q2
  go_wp2_with fail
  refine (mayOp_any o _ _).mono ?_
  rintro e W8 ⟨rfl, hk8'⟩
  clear p5 q2
  have hk68 := hk67.trans hk8'
  have p6 := (HE5.out.keep hk68).cell 6; have q3 := (HB5.out.keep hk68).cell 3
  simp only [aZ, aS] at p6 q3
  cases hc1 : opB o b3 with
  | false => exact k_20
  | true =>
  have HM4 := aP (HM3.out.trans (by rw [hc1]))
  clear hc1
  by_cases hln : l.length = nA
  case neg =>
   have HM5 : Hid (E = false) := aP (by rw [HM4.out, decide_eq_false hln] <;> rfl)
   have hl1 : ((l.length : Int) != (nA : Int)) = true := by simp; omega
   have hl2 : (l.length != nA) = true := by simpa using hln
   clear hln
   go_wp2
   go_ret
   exact ⟨by rw [HM5.out] <;> rfl, hk5.trans hk68⟩
  have HM5 : Hid (E = l.all (mayE d)) := aP (by rw [HM4.out, decide_eq_true hln] <;> rfl)
  have hl1 : ((l.length : Int) != (nA : Int)) = false := by simp; omega
  have hl2 : (l.length != nA) = false := by simpa using hln
  clear hln
  have hkw : Kept noX w W8 := hk5.trans hk68
  go_wp2
  clear p6 q3 hk5 hk6 hk7' hk8' hk67 hk68 HTk hl1 hl2
  go_loopw [57] (fun i wr => ∃ k : Nat, k ≤ l.length ∧ i = .int .i64 k ∧ (l.take k).all (mayE d) = true ∧ Kept noX W8 wr) (fun i _ => l.length - (intOf i).toNat)
  case atStart => exact ⟨0, Nat.zero_le _, rfl, rfl, Kept.refl _ _⟩
  case round =>
   obtain ⟨k, hk, rfl, hf, hkr⟩ := hrel
   by_cases hlt : k < l.length
   ·have hdl : decide ((k : Int) < (l.length : Int)) = true := by simpa using hlt
    have hvr := HV.out.keep (hkw.trans hkr)
    obtain ⟨g, o', c2, size, cs, hveq, hcl, hrep, hcell⟩ := hvr.at_ (i := k) (by simpa using hlt)
    rw [ET.ds_get] at hrep
    have hev : EV wr noX cs l[k] := hrep
    have hlen := hev.len
    rw [hlen] at hcl
    subst hcl
    injection hveq with hA hlen2 hc2
    subst hA hc2
    clear hlen2
    have hcr : ∀ j u, cs[j]? = some u → wr.cell? ⟨g, (o' + k * 7) + j, none⟩ = some u := fun j u hu => by
     have hj : j < 7 := by rw [← hlen]; exact (List.getElem?_eq_some_iff.1 hu).1
     rw [Nat.add_assoc, hcell j hj, hu]
    have HCR := aP hcr
    have HL := aP hlen
    have HEV := aP hev
    have HO := aP (Rep.one hev)
    have HF := aP (all_take (f := mayE d) hlt)
    have HF0' := aP hf
    clear hcell hcr hlen hrep hev hvr hf
    go_wp2_with (first
      | ((with_reducible refine atl ?_); refine wpList_load_part rfl 44 (.tmp 59) rfl g (o' + k * 7) rfl _ Tryz.underlying44 rfl cs (by rw [HL.out]; kernel_rfl) HCR.out ?_)
      | ((with_reducible refine ats ?_); refine wpList_store_part rfl rfl 44 (.tmp 7) (.tmp 60) rfl (wr.heap.size) 0 rfl cs rfl (Cells.fresh wr 44 zeroE) (by rw [HL.out]; exact Nat.le_of_ble_eq_true rfl) (by rw [HL.out]; kernel_rfl) HO.out ?_; intro W9 hB9 hk9a
         have hB9 : Cells W9 wr.heap.size 44 cs := by
           rw [HL.out, show zeroE.take 0 ++ cs ++ zeroE.drop (0 + 7) = cs from by simp [zeroE]] at hB9
           exact hB9
         have hk9 : Kept noX wr W9 := ((Kept.refl noX wr).alloc _).own hk9a (Nat.le_refl _)
         have HB9 := aP hB9
         clear hB9 hk9a)
      | ((with_reducible refine atl ?_); refine wpList_load_cells rfl 44 (.tmp 7) rfl (wr.heap.size) rfl _ Tryz.underlying44 rfl HB9.out (by rw [HL.out]; kernel_rfl) ?_))
    refine (HIH.out l[k] cs W9 (HEV.out.keep hk9) (HT.out.keep ((hkw.trans hkr).trans hk9)) (HSM.out _ (List.getElem_mem hlt))).mono ?_
    rintro e W10 ⟨rfl, hk10⟩
    cases hq : mayE d l[k] with
    | false =>
     have HQ := aP hq
     clear hq
     go_wp2
     go_ret
     refine ⟨?_, ((hkw.trans hkr).trans hk9).trans hk10⟩
     have : l.all (mayE d) = false := by
      rw [List.all_eq_false]
      exact ⟨l[k], List.getElem_mem hlt, by rw [HQ.out]; simp⟩
     rw [HM5.out, this] <;> rfl
    | true =>
     have HQ := aP hq
     clear hq
     go_wp2
     go_roundw
     case rel => exact ⟨k + 1, by omega, by go_num, by rw [HF.out, HF0'.out, HQ.out] <;> rfl, (hkr.trans hk9).trans hk10⟩
     case measure => simp [intOf]; omega
   ·have hdl : decide ((k : Int) < (l.length : Int)) = false := by simpa using hlt
    have hk2 : k = l.length := by omega
    have HF0' := aP hf
    clear hf
    go_wp2
    go_ret
    refine ⟨?_, hkw.trans hkr⟩
    have := HF0'.out
    rw [hk2, List.take_length] at this
    rw [HM5.out, this] <;> rfl
def partB (e : ET) (b : Bool) : Bool := if b then mayE 24 e else mayStP.noneE e
theorem empty_iff (s : ByteArray) : s.toList.isEmpty = decide (s = ⟨#[]⟩) := by
 rw [ByteArray.toList_eq]
 by_cases h : s = ⟨#[]⟩
 ·subst h; simp
 ·exact k_13
theorem mayPart_any (e : ET) (b : Bool) (cs : List Value) (w : World) (h : EV w noX cs e) (hT : ExprsAt w) (hsm : smE 24 e = true) : Calls Tryz.prog 175 #[.agg cs.toArray, .bool b] w (Says w (partB e b)) := by
 cases b with
 | true =>
  obtain ⟨q, m, s, sl, lo, o, A, N, C, rfl⟩ := h.form
  have hk0 : Kept noX w (w.alloc (.cells #[.int .i64 q, .int .i64 m, .string s, .int .i64 sl, .bool lo, .int .i64 o, .slice A N C] 44)) := (Kept.refl _ _).alloc _
  have HX := aP (mayExpr_any 24 (by decide) e _ _ (h.keep hk0) (hT.keep hk0) hsm)
  have HK0 := aP hk0
  clear h hT hsm hk0
  go_enter Tryz.func175, Tryz.ntmps175
  go_wp2_with fail
  refine Calls.mono (show Calls _ _ #[_, .int .i64 24] _ _ from HX.out) ?_
  rintro e W1 ⟨rfl, hk1⟩
  go_wp2
  go_ret
  exact ⟨rfl, HK0.out.trans hk1⟩
 | false =>
  obtain ⟨q, m, s, sl, lo, o, l⟩ := e
  obtain ⟨v, rfl, hv⟩ := EV.iff.1 h
  obtain ⟨A, n, c, rfl, hn, hnc, hcm⟩ := hv.form
  rw [ET.ds_length] at hn
  have HM : Hid (partB (.node q m s sl lo o l) false = (q == 0 && m == 0 && s.toList.isEmpty && o == 0 && decide (n = 0))) := aP (by
    rw [partB, hn, empty_iff]
    simp only [Bool.false_eq_true, if_false, mayStP.noneE, int_beq0])
  clear h hT hsm hv hn hnc hcm
  cases h0 : (q == 0) <;> cases h1 : (m == 0) <;> cases h2 : s.toList.isEmpty <;> cases h3 : (o == 0) <;> by_cases h4 : n = 0
  all_goals
   replace HM := aP (HM.out.trans (by rw [h0, h1, h2, h3]))
   first
    | (have h5 : ((n : Int) == 0) = true := by simp [h4]
       have h6 : (n == 0) = true := by simp [h4]
       replace HM := aP (HM.out.trans (by rw [decide_eq_true h4])))
    | (have h5 : ((n : Int) == 0) = false := by simp [h4]
       have h6 : (n == 0) = false := by simp [h4]
       have h7 : decide (n = 0) = false := by simp [h4]
       replace HM := aP (HM.out.trans (by rw [decide_eq_false h4])))
   try clear h4
   rw [HM.out]
   clear HM
   go_enter Tryz.func175, Tryz.ntmps175
   go_wp2
   go_ret
   exact ⟨rfl, (Kept.refl _ _).alloc _⟩
def shapeS (k : Nat) : List Value := [.bool (decide ((k : Int) ≠ 4 ∧ (k : Int) ≠ 5 ∧ (k : Int) < 14)), .bool (decide ((k : Int) = 8 ∨ (k : Int) = 12)), .bool (decide ((k : Int) ≤ 5 ∨ (k : Int) = 11 ∨ (k : Int) = 15)), .bool (decide ((k : Int) = 3)), .bool (decide ((k : Int) = 4 ∨ (k : Int) = 5)), .bool (decide ((k : Int) = 4))]
def StmtsAt (W : World) : Prop := ∀ k, 0 < k → k < 16 → ∀ j v, (shapeS k)[j]? = some v → W.cell? ⟨3, k * 6 + j, none⟩ = some v
theorem StmtsAt.keep {W W' : World} (h : StmtsAt W) (hk : Kept noX W W') : StmtsAt W' := fun k hk0 hk7 j v hj => by
 rw [← h k hk0 hk7 j v hj]
 exact World.cell?_of_block (hk.block _ (block_lt_of (h k hk0 hk7 j v hj)) (fun hX => hX.elim))
def smS (st : ST) : Bool := decide (st.name.size ≤ 9223372036854775807) && decide (st.oth.size ≤ 9223372036854775807) && smE 24 st.expr && smE 24 st.index
def zeroSsh : List Value := [.bool false, .bool false, .bool false, .bool false, .bool false, .bool false]
theorem EV.seven {W : World} {Z : Nat → Prop} {cs : List Value} {e : ET} (h : EV W Z cs e) : ∃ a1 a2 a3 a4 a5 a6 a7, cs = [a1, a2, a3, a4, a5, a6, a7] := by
 have l1 := h.len
 match cs, l1 with
 | [a1, a2, a3, a4, a5, a6, a7], _ => exact ⟨a1, a2, a3, a4, a5, a6, a7, rfl⟩
theorem mayStmt_any (st : ST) (cs : List Value) (w : World) (h : SV w noX cs st) (hT : ExprsAt w) (hTS : StmtsAt w) (hsm : smS st = true) : Calls Tryz.prog 147 #[.agg cs.toArray] w (Says w (mayStP st)) := by
 obtain ⟨q, li, co, n, t, e, x, body, els, i, sl, ot, lo⟩ := st
 obtain ⟨ce, cx, vb, vl, rfl, h1, h2, h3, h4⟩ := SV.iff.1 h
 obtain ⟨e0, e1, e2, e3, e4, e5, e6, rfl⟩ := h1.seven
 obtain ⟨x0, x1, x2, x3, x4, x5, x6, rfl⟩ := h2.seven
 obtain ⟨Ab, nb, cb, rfl, hnb, hnbc, hcbm⟩ := h3.form
 obtain ⟨Al, nl, cl, rfl, hnl, hnlc, hclm⟩ := h4.form
 rw [ST.ds_length] at hnb hnl
 simp only [smS, ST.name, ST.oth, ST.expr, ST.index, Bool.and_eq_true] at hsm
 obtain ⟨⟨⟨hs1, hs2⟩, hs3⟩, hs4⟩ := hsm
 replace hs1 := of_decide_eq_true hs1
 replace hs2 := of_decide_eq_true hs2
 have HM : Hid (mayStP (.node q li co n t e x body els i sl ot lo) = (decide (0 < q) && decide (q ≤ 15) && nmB n (decide (q ≠ 4 ∧ q ≠ 5 ∧ q < 14)) && nmB t (decide (q = 8 ∨ q = 12)) &&
     partB e (decide (q ≤ 5 ∨ q = 11 ∨ q = 15)) && partB x (decide (q = 3)) && (decide (q = 4 ∨ q = 5) || decide (nb = 0)) && (decide (q = 4) || decide (nl = 0)))) := aP (by
   simp only [mayStP, ST.kind, ST.name, ST.oth, ST.expr, ST.index, ST.body, ST.els, partB, hnb, hnl, decide_eq_true_eq]
   congr)
 obtain ⟨E, hE⟩ : ∃ E, E = mayStP (.node q li co n t e x body els i sl ot lo) := ⟨_, rfl⟩
 rw [← hE] at HM ⊢
 unfold maxLen at hcbm hclm
 clear hE h h3 h4 hnb hnl
 have HEV := aP h1
 have HXV := aP h2
 have HT := aP hT
 have HTS := aP hTS
 have HS3 := aP hs3
 have HS4 := aP hs4
 clear h1 h2 hT hTS hs3 hs4
 have HB := aP (Cells.fresh w 63 [.int .i64 q, .int .i64 li, .int .i64 co, .string n, .string t, e0, e1, e2, e3, e4, e5, e6, x0, x1, x2, x3, x4, x5, x6, .slice Ab nb cb, .slice Al nl cl, .int .i64 i, .int .i64 sl, .int .i64 ot, .bool lo])
 by_cases hq0 : q ≤ 0
 ·have hq0' : decide (q ≤ 0) = true := decide_eq_true hq0
  have HM : Hid (E = false) := aP (by rw [HM.out, decide_eq_false (show ¬ 0 < q by omega)] <;> rfl)
  clear hq0
  go_enter Tryz.func147, Tryz.ntmps147
  go_wp2
  go_ret
  exact ⟨by rw [HM.out] <;> rfl, (Kept.refl _ _).alloc _⟩
 by_cases hq6 : 15 < q
 ·have hq0' : decide (q ≤ 0) = false := decide_eq_false hq0
  have hq6' : decide (15 < q) = true := decide_eq_true hq6
  have HM : Hid (E = false) := aP (by rw [HM.out, decide_eq_false (show ¬ q ≤ 15 by omega)]; simp)
  clear hq0 hq6
  go_enter Tryz.func147, Tryz.ntmps147
  go_wp2
  go_ret
  exact ⟨by rw [HM.out] <;> rfl, (Kept.refl _ _).alloc _⟩
 obtain ⟨κ, rfl⟩ : ∃ κ : Nat, q = κ := ⟨q.toNat, by omega⟩
 have hkp : 0 < κ := by omega
 have hk7 : κ < 16 := by omega
 have hkz : decide (κ = 0) = false := decide_eq_false kom
 have hq0' : decide ((κ : Int) ≤ 0) = false := decide_eq_false hq0
 have hq6' : decide (15 < (κ : Int)) = false := decide_eq_false hq6
 have HTk := aP (fun W hk => HTS.out.keep (W' := W) hk κ hkp hk7)
 simp only [shapeS] at HTk
 rw [decide_eq_true (show (0 : Int) < κ by omega), decide_eq_true (show (κ : Int) ≤ 15 by omega), Bool.and_self, Bool.true_and] at HM
 clear hq0 hq6 hkp
 obtain ⟨b0, hb0⟩ : ∃ b, b = decide ((κ : Int) ≠ 4 ∧ (κ : Int) ≠ 5 ∧ (κ : Int) < 14) := ⟨_, rfl⟩
 obtain ⟨b1, hb1⟩ : ∃ b, b = decide ((κ : Int) = 8 ∨ (κ : Int) = 12) := ⟨_, rfl⟩
 obtain ⟨b2, hb2⟩ : ∃ b, b = decide ((κ : Int) ≤ 5 ∨ (κ : Int) = 11 ∨ (κ : Int) = 15) := ⟨_, rfl⟩
 obtain ⟨b3, hb3⟩ : ∃ b, b = decide ((κ : Int) = 3) := ⟨_, rfl⟩
 obtain ⟨b4, hb4⟩ : ∃ b, b = decide ((κ : Int) = 4 ∨ (κ : Int) = 5) := ⟨_, rfl⟩
 obtain ⟨b5, hb5⟩ : ∃ b, b = decide ((κ : Int) = 4) := ⟨_, rfl⟩
 rw [← hb0, ← hb1, ← hb2, ← hb3, ← hb4, ← hb5] at HTk HM
 clear hb0 hb1 hb2 hb3 hb4 hb5
 have HF0 := aP (show Cells ((w.alloc (.cells #[.int .i64 κ, .int .i64 li, .int .i64 co, .string n, .string t, e0, e1, e2, e3, e4, e5, e6, x0, x1, x2, x3, x4, x5, x6, .slice Ab nb cb, .slice Al nl cl, .int .i64 i, .int .i64 sl, .int .i64 ot, .bool lo] 63)).alloc (.cells #[.bool false, .bool false, .bool false, .bool false, .bool false, .bool false] 213)) (w.heap.size + 1) 213 zeroSsh from by
   have := Cells.fresh (w.alloc (.cells #[.int .i64 κ, .int .i64 li, .int .i64 co, .string n, .string t, e0, e1, e2, e3, e4, e5, e6, x0, x1, x2, x3, x4, x5, x6, .slice Ab nb cb, .slice Al nl cl, .int .i64 i, .int .i64 sl, .int .i64 ot, .bool lo] 63)) 213 zeroSsh
   rwa [World.size_alloc] at this)
 go_enter Tryz.func147, Tryz.ntmps147
 go_wp2_with (first
   | ((with_reducible refine atl ?_); refine wpList_load_part rfl 213 (.tmp 14) rfl 3 (κ * 6) rfl _ Tryz.underlying213 rfl [.bool b0, .bool b1, .bool b2, .bool b3, .bool b4, .bool b5] krf (HTk.out _ ((Kept.refl _ _).alloc _)) ?_)
   | ((with_reducible refine ats ?_); refine wpList_store_part rfl rfl 213 (.tmp 3) (.tmp 15) rfl (w.heap.size + 1) 0 rfl [.bool b0, .bool b1, .bool b2, .bool b3, .bool b4, .bool b5] rfl HF0.out (by exact Nat.le_of_ble_eq_true rfl) krf k1c ?_; intro W5 hB5 hk5a
      have hB5 : Cells W5 (w.heap.size + 1) 213 [.bool b0, .bool b1, .bool b2, .bool b3, .bool b4, .bool b5] := hB5
      have hk5 : Kept noX w W5 := (((Kept.refl noX w).alloc _).alloc _).own hk5a kom
      have HE5 := aP ((HB.out.keep ((Kept.refl _ _).alloc _)).kept hk5a kom)
      have HB5 := aP hB5
      have p3 := HE5.out.cell 3
      have q0 := HB5.out.cell 0
      simp only [aZ, aS] at p3 q0
      clear hB5 hk5a))
 refine (mayName_any n _ hs1 _).mono ?_
 rintro e W6 ⟨rfl, hk6⟩
 clear p3 q0
 cases hc1 : nmB n b0 with
 | false => exact k_23
 | true =>
 have HM2 := aP (HM.out.trans (by rw [hc1]))
 clear hc1
 have p4 := (HE5.out.keep hk6).cell 4; have q1 := (HB5.out.keep hk6).cell 1
 simp only [aZ, aS] at p4 q1
 go_wp2_with fail
 refine (mayName_any t _ hs2 _).mono ?_
 rintro e W7 ⟨rfl, hk7'⟩
 clear p4 q1
 have hk67 := hk6.trans hk7'
 cases hc1 : nmB t b1 with
 | false => exact k_21
 | true =>
 have HM3 := aP (HM2.out.trans (by rw [hc1]))
 clear hc1
 have p5 := (HE5.out.keep hk67).cell 5; have p6 := (HE5.out.keep hk67).cell 6; have p7 := (HE5.out.keep hk67).cell 7; have p8 := (HE5.out.keep hk67).cell 8; have p9 := (HE5.out.keep hk67).cell 9; have p10 := (HE5.out.keep hk67).cell 10; have p11 := (HE5.out.keep hk67).cell 11; have q2 := (HB5.out.keep hk67).cell 2
 simp only [aZ, aS] at p5 p6 p7 p8 p9 p10 p11 q2
 go_wp2_with fail
 refine (mayPart_any _ _ _ _ (HEV.out.keep (hk5.trans hk67)) (HT.out.keep (hk5.trans hk67)) HS3.out).mono ?_
 rintro e W8 ⟨rfl, hk8'⟩
 clear p5 p6 p7 p8 p9 p10 p11 q2
 have hk68 := hk67.trans hk8'
 cases hc1 : partB e b2 with
 | false => exact k_20
 | true =>
 have HM4 := aP (HM3.out.trans (by rw [hc1]))
 clear hc1
 have p12 := (HE5.out.keep hk68).cell 12; have p13 := (HE5.out.keep hk68).cell 13; have p14 := (HE5.out.keep hk68).cell 14; have p15 := (HE5.out.keep hk68).cell 15; have p16 := (HE5.out.keep hk68).cell 16; have p17 := (HE5.out.keep hk68).cell 17; have p18 := (HE5.out.keep hk68).cell 18; have q3 := (HB5.out.keep hk68).cell 3
 simp only [aZ, aS] at p12 p13 p14 p15 p16 p17 p18 q3
 go_wp2_with fail
 refine (mayPart_any _ _ _ _ (HXV.out.keep (hk5.trans hk68)) (HT.out.keep (hk5.trans hk68)) HS4.out).mono ?_
 rintro e W9 ⟨rfl, hk9'⟩
 clear p12 p13 p14 p15 p16 p17 p18 q3
 have hk69 := hk68.trans hk9'
 have p19 := (HE5.out.keep hk69).cell 19; have p20 := (HE5.out.keep hk69).cell 20; have q4 := (HB5.out.keep hk69).cell 4; have q5 := (HB5.out.keep hk69).cell 5
 simp only [aZ, aS] at p19 p20 q4 q5
 cases hc1 : partB x b3 with
 | false =>
  have HM5 : Hid (E = false) := aP (by rw [HM4.out, hc1] <;> rfl)
  clear hc1
  go_wp2
  go_ret
  exact ⟨by rw [HM5.out] <;> rfl, hk5.trans hk69⟩
 | true =>
 have HM5 := aP (HM4.out.trans (by rw [hc1]))
 clear hc1
 cases hb4 : b4 <;> cases hb5 : b5 <;> by_cases hx0 : nb = 0 <;> by_cases hx1 : nl = 0
 all_goals
  subst hb4 hb5
  have HM6 := HM5.out
  first
   | (rw [decide_eq_true hx0] at HM6
      have hy1 : ((nb : Int) == 0) = true := by simp [hx0]
      have hy2 : (nb == 0) = true := by simp [hx0]
      have hy3 : decide (nb = 0) = true := by simp [hx0])
   | (rw [decide_eq_false hx0] at HM6
      have hy1 : ((nb : Int) == 0) = false := by simp [hx0]
      have hy2 : (nb == 0) = false := by simp [hx0]
      have hy3 : decide (nb = 0) = false := by simp [hx0])
  first
   | (rw [decide_eq_true hx1] at HM6
      have hz1 : ((nl : Int) == 0) = true := by simp [hx1]
      have hz2 : (nl == 0) = true := by simp [hx1]
      have hz3 : decide (nl = 0) = true := by simp [hx1])
   | (rw [decide_eq_false hx1] at HM6
      have hz1 : ((nl : Int) == 0) = false := by simp [hx1]
      have hz2 : (nl == 0) = false := by simp [hx1]
      have hz3 : decide (nl = 0) = false := by simp [hx1])
  clear hx0 hx1
  have HM7 := aP HM6
  clear HM6
  go_wp2
  go_ret
  exact ⟨by rw [HM7.out] <;> rfl, hk5.trans hk69⟩
theorem SV.form25' {W : World} {Z : Nat → Prop} {cs : List Value} {st : ST} (h : SV W Z cs st) : ∃ k n o vb vl i sl ot lo e0 e1 e2 e3 e4 e5 e6 x0 x1 x2 x3 x4 x5 x6,
  cs = [.int .i64 k, .int .i64 st.line, .int .i64 st.col, .string n, .string o, e0, e1, e2, e3, e4, e5, e6, x0, x1, x2, x3, x4, x5, x6, vb, vl, .int .i64 i, .int .i64 sl, .int .i64 ot, .bool lo] ∧
  EV W Z [e0, e1, e2, e3, e4, e5, e6] st.expr ∧ EV W Z [x0, x1, x2, x3, x4, x5, x6] st.index ∧ RowV W Z vb (ST.ds st.body) ∧ RowV W Z vl (ST.ds st.els) ∧ k = st.kind ∧ n = st.name ∧ o = st.oth := by
 cases st
 obtain ⟨ce, cx, vb, vl, rfl, h1, h2, h3, h4⟩ := SV.iff.1 h
 have l1 := h1.len
 have l2 := h2.len
 obtain ⟨a1, a2, a3, a4, a5, a6, a7, rfl⟩ : ∃ a1 a2 a3 a4 a5 a6 a7, ce = [a1, a2, a3, a4, a5, a6, a7] := by
  match ce, l1 with
  | [a1, a2, a3, a4, a5, a6, a7], _ => exact ⟨a1, a2, a3, a4, a5, a6, a7, rfl⟩
 obtain ⟨b1, b2, b3, b4, b5, b6, b7, rfl⟩ : ∃ a1 a2 a3 a4 a5 a6 a7, cx = [a1, a2, a3, a4, a5, a6, a7] := by
  match cx, l2 with
  | [a1, a2, a3, a4, a5, a6, a7], _ => exact ⟨a1, a2, a3, a4, a5, a6, a7, rfl⟩
 exact ⟨_, _, _, _, _, _, _, _, _, _, _, _, _, _, _, _, _, _, _, _, _, _, _, rfl, h1, h2, h3, h4, rfl, rfl, rfl⟩
section
variable {w0 : World} {B f : Nat} {W : World} {s : ByteArray} {tabs : Nat} {st : ST} {vb vl : Value} {i sl ot kd : Int} {lo : Bool} {e0 e1 e2 e3 e4 e5 e6 x0 x1 x2 x3 x4 x5 x6 : Value}
theorem pblocks_step (hB : PBC w0 B f) (h : PW w0 B W s) (he : EV w0 noX [e0, e1, e2, e3, e4, e5, e6] st.expr) (hme : mayE 24 st.expr = true) (hb : RowV w0 noX vb (ST.ds st.body)) (hl : RowV w0 noX vl (ST.ds st.els))
  (hokb : st.body.all (okS f) = true) (hokl : st.els.all (okS f) = true) (htabs : tabs + f < 1000) (hlen : s.size + (blocksT (stmtT f) tabs st).size ≤ most) :
  Calls Tryz.prog 174 #[.pointer (some ⟨B, 0, none⟩), .agg #[.int .i64 kd, .int .i64 st.line, .int .i64 st.col, .string st.name, .string st.oth, e0, e1, e2, e3, e4, e5, e6, x0, x1, x2, x3, x4, x5, x6, vb, vl, .int .i64 i, .int .i64 sl, .int .i64 ot, .bool lo], .int .i64 (tabs : Nat)] W (Wrote w0 B W (s ++ blocksT (stmtT f) tabs st)) := by
 obtain ⟨Ab, nb, cb, rfl, hnb, hnbc, hcbm⟩ := hb.form
 obtain ⟨Al, nl, cl, rfl, hnl, hnlc, hclm⟩ := hl.form
 rw [ST.ds_length] at hnb hnl
 subst hnb hnl
 obtain ⟨W0, hW0⟩ : ∃ W0, W0 = W.alloc (.cells #[.int .i64 kd, .int .i64 st.line, .int .i64 st.col, .string st.name, .string st.oth, e0, e1, e2, e3, e4, e5, e6, x0, x1, x2, x3, x4, x5, x6, .slice Ab st.body.length cb, .slice Al st.els.length cl, .int .i64 i, .int .i64 sl, .int .i64 ot, .bool lo] 63) := ⟨_, rfl⟩
 have hk0 : Kept noX W W0 := by rw [hW0]; exact (Kept.refl _ _).alloc _
 have HE0 := aP (show Cells W0 W.heap.size 63 [.int .i64 kd, .int .i64 st.line, .int .i64 st.col, .string st.name, .string st.oth, e0, e1, e2, e3, e4, e5, e6, x0, x1, x2, x3, x4, x5, x6, .slice Ab st.body.length cb, .slice Al st.els.length cl, .int .i64 i, .int .i64 sl, .int .i64 ot, .bool lo] from by rw [hW0]; exact Cells.fresh W 63 [.int .i64 kd, .int .i64 st.line, .int .i64 st.col, .string st.name, .string st.oth, e0, e1, e2, e3, e4, e5, e6, x0, x1, x2, x3, x4, x5, x6, .slice Ab st.body.length cb, .slice Al st.els.length cl, .int .i64 i, .int .i64 sl, .int .i64 ot, .bool lo])
 have z0 : W0.heap.size = W.heap.size + 1 := by rw [hW0]; simp
 have HW0 := aP (h.keep hk0)
 have HP0 := aP (Put.refl B W0)
 have hlt := h.lt
 have HC1 := aP (HW0.out.lit [⟨#[32]⟩] (by unfold blocksT at hlen; simp only [ByteArray.size_append] at hlen; omega))
 have HH := aP h
 have HK0 := aP hk0
 have HBD := aP hb
 have HLD := aP hl
 have HT := aP (show blocksT (stmtT f) tabs st = _ from rfl)
 unfold blocksT at hlen
 clear h hk0 hb hl
 go_enter Tryz.func174, Tryz.ntmps174
 go_wp2_with fail
 rw [← hW0, ← z0]
 have l0 : W.heap.size < W0.heap.size := by omega
 clear hW0 z0
 refine (HC1.out).mono ?_
 rintro e W1 ⟨rfl, hw1, hp1⟩
 have HE1 := aP (hp1.cells HW0.out.at_ HE0.out kom (by decide))
 have HP1 := aP hp1
 have HW1 := aP hw1
 clear hw1 hp1
 have p5 := HE1.out.cell 5; have p6 := HE1.out.cell 6; have p7 := HE1.out.cell 7; have p8 := HE1.out.cell 8; have p9 := HE1.out.cell 9; have p10 := HE1.out.cell 10; have p11 := HE1.out.cell 11
 simp only [aS, aZ] at p5 p6 p7 p8 p9 p10 p11
 have HC2 := aP (pexpr_all w0 B 24 W1 _ 0 st.expr _ HW1.out he hme (by decide) (by simp only [ByteArray.size_append] at hlen ⊢; omega))
 go_wp2_with fail
 refine (HC2.out).mono ?_
 rintro e W2 ⟨rfl, hw2, hp2⟩
 clear p5 p6 p7 p8 p9 p10 p11
 have HE2 := aP (hp2.cells HW1.out.at_ HE1.out kom (by decide))
 have HP2 := aP (HP1.out.trans hp2 HW0.out.at_)
 have HW2 := aP hw2
 clear hw2 hp2
 have HC3 := aP (HW2.out.lit [⟨#[32]⟩] (by simp only [ByteArray.size_append] at hlen ⊢; omega))
 go_wp2_with fail
 refine (HC3.out).mono ?_
 rintro e W3 ⟨rfl, hw3, hp3⟩
 have HE3 := aP (hp3.cells HW2.out.at_ HE2.out kom (by decide))
 have HP3 := aP (HP2.out.trans hp3 HW0.out.at_)
 have HW3 := aP hw3
 clear hw3 hp3
 have p19 := HE3.out.cell 19
 simp only [aS, aZ] at p19
 have HC4 := aP (hB W3 _ tabs st.body _ HW3.out HBD.out hokb htabs (by simp only [ByteArray.size_append] at hlen ⊢; omega))
 go_wp2_with fail
 refine (HC4.out).mono ?_
 rintro e W4 ⟨rfl, hw4, hp4⟩
 clear p19
 have HE4 := aP (hp4.cells HW3.out.at_ HE3.out kom (by decide))
 have HP4 := aP (HP3.out.trans hp4 HW0.out.at_)
 have HW4 := aP hw4
 clear hw4 hp4
 by_cases h0 : st.els.length = 0
 ·rw [if_pos h0] at hlen
  have hd : decide (0 < st.els.length) = false := by rw [h0] <;> rfl
  have p20 := HE4.out.cell 20
  simp only [aS, aZ] at p20
  have HT2 := aP (show blocksT (stmtT f) tabs st = (((catL [⟨#[32]⟩] ++ exprT 24 0 st.expr) ++ catL [⟨#[32]⟩]) ++ blockOf (stmtT f) tabs st.body) from by rw [blocksT, if_pos h0, ba_an])
  clear h0
  go_wp2
  go_end0
  refine ⟨rfl, ?_, Put.pre HH.out.at_ HK0.out HP4.out⟩
  rw [HT2.out]
  simpa only [ByteArray.append_assoc] using HW4.out
 ·rw [if_neg h0] at hlen
  have hd : decide (0 < st.els.length) = true := by simp; omega
  have HT2 := aP (show blocksT (stmtT f) tabs st = (((catL [⟨#[32]⟩] ++ exprT 24 0 st.expr) ++ catL [⟨#[32]⟩]) ++ blockOf (stmtT f) tabs st.body) ++ (catL [⟨#[32, 101, 108, 115, 101, 32]⟩] ++ blockOf (stmtT f) tabs st.els) from by rw [blocksT, if_neg h0])
  clear h0
  have p20 := HE4.out.cell 20
  simp only [aS, aZ] at p20
  have HC5 := aP (HW4.out.lit [⟨#[32, 101, 108, 115, 101, 32]⟩] (by simp only [ByteArray.size_append] at hlen ⊢; omega))
  go_wp2_with fail
  refine (HC5.out).mono ?_
  rintro e W5 ⟨rfl, hw5, hp5⟩
  clear p20
  have HE5 := aP (hp5.cells HW4.out.at_ HE4.out kom (by decide))
  have HP5 := aP (HP4.out.trans hp5 HW0.out.at_)
  have HW5 := aP hw5
  clear hw5 hp5
  have p20 := HE5.out.cell 20
  simp only [aS, aZ] at p20
  have HC6 := aP (hB W5 _ tabs st.els _ HW5.out HLD.out hokl htabs (by simp only [ByteArray.size_append] at hlen ⊢; omega))
  go_wp2_with fail
  refine (HC6.out).mono ?_
  rintro e W6 ⟨rfl, hw6, hp6⟩
  clear p20
  have HE6 := aP (hp6.cells HW5.out.at_ HE5.out kom (by decide))
  have HP6 := aP (HP5.out.trans hp6 HW0.out.at_)
  have HW6 := aP hw6
  clear hw6 hp6
  go_wp2
  go_end0
  refine ⟨rfl, ?_, Put.pre HH.out.at_ HK0.out HP6.out⟩
  rw [HT2.out]
  simpa only [ByteArray.append_assoc] using HW6.out
theorem pstmt_4 (hws : WordsAt w0) (hB : PBC w0 B f) (h : PW w0 B W s) (hk : st.kind = 4) (he : EV w0 noX [e0, e1, e2, e3, e4, e5, e6] st.expr) (hme : mayE 24 st.expr = true) (hb : RowV w0 noX vb (ST.ds st.body)) (hl : RowV w0 noX vl (ST.ds st.els))
  (hokb : st.body.all (okS f) = true) (hokl : st.els.all (okS f) = true) (htabs : tabs + (f + 1) ≤ 1000) (hlen : s.size + (stmtT (f + 1) tabs st).size ≤ most) :
  Calls Tryz.prog 141 #[.pointer (some ⟨B, 0, none⟩), .agg #[.int .i64 4, .int .i64 st.line, .int .i64 st.col, .string st.name, .string st.oth, e0, e1, e2, e3, e4, e5, e6, x0, x1, x2, x3, x4, x5, x6, vb, vl, .int .i64 i, .int .i64 sl, .int .i64 ot, .bool lo], .int .i64 (tabs : Nat)] W (Wrote w0 B W (s ++ stmtT (f + 1) tabs st)) := by
 obtain ⟨Ab, nb, cb, rfl, hnb, hnbc, hcbm⟩ := hb.form
 obtain ⟨Al, nl, cl, rfl, hnl, hnlc, hclm⟩ := hl.form
 rw [ST.ds_length] at hnb hnl
 subst hnb hnl
 obtain ⟨W0, hW0⟩ : ∃ W0, W0 = W.alloc (.cells #[.int .i64 4, .int .i64 st.line, .int .i64 st.col, .string st.name, .string st.oth, e0, e1, e2, e3, e4, e5, e6, x0, x1, x2, x3, x4, x5, x6, .slice Ab st.body.length cb, .slice Al st.els.length cl, .int .i64 i, .int .i64 sl, .int .i64 ot, .bool lo] 63) := ⟨_, rfl⟩
 have hk0 : Kept noX W W0 := by rw [hW0]; exact (Kept.refl _ _).alloc _
 have HE0 := aP (show Cells W0 W.heap.size 63 [.int .i64 4, .int .i64 st.line, .int .i64 st.col, .string st.name, .string st.oth, e0, e1, e2, e3, e4, e5, e6, x0, x1, x2, x3, x4, x5, x6, .slice Ab st.body.length cb, .slice Al st.els.length cl, .int .i64 i, .int .i64 sl, .int .i64 ot, .bool lo] from by rw [hW0]; exact Cells.fresh W 63 [.int .i64 4, .int .i64 st.line, .int .i64 st.col, .string st.name, .string st.oth, e0, e1, e2, e3, e4, e5, e6, x0, x1, x2, x3, x4, x5, x6, .slice Ab st.body.length cb, .slice Al st.els.length cl, .int .i64 i, .int .i64 sl, .int .i64 ot, .bool lo])
 have z0 : W0.heap.size = W.heap.size + 1 := by rw [hW0]; simp
 have HW0 := aP (h.keep hk0)
 have hT : stmtT (f + 1) tabs st = catL [wordL.getD 4 ⟨#[]⟩] ++ blocksT (stmtT f) tabs st := by rw [stmtT, hk] <;> rfl
 rw [hT] at hlen
 have HT := aP hT
 clear hT hk
 have q := h.cell (hws 4 _ rfl)
 have qb := block_lt_of q
 have HC1 := aP (HW0.out.lit [wordL.getD 4 ⟨#[]⟩] (by simp only [ByteArray.size_append] at hlen ⊢; omega))
 have HH := aP h
 have HK0 := aP hk0
 have HBD := aP hb
 have HLD := aP hl
 have hlt := h.lt
 clear h hk0 hb hl
 go_enter Tryz.func141, Tryz.ntmps141
 go_wp2_with fail
 rw [← hW0, ← z0]
 have l0 : W.heap.size < W0.heap.size := by omega
 clear hW0 z0
 refine (HC1.out).mono ?_
 rintro e W1 ⟨rfl, hw1, hp1⟩
 clear q
 have HE1 := aP (hp1.cells HW0.out.at_ HE0.out kom (by decide))
 have HP1 := aP hp1
 have HW1 := aP hw1
 clear hw1 hp1
 have HC2 := aP (pblocks_step (f := f) (tabs := tabs) (st := st) (kd := 4) (i := i) (sl := sl) (ot := ot) (lo := lo) (x0 := x0) (x1 := x1) (x2 := x2) (x3 := x3) (x4 := x4) (x5 := x5) (x6 := x6) hB HW1.out he hme HBD.out HLD.out hokb hokl kom (by simp only [ByteArray.size_append] at hlen ⊢; omega))
 have p0 := HE1.out.cell 0
 simp only [aZ] at p0
 go_wp2_with (first | ((with_reducible refine atl ?_); refine wpList_load_cells rfl 63 (.tmp 4) rfl (W.heap.size) rfl _ Tryz.underlying63 rfl HE1.out krf ?_))
 refine (HC2.out).mono ?_
 rintro e W2 ⟨rfl, hw2, hp2⟩
 clear p0
 have HW2 := aP hw2
 clear hw2
 go_wp2
 refine bodyPost_ret (results_none rfl _ _ _) rfl ?_
 refine ⟨rfl, ?_, Put.pre HH.out.at_ HK0.out (HP1.out.trans hp2 HW0.out.at_)⟩
 rw [HT.out]
 simpa only [ByteArray.append_assoc] using HW2.out
theorem pstmt_5 (hws : WordsAt w0) (hB : PBC w0 B f) (h : PW w0 B W s) (hk : st.kind = 5) (he : EV w0 noX [e0, e1, e2, e3, e4, e5, e6] st.expr) (hme : mayE 24 st.expr = true) (hb : RowV w0 noX vb (ST.ds st.body)) (hl : RowV w0 noX vl (ST.ds st.els))
  (hokb : st.body.all (okS f) = true) (hokl : st.els.all (okS f) = true) (htabs : tabs + (f + 1) ≤ 1000) (hlen : s.size + (stmtT (f + 1) tabs st).size ≤ most) :
  Calls Tryz.prog 141 #[.pointer (some ⟨B, 0, none⟩), .agg #[.int .i64 5, .int .i64 st.line, .int .i64 st.col, .string st.name, .string st.oth, e0, e1, e2, e3, e4, e5, e6, x0, x1, x2, x3, x4, x5, x6, vb, vl, .int .i64 i, .int .i64 sl, .int .i64 ot, .bool lo], .int .i64 (tabs : Nat)] W (Wrote w0 B W (s ++ stmtT (f + 1) tabs st)) := by
 obtain ⟨Ab, nb, cb, rfl, hnb, hnbc, hcbm⟩ := hb.form
 obtain ⟨Al, nl, cl, rfl, hnl, hnlc, hclm⟩ := hl.form
 rw [ST.ds_length] at hnb hnl
 subst hnb hnl
 obtain ⟨W0, hW0⟩ : ∃ W0, W0 = W.alloc (.cells #[.int .i64 5, .int .i64 st.line, .int .i64 st.col, .string st.name, .string st.oth, e0, e1, e2, e3, e4, e5, e6, x0, x1, x2, x3, x4, x5, x6, .slice Ab st.body.length cb, .slice Al st.els.length cl, .int .i64 i, .int .i64 sl, .int .i64 ot, .bool lo] 63) := ⟨_, rfl⟩
 have hk0 : Kept noX W W0 := by rw [hW0]; exact (Kept.refl _ _).alloc _
 have HE0 := aP (show Cells W0 W.heap.size 63 [.int .i64 5, .int .i64 st.line, .int .i64 st.col, .string st.name, .string st.oth, e0, e1, e2, e3, e4, e5, e6, x0, x1, x2, x3, x4, x5, x6, .slice Ab st.body.length cb, .slice Al st.els.length cl, .int .i64 i, .int .i64 sl, .int .i64 ot, .bool lo] from by rw [hW0]; exact Cells.fresh W 63 [.int .i64 5, .int .i64 st.line, .int .i64 st.col, .string st.name, .string st.oth, e0, e1, e2, e3, e4, e5, e6, x0, x1, x2, x3, x4, x5, x6, .slice Ab st.body.length cb, .slice Al st.els.length cl, .int .i64 i, .int .i64 sl, .int .i64 ot, .bool lo])
 have z0 : W0.heap.size = W.heap.size + 1 := by rw [hW0]; simp
 have HW0 := aP (h.keep hk0)
 have hT : stmtT (f + 1) tabs st = catL [wordL.getD 5 ⟨#[]⟩] ++ blocksT (stmtT f) tabs st := by rw [stmtT, hk] <;> rfl
 rw [hT] at hlen
 have HT := aP hT
 clear hT hk
 have q := h.cell (hws 5 _ rfl)
 have qb := block_lt_of q
 have HC1 := aP (HW0.out.lit [wordL.getD 5 ⟨#[]⟩] (by simp only [ByteArray.size_append] at hlen ⊢; omega))
 have HH := aP h
 have HK0 := aP hk0
 have HBD := aP hb
 have HLD := aP hl
 have hlt := h.lt
 clear h hk0 hb hl
 go_enter Tryz.func141, Tryz.ntmps141
 go_wp2_with fail
 rw [← hW0, ← z0]
 have l0 : W.heap.size < W0.heap.size := by omega
 clear hW0 z0
 refine (HC1.out).mono ?_
 rintro e W1 ⟨rfl, hw1, hp1⟩
 clear q
 have HE1 := aP (hp1.cells HW0.out.at_ HE0.out kom (by decide))
 have HP1 := aP hp1
 have HW1 := aP hw1
 clear hw1 hp1
 have HC2 := aP (pblocks_step (f := f) (tabs := tabs) (st := st) (kd := 5) (i := i) (sl := sl) (ot := ot) (lo := lo) (x0 := x0) (x1 := x1) (x2 := x2) (x3 := x3) (x4 := x4) (x5 := x5) (x6 := x6) hB HW1.out he hme HBD.out HLD.out hokb hokl kom (by simp only [ByteArray.size_append] at hlen ⊢; omega))
 have p0 := HE1.out.cell 0
 simp only [aZ] at p0
 go_wp2_with (first | ((with_reducible refine atl ?_); refine wpList_load_cells rfl 63 (.tmp 4) rfl (W.heap.size) rfl _ Tryz.underlying63 rfl HE1.out krf ?_))
 refine (HC2.out).mono ?_
 rintro e W2 ⟨rfl, hw2, hp2⟩
 clear p0
 have HW2 := aP hw2
 clear hw2
 go_wp2
 refine bodyPost_ret (results_none rfl _ _ _) rfl ?_
 refine ⟨rfl, ?_, Put.pre HH.out.at_ HK0.out (HP1.out.trans hp2 HW0.out.at_)⟩
 rw [HT.out]
 simpa only [ByteArray.append_assoc] using HW2.out
end
theorem pstmt_step {w0 : World} {B f : Nat} (hws : WordsAt w0) (hB : PBC w0 B f) : PSC w0 B (f + 1) := by
 intro W s tabs st cs h hs hok htabs hlen
 obtain ⟨k, n, o, vb, vl, i, sl, ot, lo, e0, e1, e2, e3, e4, e5, e6, x0, x1, x2, x3, x4, x5, x6, rfl, he, hx, hb, hl, rfl, rfl, rfl⟩ := hs.form25'
 rw [okS] at hok
 simp only [Bool.and_eq_true] at hok
 obtain ⟨⟨hm, hokb⟩, hokl⟩ := hok
 unfold mayStP at hm
 simp only [Bool.and_eq_true, decide_eq_true_eq] at hm
 obtain ⟨⟨⟨⟨⟨⟨⟨h1, h2⟩, _⟩, _⟩, h5⟩, h6⟩, _⟩, _⟩ := hm
 obtain ⟨q, hq⟩ : ∃ q, q = st.kind := ⟨_, rfl⟩
 rw [← hq] at h1 h2 h5 h6 ⊢
 have hkk : q = 1 ∨ q = 2 ∨ q = 3 ∨ q = 4 ∨ q = 5 ∨ q = 6 ∨ q = 7 ∨ q = 8 ∨ q = 9 ∨ q = 10 ∨ q = 11 ∨ q = 12 ∨ q = 13 ∨ q = 14 ∨ q = 15 := by omega
 rcases hkk with rfl | rfl | rfl | rfl | rfl | rfl | rfl | rfl | rfl | rfl | rfl | rfl | rfl | rfl | rfl
 ·exact pstmt_1 hws h hq.symm he (by simpa using h5) hlen
 ·exact pstmt_2 hws h hq.symm he (by simpa using h5) hlen
 ·exact pstmt_3 hws h hq.symm he (by simpa using h5) hx (by simpa using h6) hlen
 ·exact pstmt_4 hws hB h hq.symm he (by simpa using h5) hb hl hokb hokl htabs hlen
 ·exact pstmt_5 hws hB h hq.symm he (by simpa using h5) hb hl hokb hokl htabs hlen
 ·exact pstmt_6 hws h hq.symm hlen
 ·exact pstmt_7 hws h hq.symm hlen
 ·exact pstmt_8 hws h hq.symm hlen
 ·exact pstmt_9 hws h hq.symm hlen
 ·exact pstmt_10 hws h hq.symm hlen
 ·exact pstmt_11 hws h hq.symm he (by simpa using h5) hlen
 ·exact pstmt_12 hws h hq.symm hlen
 ·exact pstmt_13 hws h hq.symm hlen
 ·exact pstmt_14 hws h hq.symm hlen
 ·exact pstmt_15 hws h hq.symm he (by simpa using h5) hlen
theorem pstmt_all (w0 : World) (B : Nat) (hws : WordsAt w0) : ∀ f, PSC w0 B f
 | 0 => fun _ _ _ _ _ _ _ hok => by simp [okS] at hok
 | f + 1 => pstmt_step hws (pblock_step (pstmt_all w0 B hws f))
theorem pblock_all (w0 : World) (B : Nat) (hws : WordsAt w0) (f : Nat) : PBC w0 B f := pblock_step (pstmt_all w0 B hws f)
end Go.Proofs.YtjkgepppoopheaaGreatDoor
