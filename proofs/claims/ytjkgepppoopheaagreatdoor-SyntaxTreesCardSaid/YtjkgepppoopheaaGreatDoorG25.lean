/- The project's printer of statements, whole (conditions: the text is of at most 2^46 bytes; the tables stand; the statements are such that may be). -/
import Derived.Test.YtjkgepppoopheaaGreatDoorG24
namespace Go.Proofs.YtjkgepppoopheaaGreatDoor
open Go.RowKit Go.Shelf

/-- A statement's cells, each by its own; its blocks. -/
theorem SV.form25' {W : World} {Z : Nat → Prop} {cs : List Value} {st : ST} (h : SV W Z cs st) : ∃ k n o vb vl i sl ot lo e0 e1 e2 e3 e4 e5 e6 x0 x1 x2 x3 x4 x5 x6,
    cs = [.int .i64 k, .int .i64 st.line, .int .i64 st.col, .string n, .string o, e0, e1, e2, e3, e4, e5, e6, x0, x1, x2, x3, x4, x5, x6, vb, vl, .int .i64 i, .int .i64 sl, .int .i64 ot, .bool lo] ∧
    EV W Z [e0, e1, e2, e3, e4, e5, e6] st.expr ∧ EV W Z [x0, x1, x2, x3, x4, x5, x6] st.index ∧ RowV W Z vb (ST.ds st.body) ∧ RowV W Z vl (ST.ds st.els) ∧ k = st.kind ∧ n = st.name ∧ o = st.oth := by
  cases st
  obtain ⟨ce, cx, vb, vl, rfl, h1, h2, h3, h4⟩ := SV.iff.1 h
  have l1 := h1.len
  have l2 := h2.len
  obtain ⟨a1, a2, a3, a4, a5, a6, a7, rfl⟩ : ∃ a1 a2 a3 a4 a5 a6 a7, ce = [a1, a2, a3, a4, a5, a6, a7] := by
    match ce, l1 with
    | [a1, a2, a3, a4, a5, a6, a7], _ => exact ⟨a1, a2, a3, a4, a5, a6, a7, rfl⟩
  obtain ⟨b1, b2, b3, b4, b5, b6, b7, rfl⟩ : ∃ a1 a2 a3 a4 a5 a6 a7, cx = [a1, a2, a3, a4, a5, a6, a7] := by
    match cx, l2 with
    | [a1, a2, a3, a4, a5, a6, a7], _ => exact ⟨a1, a2, a3, a4, a5, a6, a7, rfl⟩
  exact ⟨_, _, _, _, _, _, _, _, _, _, _, _, _, _, _, _, _, _, _, _, _, _, _, rfl, h1, h2, h3, h4, rfl, rfl, rfl⟩

section
variable {w0 : World} {B f : Nat} {W : World} {s : ByteArray} {tabs : Nat} {st : ST} {vb vl : Value} {i sl ot kd : Int} {lo : Bool} {e0 e1 e2 e3 e4 e5 e6 x0 x1 x2 x3 x4 x5 x6 : Value}
set_option maxRecDepth 100000 in
set_option maxHeartbeats 1000000 in
theorem pblocks_step (hB : PBC w0 B f) (h : PW w0 B W s) (he : EV w0 noX [e0, e1, e2, e3, e4, e5, e6] st.expr) (hme : mayE 24 st.expr = true) (hb : RowV w0 noX vb (ST.ds st.body)) (hl : RowV w0 noX vl (ST.ds st.els))
    (hokb : st.body.all (okS f) = true) (hokl : st.els.all (okS f) = true) (htabs : tabs + f < 1000) (hlen : s.size + (blocksT (stmtT f) tabs st).size ≤ most) :
    Calls Tryz.prog 174 #[.pointer (some ⟨B, 0, none⟩), .agg #[.int .i64 kd, .int .i64 st.line, .int .i64 st.col, .string st.name, .string st.oth, e0, e1, e2, e3, e4, e5, e6, x0, x1, x2, x3, x4, x5, x6, vb, vl, .int .i64 i, .int .i64 sl, .int .i64 ot, .bool lo], .int .i64 (tabs : Nat)] W (Wrote w0 B W (s ++ blocksT (stmtT f) tabs st)) := by
  obtain ⟨Ab, nb, cb, rfl, hnb, hnbc, hcbm⟩ := hb.form
  obtain ⟨Al, nl, cl, rfl, hnl, hnlc, hclm⟩ := hl.form
  rw [ST.ds_length] at hnb hnl
  subst hnb hnl
  obtain ⟨W0, hW0⟩ : ∃ W0, W0 = W.alloc (.cells #[.int .i64 kd, .int .i64 st.line, .int .i64 st.col, .string st.name, .string st.oth, e0, e1, e2, e3, e4, e5, e6, x0, x1, x2, x3, x4, x5, x6, .slice Ab st.body.length cb, .slice Al st.els.length cl, .int .i64 i, .int .i64 sl, .int .i64 ot, .bool lo] 63) := ⟨_, rfl⟩
  have hk0 : Kept noX W W0 := by rw [hW0]; exact (Kept.refl _ _).alloc _
  have HE0 := Lib.hid (show Cells W0 W.heap.size 63 [.int .i64 kd, .int .i64 st.line, .int .i64 st.col, .string st.name, .string st.oth, e0, e1, e2, e3, e4, e5, e6, x0, x1, x2, x3, x4, x5, x6, .slice Ab st.body.length cb, .slice Al st.els.length cl, .int .i64 i, .int .i64 sl, .int .i64 ot, .bool lo] from by rw [hW0]; exact Cells.fresh W 63 [.int .i64 kd, .int .i64 st.line, .int .i64 st.col, .string st.name, .string st.oth, e0, e1, e2, e3, e4, e5, e6, x0, x1, x2, x3, x4, x5, x6, .slice Ab st.body.length cb, .slice Al st.els.length cl, .int .i64 i, .int .i64 sl, .int .i64 ot, .bool lo])
  have z0 : W0.heap.size = W.heap.size + 1 := by rw [hW0]; simp
  have HW0 := Lib.hid (h.keep hk0)
  have HP0 := Lib.hid (Put.refl B W0)
  have hlt := h.lt
  have HC1 := Lib.hid (HW0.out.lit [⟨#[32]⟩] (by unfold blocksT at hlen; simp only [ByteArray.size_append] at hlen; omega))
  have HH := Lib.hid h
  have HK0 := Lib.hid hk0
  have HBD := Lib.hid hb
  have HLD := Lib.hid hl
  have HT := Lib.hid (show blocksT (stmtT f) tabs st = _ from rfl)
  unfold blocksT at hlen
  clear h hk0 hb hl
  go_enter Tryz.func174, Tryz.ntmps174
  go_wp2_with fail
  rw [← hW0, ← z0]
  have l0 : W.heap.size < W0.heap.size := by omega
  clear hW0 z0
  refine (HC1.out).mono ?_
  rintro e W1 ⟨rfl, hw1, hp1⟩
  have HE1 := Lib.hid (hp1.cells HW0.out.at_ HE0.out (by omega) (by decide))
  have HP1 := Lib.hid hp1
  have HW1 := Lib.hid hw1
  clear hw1 hp1
  have p5 := HE1.out.cell 5; have p6 := HE1.out.cell 6; have p7 := HE1.out.cell 7; have p8 := HE1.out.cell 8; have p9 := HE1.out.cell 9; have p10 := HE1.out.cell 10; have p11 := HE1.out.cell 11
  simp only [List.getElem?_cons_succ, List.getElem?_cons_zero] at p5 p6 p7 p8 p9 p10 p11
  have HC2 := Lib.hid (pexpr_all w0 B 24 W1 _ 0 st.expr _ HW1.out he hme (by decide) (by simp only [ByteArray.size_append] at hlen ⊢; omega))
  go_wp2_with fail
  refine (HC2.out).mono ?_
  rintro e W2 ⟨rfl, hw2, hp2⟩
  clear p5 p6 p7 p8 p9 p10 p11
  have HE2 := Lib.hid (hp2.cells HW1.out.at_ HE1.out (by omega) (by decide))
  have HP2 := Lib.hid (HP1.out.trans hp2 HW0.out.at_)
  have HW2 := Lib.hid hw2
  clear hw2 hp2
  have HC3 := Lib.hid (HW2.out.lit [⟨#[32]⟩] (by simp only [ByteArray.size_append] at hlen ⊢; omega))
  go_wp2_with fail
  refine (HC3.out).mono ?_
  rintro e W3 ⟨rfl, hw3, hp3⟩
  have HE3 := Lib.hid (hp3.cells HW2.out.at_ HE2.out (by omega) (by decide))
  have HP3 := Lib.hid (HP2.out.trans hp3 HW0.out.at_)
  have HW3 := Lib.hid hw3
  clear hw3 hp3
  have p19 := HE3.out.cell 19
  simp only [List.getElem?_cons_succ, List.getElem?_cons_zero] at p19
  have HC4 := Lib.hid (hB W3 _ tabs st.body _ HW3.out HBD.out hokb htabs (by simp only [ByteArray.size_append] at hlen ⊢; omega))
  go_wp2_with fail
  refine (HC4.out).mono ?_
  rintro e W4 ⟨rfl, hw4, hp4⟩
  clear p19
  have HE4 := Lib.hid (hp4.cells HW3.out.at_ HE3.out (by omega) (by decide))
  have HP4 := Lib.hid (HP3.out.trans hp4 HW0.out.at_)
  have HW4 := Lib.hid hw4
  clear hw4 hp4
  by_cases h0 : st.els.length = 0
  · rw [if_pos h0] at hlen
    have hd : decide (0 < st.els.length) = false := by rw [h0]; rfl
    have p20 := HE4.out.cell 20
    simp only [List.getElem?_cons_succ, List.getElem?_cons_zero] at p20
    have HT2 := Lib.hid (show blocksT (stmtT f) tabs st = (((catL [⟨#[32]⟩] ++ exprT 24 0 st.expr) ++ catL [⟨#[32]⟩]) ++ blockOf (stmtT f) tabs st.body) from by rw [blocksT, if_pos h0, ba_an])
    clear h0
    go_wp2
    go_end0
    refine ⟨rfl, ?_, Put.pre HH.out.at_ HK0.out HP4.out⟩
    rw [HT2.out]
    simpa only [ByteArray.append_assoc] using HW4.out
  · rw [if_neg h0] at hlen
    have hd : decide (0 < st.els.length) = true := by simp; omega
    have HT2 := Lib.hid (show blocksT (stmtT f) tabs st = (((catL [⟨#[32]⟩] ++ exprT 24 0 st.expr) ++ catL [⟨#[32]⟩]) ++ blockOf (stmtT f) tabs st.body) ++ (catL [⟨#[32, 101, 108, 115, 101, 32]⟩] ++ blockOf (stmtT f) tabs st.els) from by rw [blocksT, if_neg h0])
    clear h0
    have p20 := HE4.out.cell 20
    simp only [List.getElem?_cons_succ, List.getElem?_cons_zero] at p20
    have HC5 := Lib.hid (HW4.out.lit [⟨#[32, 101, 108, 115, 101, 32]⟩] (by simp only [ByteArray.size_append] at hlen ⊢; omega))
    go_wp2_with fail
    refine (HC5.out).mono ?_
    rintro e W5 ⟨rfl, hw5, hp5⟩
    clear p20
    have HE5 := Lib.hid (hp5.cells HW4.out.at_ HE4.out (by omega) (by decide))
    have HP5 := Lib.hid (HP4.out.trans hp5 HW0.out.at_)
    have HW5 := Lib.hid hw5
    clear hw5 hp5
    have p20 := HE5.out.cell 20
    simp only [List.getElem?_cons_succ, List.getElem?_cons_zero] at p20
    have HC6 := Lib.hid (hB W5 _ tabs st.els _ HW5.out HLD.out hokl htabs (by simp only [ByteArray.size_append] at hlen ⊢; omega))
    go_wp2_with fail
    refine (HC6.out).mono ?_
    rintro e W6 ⟨rfl, hw6, hp6⟩
    clear p20
    have HE6 := Lib.hid (hp6.cells HW5.out.at_ HE5.out (by omega) (by decide))
    have HP6 := Lib.hid (HP5.out.trans hp6 HW0.out.at_)
    have HW6 := Lib.hid hw6
    clear hw6 hp6
    go_wp2
    go_end0
    refine ⟨rfl, ?_, Put.pre HH.out.at_ HK0.out HP6.out⟩
    rw [HT2.out]
    simpa only [ByteArray.append_assoc] using HW6.out

theorem nil_of (hl : st.els.length = 0) : st.els = [] := List.length_eq_zero_iff.1 hl
set_option maxRecDepth 100000 in
set_option maxHeartbeats 1000000 in
theorem pstmt_4 (hws : WordsAt w0) (hB : PBC w0 B f) (h : PW w0 B W s) (hk : st.kind = 4) (he : EV w0 noX [e0, e1, e2, e3, e4, e5, e6] st.expr) (hme : mayE 24 st.expr = true) (hb : RowV w0 noX vb (ST.ds st.body)) (hl : RowV w0 noX vl (ST.ds st.els))
    (hokb : st.body.all (okS f) = true) (hokl : st.els.all (okS f) = true) (htabs : tabs + (f + 1) ≤ 1000) (hlen : s.size + (stmtT (f + 1) tabs st).size ≤ most) :
    Calls Tryz.prog 141 #[.pointer (some ⟨B, 0, none⟩), .agg #[.int .i64 4, .int .i64 st.line, .int .i64 st.col, .string st.name, .string st.oth, e0, e1, e2, e3, e4, e5, e6, x0, x1, x2, x3, x4, x5, x6, vb, vl, .int .i64 i, .int .i64 sl, .int .i64 ot, .bool lo], .int .i64 (tabs : Nat)] W (Wrote w0 B W (s ++ stmtT (f + 1) tabs st)) := by
  obtain ⟨Ab, nb, cb, rfl, hnb, hnbc, hcbm⟩ := hb.form
  obtain ⟨Al, nl, cl, rfl, hnl, hnlc, hclm⟩ := hl.form
  rw [ST.ds_length] at hnb hnl
  subst hnb hnl
  obtain ⟨W0, hW0⟩ : ∃ W0, W0 = W.alloc (.cells #[.int .i64 4, .int .i64 st.line, .int .i64 st.col, .string st.name, .string st.oth, e0, e1, e2, e3, e4, e5, e6, x0, x1, x2, x3, x4, x5, x6, .slice Ab st.body.length cb, .slice Al st.els.length cl, .int .i64 i, .int .i64 sl, .int .i64 ot, .bool lo] 63) := ⟨_, rfl⟩
  have hk0 : Kept noX W W0 := by rw [hW0]; exact (Kept.refl _ _).alloc _
  have HE0 := Lib.hid (show Cells W0 W.heap.size 63 [.int .i64 4, .int .i64 st.line, .int .i64 st.col, .string st.name, .string st.oth, e0, e1, e2, e3, e4, e5, e6, x0, x1, x2, x3, x4, x5, x6, .slice Ab st.body.length cb, .slice Al st.els.length cl, .int .i64 i, .int .i64 sl, .int .i64 ot, .bool lo] from by rw [hW0]; exact Cells.fresh W 63 [.int .i64 4, .int .i64 st.line, .int .i64 st.col, .string st.name, .string st.oth, e0, e1, e2, e3, e4, e5, e6, x0, x1, x2, x3, x4, x5, x6, .slice Ab st.body.length cb, .slice Al st.els.length cl, .int .i64 i, .int .i64 sl, .int .i64 ot, .bool lo])
  have z0 : W0.heap.size = W.heap.size + 1 := by rw [hW0]; simp
  have HW0 := Lib.hid (h.keep hk0)
  have hT : stmtT (f + 1) tabs st = catL [wordL.getD 4 ⟨#[]⟩] ++ blocksT (stmtT f) tabs st := by rw [stmtT, hk]; rfl
  rw [hT] at hlen
  have HT := Lib.hid hT
  clear hT hk
  have q := h.cell (hws 4 _ rfl)
  have qb := block_lt_of q
  have HC1 := Lib.hid (HW0.out.lit [wordL.getD 4 ⟨#[]⟩] (by simp only [ByteArray.size_append] at hlen ⊢; omega))
  have HH := Lib.hid h
  have HK0 := Lib.hid hk0
  have HBD := Lib.hid hb
  have HLD := Lib.hid hl
  have hlt := h.lt
  clear h hk0 hb hl
  go_enter Tryz.func141, Tryz.ntmps141
  go_wp2_with fail
  rw [← hW0, ← z0]
  have l0 : W.heap.size < W0.heap.size := by omega
  clear hW0 z0
  refine (HC1.out).mono ?_
  rintro e W1 ⟨rfl, hw1, hp1⟩
  clear q
  have HE1 := Lib.hid (hp1.cells HW0.out.at_ HE0.out (by omega) (by decide))
  have HP1 := Lib.hid hp1
  have HW1 := Lib.hid hw1
  clear hw1 hp1
  have HC2 := Lib.hid (pblocks_step (f := f) (tabs := tabs) (st := st) (kd := 4) (i := i) (sl := sl) (ot := ot) (lo := lo) (x0 := x0) (x1 := x1) (x2 := x2) (x3 := x3) (x4 := x4) (x5 := x5) (x6 := x6) hB HW1.out he hme HBD.out HLD.out hokb hokl (by omega) (by simp only [ByteArray.size_append] at hlen ⊢; omega))
  have p0 := HE1.out.cell 0
  simp only [List.getElem?_cons_zero] at p0
  go_wp2_with (first | ((with_reducible show wpList _ _ _ (Oper.mk _ (Op.load _ _) _ _ _ _ :: _) _ _); refine wpList_load_cells rfl 63 (.tmp 4) rfl (W.heap.size) rfl _ Tryz.underlying63 rfl HE1.out (by kernel_rfl) ?_))
  refine (HC2.out).mono ?_
  rintro e W2 ⟨rfl, hw2, hp2⟩
  clear p0
  have HW2 := Lib.hid hw2
  clear hw2
  go_wp2
  refine bodyPost_ret (results_none rfl _ _ _) rfl ?_
  refine ⟨rfl, ?_, Put.pre HH.out.at_ HK0.out (HP1.out.trans hp2 HW0.out.at_)⟩
  rw [HT.out]
  simpa only [ByteArray.append_assoc] using HW2.out
set_option maxRecDepth 100000 in
set_option maxHeartbeats 1000000 in
theorem pstmt_5 (hws : WordsAt w0) (hB : PBC w0 B f) (h : PW w0 B W s) (hk : st.kind = 5) (he : EV w0 noX [e0, e1, e2, e3, e4, e5, e6] st.expr) (hme : mayE 24 st.expr = true) (hb : RowV w0 noX vb (ST.ds st.body)) (hl : RowV w0 noX vl (ST.ds st.els))
    (hokb : st.body.all (okS f) = true) (hokl : st.els.all (okS f) = true) (htabs : tabs + (f + 1) ≤ 1000) (hlen : s.size + (stmtT (f + 1) tabs st).size ≤ most) :
    Calls Tryz.prog 141 #[.pointer (some ⟨B, 0, none⟩), .agg #[.int .i64 5, .int .i64 st.line, .int .i64 st.col, .string st.name, .string st.oth, e0, e1, e2, e3, e4, e5, e6, x0, x1, x2, x3, x4, x5, x6, vb, vl, .int .i64 i, .int .i64 sl, .int .i64 ot, .bool lo], .int .i64 (tabs : Nat)] W (Wrote w0 B W (s ++ stmtT (f + 1) tabs st)) := by
  obtain ⟨Ab, nb, cb, rfl, hnb, hnbc, hcbm⟩ := hb.form
  obtain ⟨Al, nl, cl, rfl, hnl, hnlc, hclm⟩ := hl.form
  rw [ST.ds_length] at hnb hnl
  subst hnb hnl
  obtain ⟨W0, hW0⟩ : ∃ W0, W0 = W.alloc (.cells #[.int .i64 5, .int .i64 st.line, .int .i64 st.col, .string st.name, .string st.oth, e0, e1, e2, e3, e4, e5, e6, x0, x1, x2, x3, x4, x5, x6, .slice Ab st.body.length cb, .slice Al st.els.length cl, .int .i64 i, .int .i64 sl, .int .i64 ot, .bool lo] 63) := ⟨_, rfl⟩
  have hk0 : Kept noX W W0 := by rw [hW0]; exact (Kept.refl _ _).alloc _
  have HE0 := Lib.hid (show Cells W0 W.heap.size 63 [.int .i64 5, .int .i64 st.line, .int .i64 st.col, .string st.name, .string st.oth, e0, e1, e2, e3, e4, e5, e6, x0, x1, x2, x3, x4, x5, x6, .slice Ab st.body.length cb, .slice Al st.els.length cl, .int .i64 i, .int .i64 sl, .int .i64 ot, .bool lo] from by rw [hW0]; exact Cells.fresh W 63 [.int .i64 5, .int .i64 st.line, .int .i64 st.col, .string st.name, .string st.oth, e0, e1, e2, e3, e4, e5, e6, x0, x1, x2, x3, x4, x5, x6, .slice Ab st.body.length cb, .slice Al st.els.length cl, .int .i64 i, .int .i64 sl, .int .i64 ot, .bool lo])
  have z0 : W0.heap.size = W.heap.size + 1 := by rw [hW0]; simp
  have HW0 := Lib.hid (h.keep hk0)
  have hT : stmtT (f + 1) tabs st = catL [wordL.getD 5 ⟨#[]⟩] ++ blocksT (stmtT f) tabs st := by rw [stmtT, hk]; rfl
  rw [hT] at hlen
  have HT := Lib.hid hT
  clear hT hk
  have q := h.cell (hws 5 _ rfl)
  have qb := block_lt_of q
  have HC1 := Lib.hid (HW0.out.lit [wordL.getD 5 ⟨#[]⟩] (by simp only [ByteArray.size_append] at hlen ⊢; omega))
  have HH := Lib.hid h
  have HK0 := Lib.hid hk0
  have HBD := Lib.hid hb
  have HLD := Lib.hid hl
  have hlt := h.lt
  clear h hk0 hb hl
  go_enter Tryz.func141, Tryz.ntmps141
  go_wp2_with fail
  rw [← hW0, ← z0]
  have l0 : W.heap.size < W0.heap.size := by omega
  clear hW0 z0
  refine (HC1.out).mono ?_
  rintro e W1 ⟨rfl, hw1, hp1⟩
  clear q
  have HE1 := Lib.hid (hp1.cells HW0.out.at_ HE0.out (by omega) (by decide))
  have HP1 := Lib.hid hp1
  have HW1 := Lib.hid hw1
  clear hw1 hp1
  have HC2 := Lib.hid (pblocks_step (f := f) (tabs := tabs) (st := st) (kd := 5) (i := i) (sl := sl) (ot := ot) (lo := lo) (x0 := x0) (x1 := x1) (x2 := x2) (x3 := x3) (x4 := x4) (x5 := x5) (x6 := x6) hB HW1.out he hme HBD.out HLD.out hokb hokl (by omega) (by simp only [ByteArray.size_append] at hlen ⊢; omega))
  have p0 := HE1.out.cell 0
  simp only [List.getElem?_cons_zero] at p0
  go_wp2_with (first | ((with_reducible show wpList _ _ _ (Oper.mk _ (Op.load _ _) _ _ _ _ :: _) _ _); refine wpList_load_cells rfl 63 (.tmp 4) rfl (W.heap.size) rfl _ Tryz.underlying63 rfl HE1.out (by kernel_rfl) ?_))
  refine (HC2.out).mono ?_
  rintro e W2 ⟨rfl, hw2, hp2⟩
  clear p0
  have HW2 := Lib.hid hw2
  clear hw2
  go_wp2
  refine bodyPost_ret (results_none rfl _ _ _) rfl ?_
  refine ⟨rfl, ?_, Put.pre HH.out.at_ HK0.out (HP1.out.trans hp2 HW0.out.at_)⟩
  rw [HT.out]
  simpa only [ByteArray.append_assoc] using HW2.out
end

theorem pstmt_step {w0 : World} {B f : Nat} (hws : WordsAt w0) (hB : PBC w0 B f) : PSC w0 B (f + 1) := by
  intro W s tabs st cs h hs hok htabs hlen
  obtain ⟨k, n, o, vb, vl, i, sl, ot, lo, e0, e1, e2, e3, e4, e5, e6, x0, x1, x2, x3, x4, x5, x6, rfl, he, hx, hb, hl, rfl, rfl, rfl⟩ := hs.form25'
  rw [okS] at hok
  simp only [Bool.and_eq_true] at hok
  obtain ⟨⟨hm, hokb⟩, hokl⟩ := hok
  unfold mayStP at hm
  simp only [Bool.and_eq_true, decide_eq_true_eq] at hm
  obtain ⟨⟨⟨⟨⟨⟨⟨h1, h2⟩, _⟩, _⟩, h5⟩, h6⟩, _⟩, _⟩ := hm
  obtain ⟨q, hq⟩ : ∃ q, q = st.kind := ⟨_, rfl⟩
  rw [← hq] at h1 h2 h5 h6 ⊢
  have hkk : q = 1 ∨ q = 2 ∨ q = 3 ∨ q = 4 ∨ q = 5 ∨ q = 6 ∨ q = 7 ∨ q = 8 ∨ q = 9 ∨ q = 10 ∨ q = 11 ∨ q = 12 ∨ q = 13 ∨ q = 14 ∨ q = 15 := by omega
  rcases hkk with rfl | rfl | rfl | rfl | rfl | rfl | rfl | rfl | rfl | rfl | rfl | rfl | rfl | rfl | rfl
  · exact pstmt_1 hws h hq.symm he (by simpa using h5) hlen
  · exact pstmt_2 hws h hq.symm he (by simpa using h5) hlen
  · exact pstmt_3 hws h hq.symm he (by simpa using h5) hx (by simpa using h6) hlen
  · exact pstmt_4 hws hB h hq.symm he (by simpa using h5) hb hl hokb hokl htabs hlen
  · exact pstmt_5 hws hB h hq.symm he (by simpa using h5) hb hl hokb hokl htabs hlen
  · exact pstmt_6 hws h hq.symm hlen
  · exact pstmt_7 hws h hq.symm hlen
  · exact pstmt_8 hws h hq.symm hlen
  · exact pstmt_9 hws h hq.symm hlen
  · exact pstmt_10 hws h hq.symm hlen
  · exact pstmt_11 hws h hq.symm he (by simpa using h5) hlen
  · exact pstmt_12 hws h hq.symm hlen
  · exact pstmt_13 hws h hq.symm hlen
  · exact pstmt_14 hws h hq.symm hlen
  · exact pstmt_15 hws h hq.symm he (by simpa using h5) hlen
theorem pstmt_all (w0 : World) (B : Nat) (hws : WordsAt w0) : ∀ f, PSC w0 B f
  | 0 => fun _ _ _ _ _ _ _ hok => by simp [okS] at hok
  | f + 1 => pstmt_step hws (pblock_step (pstmt_all w0 B hws f))
theorem pblock_all (w0 : World) (B : Nat) (hws : WordsAt w0) (f : Nat) : PBC w0 B f := pblock_step (pstmt_all w0 B hws f)
end Go.Proofs.YtjkgepppoopheaaGreatDoor
