/- The project's printer of statements without blocks (conditions: the text is of at most 2^46 bytes; the tables stand; the statement is one that may be). -/
import Derived.Test.YtjkgepppoopheaaGreatDoorAbb
import Derived.Test.YtjkgepppoopheaaGreatDoorQ25
import Derived.Test.YtjkgepppoopheaaGreatDoorQ23
set_option maxRecDepth 100000
set_option maxHeartbeats 1000000
namespace Go.Proofs.YtjkgepppoopheaaGreatDoor
open Go.RowKit Go.Shelf
def wordL : List ByteArray := [⟨#[]⟩, kLet, ⟨#[]⟩, ⟨#[]⟩, kIf, kWhile, kLock, kUnlock, kWait, kSignal, kAll, kSend, kRecv, kSpawn, kJoin, kPrint]
def WordsAt (W : World) : Prop := ∀ j s, wordL[j]? = some s → W.cell? ⟨2, j, none⟩ = some (.string s)
def blockOf (g : Nat → ST → ByteArray) (tabs : Nat) (l : List ST) : ByteArray := (catL [⟨#[123, 10]⟩] ++ catL (l.map fun s => (tabsB (tabs + 1) ++ g (tabs + 1) s) ++ catL [⟨#[10]⟩])) ++ (tabsB tabs ++ catL [⟨#[125]⟩])
def blocksT (g : Nat → ST → ByteArray) (tabs : Nat) (st : ST) : ByteArray :=
 (((catL [⟨#[32]⟩] ++ exprT 24 0 st.expr) ++ catL [⟨#[32]⟩]) ++ blockOf g tabs st.body) ++ (if st.els.length = 0 then ⟨#[]⟩ else catL [⟨#[32, 101, 108, 115, 101, 32]⟩] ++ blockOf g tabs st.els)
def ST.kind : ST → Int
 | .node k _ _ _ _ _ _ _ _ _ _ _ _ => k
def ST.name : ST → ByteArray
 | .node _ _ _ n _ _ _ _ _ _ _ _ _ => n
def ST.oth : ST → ByteArray
 | .node _ _ _ _ t _ _ _ _ _ _ _ _ => t
def stmtT : Nat → Nat → ST → ByteArray
 | 0, _, _ => ⟨#[]⟩
 | f + 1, tabs, st =>
  match st.kind with
  | 1 => ((catL [wordL.getD 1 ⟨#[]⟩] ++ catL [⟨#[32]⟩, st.name, ⟨#[32, 61, 32]⟩]) ++ exprT 24 0 st.expr) ++ catL [⟨#[59]⟩]
  | 2 => ((catL [wordL.getD 2 ⟨#[]⟩] ++ catL [st.name, ⟨#[32, 61, 32]⟩]) ++ exprT 24 0 st.expr) ++ catL [⟨#[59]⟩]
  | 3 => (((catL [wordL.getD 3 ⟨#[]⟩] ++ cellT 24 st.name st.index) ++ catL [⟨#[32, 61, 32]⟩]) ++ exprT 24 0 st.expr) ++ catL [⟨#[59]⟩]
  | 4 => catL [wordL.getD 4 ⟨#[]⟩] ++ blocksT (stmtT f) tabs st
  | 5 => catL [wordL.getD 5 ⟨#[]⟩] ++ blocksT (stmtT f) tabs st
  | 8 => (catL [wordL.getD 8 ⟨#[]⟩] ++ catL [⟨#[32]⟩, st.name, ⟨#[32]⟩, st.oth]) ++ catL [⟨#[59]⟩]
  | 12 => (catL [wordL.getD 12 ⟨#[]⟩] ++ catL [⟨#[32]⟩, st.name, ⟨#[32]⟩, st.oth]) ++ catL [⟨#[59]⟩]
  | 11 => ((catL [wordL.getD 11 ⟨#[]⟩] ++ catL [⟨#[32]⟩, st.name, ⟨#[32]⟩]) ++ exprT 24 0 st.expr) ++ catL [⟨#[59]⟩]
  | 15 => ((catL [wordL.getD 15 ⟨#[]⟩] ++ catL [⟨#[32]⟩]) ++ exprT 24 0 st.expr) ++ catL [⟨#[59]⟩]
  | 14 => catL [wordL.getD 14 ⟨#[]⟩] ++ catL [⟨#[59]⟩]
  | 6 => (catL [wordL.getD 6 ⟨#[]⟩] ++ catL [⟨#[32]⟩, st.name]) ++ catL [⟨#[59]⟩]
  | 7 => (catL [wordL.getD 7 ⟨#[]⟩] ++ catL [⟨#[32]⟩, st.name]) ++ catL [⟨#[59]⟩]
  | 9 => (catL [wordL.getD 9 ⟨#[]⟩] ++ catL [⟨#[32]⟩, st.name]) ++ catL [⟨#[59]⟩]
  | 10 => (catL [wordL.getD 10 ⟨#[]⟩] ++ catL [⟨#[32]⟩, st.name]) ++ catL [⟨#[59]⟩]
  | 13 => (catL [wordL.getD 13 ⟨#[]⟩] ++ catL [⟨#[32]⟩, st.name]) ++ catL [⟨#[59]⟩]
  | _ => ⟨#[]⟩
section
variable {w0 : World} {B f : Nat} {W : World} {s : ByteArray} {tabs : Nat} {st : ST} {vb vl : Value} {i sl ot : Int} {lo : Bool} {e0 e1 e2 e3 e4 e5 e6 x0 x1 x2 x3 x4 x5 x6 : Value}
theorem pstmt_1 (hws : WordsAt w0) (h : PW w0 B W s) (hk : st.kind = 1) (he : EV w0 noX [e0, e1, e2, e3, e4, e5, e6] st.expr) (hme : mayE 24 st.expr = true) (hlen : s.size + (stmtT (f + 1) tabs st).size ≤ most) :
  Calls Tryz.prog 141 #[.pointer (some ⟨B, 0, none⟩), .agg #[.int .i64 1, .int .i64 st.line, .int .i64 st.col, .string st.name, .string st.oth, e0, e1, e2, e3, e4, e5, e6, x0, x1, x2, x3, x4, x5, x6, vb, vl, .int .i64 i, .int .i64 sl, .int .i64 ot, .bool lo], .int .i64 (tabs : Nat)] W (Wrote w0 B W (s ++ stmtT (f + 1) tabs st)) := by
 obtain ⟨W0, hW0⟩ : ∃ W0, W0 = W.alloc (.cells #[.int .i64 1, .int .i64 st.line, .int .i64 st.col, .string st.name, .string st.oth, e0, e1, e2, e3, e4, e5, e6, x0, x1, x2, x3, x4, x5, x6, vb, vl, .int .i64 i, .int .i64 sl, .int .i64 ot, .bool lo] 63) := ⟨_, rfl⟩
 have hk0 : Kept noX W W0 := by rw [hW0]; exact (Kept.refl _ _).alloc _
 have HE0 := aP (show Cells W0 W.heap.size 63 [.int .i64 1, .int .i64 st.line, .int .i64 st.col, .string st.name, .string st.oth, e0, e1, e2, e3, e4, e5, e6, x0, x1, x2, x3, x4, x5, x6, vb, vl, .int .i64 i, .int .i64 sl, .int .i64 ot, .bool lo] from by rw [hW0]; exact Cells.fresh W 63 [.int .i64 1, .int .i64 st.line, .int .i64 st.col, .string st.name, .string st.oth, e0, e1, e2, e3, e4, e5, e6, x0, x1, x2, x3, x4, x5, x6, vb, vl, .int .i64 i, .int .i64 sl, .int .i64 ot, .bool lo])
 have z0 : W0.heap.size = W.heap.size + 1 := by rw [hW0]; simp
 have HW0 := aP (h.keep hk0)
 have HP0 := aP (Put.refl B W0)
 have hT : stmtT (f + 1) tabs st = ((catL [wordL.getD 1 ⟨#[]⟩] ++ catL [⟨#[32]⟩, st.name, ⟨#[32, 61, 32]⟩]) ++ exprT 24 0 st.expr) ++ catL [⟨#[59]⟩] := by rw [stmtT, hk] <;> rfl
 rw [hT] at hlen
 have HT := aP hT
 clear hT hk
 have q := h.cell (hws 1 _ rfl)
 have qb := block_lt_of q
 have HC1 := aP (HW0.out.lit [wordL.getD 1 ⟨#[]⟩] (by simp only [ByteArray.size_append] at hlen ⊢; omega))
 have HH := aP h
 have HK0 := aP hk0
 have hlt := h.lt
 clear h hk0
 go_enter Tryz.func141, Tryz.ntmps141
 go_wp2_with fail
 rw [← hW0, ← z0]
 have l0 : W.heap.size < W0.heap.size := by omega
 clear hW0 z0
 refine (HC1.out).mono ?_
 rintro e W1 ⟨rfl, hw1, hp1⟩
 clear q
 have HE1 := aP (hp1.cells HW0.out.at_ HE0.out kom (by decide))
 have HP1 := aP hp1
 have HW1 := aP hw1
 clear hw1 hp1
 have p0 := HE1.out.cell 0
 simp only [aZ] at p0
 have p3 := HE1.out.cell 3
 simp only [aS, aZ] at p3
 have HC2 := aP (HW1.out.lit [⟨#[32]⟩, st.name, ⟨#[32, 61, 32]⟩] (by simp only [ByteArray.size_append] at hlen ⊢; omega))
 go_wp2_with fail
 refine (HC2.out).mono ?_
 rintro e W2 ⟨rfl, hw2, hp2⟩
 clear p3
 have HE2 := aP (hp2.cells HW1.out.at_ HE1.out kom (by decide))
 have HP2 := aP (HP1.out.trans hp2 HW0.out.at_)
 have HW2 := aP hw2
 clear hw2 hp2
 have p5 := HE2.out.cell 5; have p6 := HE2.out.cell 6; have p7 := HE2.out.cell 7; have p8 := HE2.out.cell 8; have p9 := HE2.out.cell 9; have p10 := HE2.out.cell 10; have p11 := HE2.out.cell 11
 simp only [aS, aZ] at p5 p6 p7 p8 p9 p10 p11
 have HC3 := aP (pexpr_all w0 B 24 W2 _ 0 st.expr _ HW2.out he hme (by decide) (by simp only [ByteArray.size_append] at hlen ⊢; omega))
 go_wp2_with fail
 refine (HC3.out).mono ?_
 rintro e W3 ⟨rfl, hw3, hp3⟩
 clear p5 p6 p7 p8 p9 p10 p11
 have HE3 := aP (hp3.cells HW2.out.at_ HE2.out kom (by decide))
 have HP3 := aP (HP2.out.trans hp3 HW0.out.at_)
 have HW3 := aP hw3
 clear hw3 hp3
 have HC4 := aP (HW3.out.lit [⟨#[59]⟩] (by simp only [ByteArray.size_append] at hlen ⊢; omega))
 go_wp2_with fail
 refine (HC4.out).mono ?_
 rintro e W4 ⟨rfl, hw4, hp4⟩
 have HE4 := aP (hp4.cells HW3.out.at_ HE3.out kom (by decide))
 have HP4 := aP (HP3.out.trans hp4 HW0.out.at_)
 have HW4 := aP hw4
 clear hw4 hp4
 go_wp2
 go_end0
 refine ⟨rfl, ?_, Put.pre HH.out.at_ HK0.out HP4.out⟩
 rw [HT.out]
 simpa only [ByteArray.append_assoc] using HW4.out
theorem pstmt_2 (hws : WordsAt w0) (h : PW w0 B W s) (hk : st.kind = 2) (he : EV w0 noX [e0, e1, e2, e3, e4, e5, e6] st.expr) (hme : mayE 24 st.expr = true) (hlen : s.size + (stmtT (f + 1) tabs st).size ≤ most) :
  Calls Tryz.prog 141 #[.pointer (some ⟨B, 0, none⟩), .agg #[.int .i64 2, .int .i64 st.line, .int .i64 st.col, .string st.name, .string st.oth, e0, e1, e2, e3, e4, e5, e6, x0, x1, x2, x3, x4, x5, x6, vb, vl, .int .i64 i, .int .i64 sl, .int .i64 ot, .bool lo], .int .i64 (tabs : Nat)] W (Wrote w0 B W (s ++ stmtT (f + 1) tabs st)) := by
 obtain ⟨W0, hW0⟩ : ∃ W0, W0 = W.alloc (.cells #[.int .i64 2, .int .i64 st.line, .int .i64 st.col, .string st.name, .string st.oth, e0, e1, e2, e3, e4, e5, e6, x0, x1, x2, x3, x4, x5, x6, vb, vl, .int .i64 i, .int .i64 sl, .int .i64 ot, .bool lo] 63) := ⟨_, rfl⟩
 have hk0 : Kept noX W W0 := by rw [hW0]; exact (Kept.refl _ _).alloc _
 have HE0 := aP (show Cells W0 W.heap.size 63 [.int .i64 2, .int .i64 st.line, .int .i64 st.col, .string st.name, .string st.oth, e0, e1, e2, e3, e4, e5, e6, x0, x1, x2, x3, x4, x5, x6, vb, vl, .int .i64 i, .int .i64 sl, .int .i64 ot, .bool lo] from by rw [hW0]; exact Cells.fresh W 63 [.int .i64 2, .int .i64 st.line, .int .i64 st.col, .string st.name, .string st.oth, e0, e1, e2, e3, e4, e5, e6, x0, x1, x2, x3, x4, x5, x6, vb, vl, .int .i64 i, .int .i64 sl, .int .i64 ot, .bool lo])
 have z0 : W0.heap.size = W.heap.size + 1 := by rw [hW0]; simp
 have HW0 := aP (h.keep hk0)
 have HP0 := aP (Put.refl B W0)
 have hT : stmtT (f + 1) tabs st = ((catL [wordL.getD 2 ⟨#[]⟩] ++ catL [st.name, ⟨#[32, 61, 32]⟩]) ++ exprT 24 0 st.expr) ++ catL [⟨#[59]⟩] := by rw [stmtT, hk] <;> rfl
 rw [hT] at hlen
 have HT := aP hT
 clear hT hk
 have q := h.cell (hws 2 _ rfl)
 have qb := block_lt_of q
 have HC1 := aP (HW0.out.lit [wordL.getD 2 ⟨#[]⟩] (by simp only [ByteArray.size_append] at hlen ⊢; omega))
 have HH := aP h
 have HK0 := aP hk0
 have hlt := h.lt
 clear h hk0
 go_enter Tryz.func141, Tryz.ntmps141
 go_wp2_with fail
 rw [← hW0, ← z0]
 have l0 : W.heap.size < W0.heap.size := by omega
 clear hW0 z0
 refine (HC1.out).mono ?_
 rintro e W1 ⟨rfl, hw1, hp1⟩
 clear q
 have HE1 := aP (hp1.cells HW0.out.at_ HE0.out kom (by decide))
 have HP1 := aP hp1
 have HW1 := aP hw1
 clear hw1 hp1
 have p0 := HE1.out.cell 0
 simp only [aZ] at p0
 have p3 := HE1.out.cell 3
 simp only [aS, aZ] at p3
 have HC2 := aP (HW1.out.lit [st.name, ⟨#[32, 61, 32]⟩] (by simp only [ByteArray.size_append] at hlen ⊢; omega))
 go_wp2_with fail
 refine (HC2.out).mono ?_
 rintro e W2 ⟨rfl, hw2, hp2⟩
 clear p3
 have HE2 := aP (hp2.cells HW1.out.at_ HE1.out kom (by decide))
 have HP2 := aP (HP1.out.trans hp2 HW0.out.at_)
 have HW2 := aP hw2
 clear hw2 hp2
 have p5 := HE2.out.cell 5; have p6 := HE2.out.cell 6; have p7 := HE2.out.cell 7; have p8 := HE2.out.cell 8; have p9 := HE2.out.cell 9; have p10 := HE2.out.cell 10; have p11 := HE2.out.cell 11
 simp only [aS, aZ] at p5 p6 p7 p8 p9 p10 p11
 have HC3 := aP (pexpr_all w0 B 24 W2 _ 0 st.expr _ HW2.out he hme (by decide) (by simp only [ByteArray.size_append] at hlen ⊢; omega))
 go_wp2_with fail
 refine (HC3.out).mono ?_
 rintro e W3 ⟨rfl, hw3, hp3⟩
 clear p5 p6 p7 p8 p9 p10 p11
 have HE3 := aP (hp3.cells HW2.out.at_ HE2.out kom (by decide))
 have HP3 := aP (HP2.out.trans hp3 HW0.out.at_)
 have HW3 := aP hw3
 clear hw3 hp3
 have HC4 := aP (HW3.out.lit [⟨#[59]⟩] (by simp only [ByteArray.size_append] at hlen ⊢; omega))
 go_wp2_with fail
 refine (HC4.out).mono ?_
 rintro e W4 ⟨rfl, hw4, hp4⟩
 have HE4 := aP (hp4.cells HW3.out.at_ HE3.out kom (by decide))
 have HP4 := aP (HP3.out.trans hp4 HW0.out.at_)
 have HW4 := aP hw4
 clear hw4 hp4
 go_wp2
 go_end0
 refine ⟨rfl, ?_, Put.pre HH.out.at_ HK0.out HP4.out⟩
 rw [HT.out]
 simpa only [ByteArray.append_assoc] using HW4.out
theorem pstmt_3 (hws : WordsAt w0) (h : PW w0 B W s) (hk : st.kind = 3) (he : EV w0 noX [e0, e1, e2, e3, e4, e5, e6] st.expr) (hme : mayE 24 st.expr = true) (hx : EV w0 noX [x0, x1, x2, x3, x4, x5, x6] st.index) (hmx : mayE 24 st.index = true) (hlen : s.size + (stmtT (f + 1) tabs st).size ≤ most) :
  Calls Tryz.prog 141 #[.pointer (some ⟨B, 0, none⟩), .agg #[.int .i64 3, .int .i64 st.line, .int .i64 st.col, .string st.name, .string st.oth, e0, e1, e2, e3, e4, e5, e6, x0, x1, x2, x3, x4, x5, x6, vb, vl, .int .i64 i, .int .i64 sl, .int .i64 ot, .bool lo], .int .i64 (tabs : Nat)] W (Wrote w0 B W (s ++ stmtT (f + 1) tabs st)) := by
 obtain ⟨W0, hW0⟩ : ∃ W0, W0 = W.alloc (.cells #[.int .i64 3, .int .i64 st.line, .int .i64 st.col, .string st.name, .string st.oth, e0, e1, e2, e3, e4, e5, e6, x0, x1, x2, x3, x4, x5, x6, vb, vl, .int .i64 i, .int .i64 sl, .int .i64 ot, .bool lo] 63) := ⟨_, rfl⟩
 have hk0 : Kept noX W W0 := by rw [hW0]; exact (Kept.refl _ _).alloc _
 have HE0 := aP (show Cells W0 W.heap.size 63 [.int .i64 3, .int .i64 st.line, .int .i64 st.col, .string st.name, .string st.oth, e0, e1, e2, e3, e4, e5, e6, x0, x1, x2, x3, x4, x5, x6, vb, vl, .int .i64 i, .int .i64 sl, .int .i64 ot, .bool lo] from by rw [hW0]; exact Cells.fresh W 63 [.int .i64 3, .int .i64 st.line, .int .i64 st.col, .string st.name, .string st.oth, e0, e1, e2, e3, e4, e5, e6, x0, x1, x2, x3, x4, x5, x6, vb, vl, .int .i64 i, .int .i64 sl, .int .i64 ot, .bool lo])
 have z0 : W0.heap.size = W.heap.size + 1 := by rw [hW0]; simp
 have HW0 := aP (h.keep hk0)
 have HP0 := aP (Put.refl B W0)
 have hT : stmtT (f + 1) tabs st = (((catL [wordL.getD 3 ⟨#[]⟩] ++ cellT 24 st.name st.index) ++ catL [⟨#[32, 61, 32]⟩]) ++ exprT 24 0 st.expr) ++ catL [⟨#[59]⟩] := by rw [stmtT, hk] <;> rfl
 rw [hT] at hlen
 have HT := aP hT
 clear hT hk
 have q := h.cell (hws 3 _ rfl)
 have qb := block_lt_of q
 have HC1 := aP (HW0.out.lit [wordL.getD 3 ⟨#[]⟩] (by simp only [ByteArray.size_append] at hlen ⊢; omega))
 have HH := aP h
 have HK0 := aP hk0
 have hlt := h.lt
 clear h hk0
 go_enter Tryz.func141, Tryz.ntmps141
 go_wp2_with fail
 rw [← hW0, ← z0]
 have l0 : W.heap.size < W0.heap.size := by omega
 clear hW0 z0
 refine (HC1.out).mono ?_
 rintro e W1 ⟨rfl, hw1, hp1⟩
 clear q
 have HE1 := aP (hp1.cells HW0.out.at_ HE0.out kom (by decide))
 have HP1 := aP hp1
 have HW1 := aP hw1
 clear hw1 hp1
 have p0 := HE1.out.cell 0
 simp only [aZ] at p0
 have p3 := HE1.out.cell 3; have p12 := HE1.out.cell 12; have p13 := HE1.out.cell 13; have p14 := HE1.out.cell 14; have p15 := HE1.out.cell 15; have p16 := HE1.out.cell 16; have p17 := HE1.out.cell 17; have p18 := HE1.out.cell 18
 simp only [aS, aZ] at p3 p12 p13 p14 p15 p16 p17 p18
 have HC2 := aP (cell_step (pexpr_all w0 B 24) W1 _ st.name st.index _ HW1.out hx hmx (by simp only [ByteArray.size_append] at hlen ⊢; omega))
 go_wp2_with fail
 refine (HC2.out).mono ?_
 rintro e W2 ⟨rfl, hw2, hp2⟩
 clear p3 p12 p13 p14 p15 p16 p17 p18
 have HE2 := aP (hp2.cells HW1.out.at_ HE1.out kom (by decide))
 have HP2 := aP (HP1.out.trans hp2 HW0.out.at_)
 have HW2 := aP hw2
 clear hw2 hp2
 have HC3 := aP (HW2.out.lit [⟨#[32, 61, 32]⟩] (by simp only [ByteArray.size_append] at hlen ⊢; omega))
 go_wp2_with fail
 refine (HC3.out).mono ?_
 rintro e W3 ⟨rfl, hw3, hp3⟩
 have HE3 := aP (hp3.cells HW2.out.at_ HE2.out kom (by decide))
 have HP3 := aP (HP2.out.trans hp3 HW0.out.at_)
 have HW3 := aP hw3
 clear hw3 hp3
 have p5 := HE3.out.cell 5; have p6 := HE3.out.cell 6; have p7 := HE3.out.cell 7; have p8 := HE3.out.cell 8; have p9 := HE3.out.cell 9; have p10 := HE3.out.cell 10; have p11 := HE3.out.cell 11
 simp only [aS, aZ] at p5 p6 p7 p8 p9 p10 p11
 have HC4 := aP (pexpr_all w0 B 24 W3 _ 0 st.expr _ HW3.out he hme (by decide) (by simp only [ByteArray.size_append] at hlen ⊢; omega))
 go_wp2_with fail
 refine (HC4.out).mono ?_
 rintro e W4 ⟨rfl, hw4, hp4⟩
 clear p5 p6 p7 p8 p9 p10 p11
 have HE4 := aP (hp4.cells HW3.out.at_ HE3.out kom (by decide))
 have HP4 := aP (HP3.out.trans hp4 HW0.out.at_)
 have HW4 := aP hw4
 clear hw4 hp4
 have HC5 := aP (HW4.out.lit [⟨#[59]⟩] (by simp only [ByteArray.size_append] at hlen ⊢; omega))
 go_wp2_with fail
 refine (HC5.out).mono ?_
 rintro e W5 ⟨rfl, hw5, hp5⟩
 have HE5 := aP (hp5.cells HW4.out.at_ HE4.out kom (by decide))
 have HP5 := aP (HP4.out.trans hp5 HW0.out.at_)
 have HW5 := aP hw5
 clear hw5 hp5
 go_wp2
 go_end0
 refine ⟨rfl, ?_, Put.pre HH.out.at_ HK0.out HP5.out⟩
 rw [HT.out]
 simpa only [ByteArray.append_assoc] using HW5.out
theorem pstmt_6 (hws : WordsAt w0) (h : PW w0 B W s) (hk : st.kind = 6) (hlen : s.size + (stmtT (f + 1) tabs st).size ≤ most) :
  Calls Tryz.prog 141 #[.pointer (some ⟨B, 0, none⟩), .agg #[.int .i64 6, .int .i64 st.line, .int .i64 st.col, .string st.name, .string st.oth, e0, e1, e2, e3, e4, e5, e6, x0, x1, x2, x3, x4, x5, x6, vb, vl, .int .i64 i, .int .i64 sl, .int .i64 ot, .bool lo], .int .i64 (tabs : Nat)] W (Wrote w0 B W (s ++ stmtT (f + 1) tabs st)) := by
 obtain ⟨W0, hW0⟩ : ∃ W0, W0 = W.alloc (.cells #[.int .i64 6, .int .i64 st.line, .int .i64 st.col, .string st.name, .string st.oth, e0, e1, e2, e3, e4, e5, e6, x0, x1, x2, x3, x4, x5, x6, vb, vl, .int .i64 i, .int .i64 sl, .int .i64 ot, .bool lo] 63) := ⟨_, rfl⟩
 have hk0 : Kept noX W W0 := by rw [hW0]; exact (Kept.refl _ _).alloc _
 have HE0 := aP (show Cells W0 W.heap.size 63 [.int .i64 6, .int .i64 st.line, .int .i64 st.col, .string st.name, .string st.oth, e0, e1, e2, e3, e4, e5, e6, x0, x1, x2, x3, x4, x5, x6, vb, vl, .int .i64 i, .int .i64 sl, .int .i64 ot, .bool lo] from by rw [hW0]; exact Cells.fresh W 63 [.int .i64 6, .int .i64 st.line, .int .i64 st.col, .string st.name, .string st.oth, e0, e1, e2, e3, e4, e5, e6, x0, x1, x2, x3, x4, x5, x6, vb, vl, .int .i64 i, .int .i64 sl, .int .i64 ot, .bool lo])
 have z0 : W0.heap.size = W.heap.size + 1 := by rw [hW0]; simp
 have HW0 := aP (h.keep hk0)
 have HP0 := aP (Put.refl B W0)
 have hT : stmtT (f + 1) tabs st = (catL [wordL.getD 6 ⟨#[]⟩] ++ catL [⟨#[32]⟩, st.name]) ++ catL [⟨#[59]⟩] := by rw [stmtT, hk] <;> rfl
 rw [hT] at hlen
 have HT := aP hT
 clear hT hk
 have q := h.cell (hws 6 _ rfl)
 have qb := block_lt_of q
 have HC1 := aP (HW0.out.lit [wordL.getD 6 ⟨#[]⟩] (by simp only [ByteArray.size_append] at hlen ⊢; omega))
 have HH := aP h
 have HK0 := aP hk0
 have hlt := h.lt
 clear h hk0
 go_enter Tryz.func141, Tryz.ntmps141
 go_wp2_with fail
 rw [← hW0, ← z0]
 have l0 : W.heap.size < W0.heap.size := by omega
 clear hW0 z0
 refine (HC1.out).mono ?_
 rintro e W1 ⟨rfl, hw1, hp1⟩
 clear q
 have HE1 := aP (hp1.cells HW0.out.at_ HE0.out kom (by decide))
 have HP1 := aP hp1
 have HW1 := aP hw1
 clear hw1 hp1
 have p0 := HE1.out.cell 0
 simp only [aZ] at p0
 have p3 := HE1.out.cell 3
 simp only [aS, aZ] at p3
 have HC2 := aP (HW1.out.lit [⟨#[32]⟩, st.name] (by simp only [ByteArray.size_append] at hlen ⊢; omega))
 go_wp2_with fail
 refine (HC2.out).mono ?_
 rintro e W2 ⟨rfl, hw2, hp2⟩
 clear p3
 have HE2 := aP (hp2.cells HW1.out.at_ HE1.out kom (by decide))
 have HP2 := aP (HP1.out.trans hp2 HW0.out.at_)
 have HW2 := aP hw2
 clear hw2 hp2
 have HC3 := aP (HW2.out.lit [⟨#[59]⟩] (by simp only [ByteArray.size_append] at hlen ⊢; omega))
 go_wp2_with fail
 refine (HC3.out).mono ?_
 rintro e W3 ⟨rfl, hw3, hp3⟩
 have HE3 := aP (hp3.cells HW2.out.at_ HE2.out kom (by decide))
 have HP3 := aP (HP2.out.trans hp3 HW0.out.at_)
 have HW3 := aP hw3
 clear hw3 hp3
 go_wp2
 go_end0
 refine ⟨rfl, ?_, Put.pre HH.out.at_ HK0.out HP3.out⟩
 rw [HT.out]
 simpa only [ByteArray.append_assoc] using HW3.out
theorem pstmt_7 (hws : WordsAt w0) (h : PW w0 B W s) (hk : st.kind = 7) (hlen : s.size + (stmtT (f + 1) tabs st).size ≤ most) :
  Calls Tryz.prog 141 #[.pointer (some ⟨B, 0, none⟩), .agg #[.int .i64 7, .int .i64 st.line, .int .i64 st.col, .string st.name, .string st.oth, e0, e1, e2, e3, e4, e5, e6, x0, x1, x2, x3, x4, x5, x6, vb, vl, .int .i64 i, .int .i64 sl, .int .i64 ot, .bool lo], .int .i64 (tabs : Nat)] W (Wrote w0 B W (s ++ stmtT (f + 1) tabs st)) := by
 obtain ⟨W0, hW0⟩ : ∃ W0, W0 = W.alloc (.cells #[.int .i64 7, .int .i64 st.line, .int .i64 st.col, .string st.name, .string st.oth, e0, e1, e2, e3, e4, e5, e6, x0, x1, x2, x3, x4, x5, x6, vb, vl, .int .i64 i, .int .i64 sl, .int .i64 ot, .bool lo] 63) := ⟨_, rfl⟩
 have hk0 : Kept noX W W0 := by rw [hW0]; exact (Kept.refl _ _).alloc _
 have HE0 := aP (show Cells W0 W.heap.size 63 [.int .i64 7, .int .i64 st.line, .int .i64 st.col, .string st.name, .string st.oth, e0, e1, e2, e3, e4, e5, e6, x0, x1, x2, x3, x4, x5, x6, vb, vl, .int .i64 i, .int .i64 sl, .int .i64 ot, .bool lo] from by rw [hW0]; exact Cells.fresh W 63 [.int .i64 7, .int .i64 st.line, .int .i64 st.col, .string st.name, .string st.oth, e0, e1, e2, e3, e4, e5, e6, x0, x1, x2, x3, x4, x5, x6, vb, vl, .int .i64 i, .int .i64 sl, .int .i64 ot, .bool lo])
 have z0 : W0.heap.size = W.heap.size + 1 := by rw [hW0]; simp
 have HW0 := aP (h.keep hk0)
 have HP0 := aP (Put.refl B W0)
 have hT : stmtT (f + 1) tabs st = (catL [wordL.getD 7 ⟨#[]⟩] ++ catL [⟨#[32]⟩, st.name]) ++ catL [⟨#[59]⟩] := by rw [stmtT, hk] <;> rfl
 rw [hT] at hlen
 have HT := aP hT
 clear hT hk
 have q := h.cell (hws 7 _ rfl)
 have qb := block_lt_of q
 have HC1 := aP (HW0.out.lit [wordL.getD 7 ⟨#[]⟩] (by simp only [ByteArray.size_append] at hlen ⊢; omega))
 have HH := aP h
 have HK0 := aP hk0
 have hlt := h.lt
 clear h hk0
 go_enter Tryz.func141, Tryz.ntmps141
 go_wp2_with fail
 rw [← hW0, ← z0]
 have l0 : W.heap.size < W0.heap.size := by omega
 clear hW0 z0
 refine (HC1.out).mono ?_
 rintro e W1 ⟨rfl, hw1, hp1⟩
 clear q
 have HE1 := aP (hp1.cells HW0.out.at_ HE0.out kom (by decide))
 have HP1 := aP hp1
 have HW1 := aP hw1
 clear hw1 hp1
 have p0 := HE1.out.cell 0
 simp only [aZ] at p0
 have p3 := HE1.out.cell 3
 simp only [aS, aZ] at p3
 have HC2 := aP (HW1.out.lit [⟨#[32]⟩, st.name] (by simp only [ByteArray.size_append] at hlen ⊢; omega))
 go_wp2_with fail
 refine (HC2.out).mono ?_
 rintro e W2 ⟨rfl, hw2, hp2⟩
 clear p3
 have HE2 := aP (hp2.cells HW1.out.at_ HE1.out kom (by decide))
 have HP2 := aP (HP1.out.trans hp2 HW0.out.at_)
 have HW2 := aP hw2
 clear hw2 hp2
 have HC3 := aP (HW2.out.lit [⟨#[59]⟩] (by simp only [ByteArray.size_append] at hlen ⊢; omega))
 go_wp2_with fail
 refine (HC3.out).mono ?_
 rintro e W3 ⟨rfl, hw3, hp3⟩
 have HE3 := aP (hp3.cells HW2.out.at_ HE2.out kom (by decide))
 have HP3 := aP (HP2.out.trans hp3 HW0.out.at_)
 have HW3 := aP hw3
 clear hw3 hp3
 go_wp2
 go_end0
 refine ⟨rfl, ?_, Put.pre HH.out.at_ HK0.out HP3.out⟩
 rw [HT.out]
 simpa only [ByteArray.append_assoc] using HW3.out
theorem pstmt_8 (hws : WordsAt w0) (h : PW w0 B W s) (hk : st.kind = 8) (hlen : s.size + (stmtT (f + 1) tabs st).size ≤ most) :
  Calls Tryz.prog 141 #[.pointer (some ⟨B, 0, none⟩), .agg #[.int .i64 8, .int .i64 st.line, .int .i64 st.col, .string st.name, .string st.oth, e0, e1, e2, e3, e4, e5, e6, x0, x1, x2, x3, x4, x5, x6, vb, vl, .int .i64 i, .int .i64 sl, .int .i64 ot, .bool lo], .int .i64 (tabs : Nat)] W (Wrote w0 B W (s ++ stmtT (f + 1) tabs st)) := by
 obtain ⟨W0, hW0⟩ : ∃ W0, W0 = W.alloc (.cells #[.int .i64 8, .int .i64 st.line, .int .i64 st.col, .string st.name, .string st.oth, e0, e1, e2, e3, e4, e5, e6, x0, x1, x2, x3, x4, x5, x6, vb, vl, .int .i64 i, .int .i64 sl, .int .i64 ot, .bool lo] 63) := ⟨_, rfl⟩
 have hk0 : Kept noX W W0 := by rw [hW0]; exact (Kept.refl _ _).alloc _
 have HE0 := aP (show Cells W0 W.heap.size 63 [.int .i64 8, .int .i64 st.line, .int .i64 st.col, .string st.name, .string st.oth, e0, e1, e2, e3, e4, e5, e6, x0, x1, x2, x3, x4, x5, x6, vb, vl, .int .i64 i, .int .i64 sl, .int .i64 ot, .bool lo] from by rw [hW0]; exact Cells.fresh W 63 [.int .i64 8, .int .i64 st.line, .int .i64 st.col, .string st.name, .string st.oth, e0, e1, e2, e3, e4, e5, e6, x0, x1, x2, x3, x4, x5, x6, vb, vl, .int .i64 i, .int .i64 sl, .int .i64 ot, .bool lo])
 have z0 : W0.heap.size = W.heap.size + 1 := by rw [hW0]; simp
 have HW0 := aP (h.keep hk0)
 have HP0 := aP (Put.refl B W0)
 have hT : stmtT (f + 1) tabs st = (catL [wordL.getD 8 ⟨#[]⟩] ++ catL [⟨#[32]⟩, st.name, ⟨#[32]⟩, st.oth]) ++ catL [⟨#[59]⟩] := by rw [stmtT, hk] <;> rfl
 rw [hT] at hlen
 have HT := aP hT
 clear hT hk
 have q := h.cell (hws 8 _ rfl)
 have qb := block_lt_of q
 have HC1 := aP (HW0.out.lit [wordL.getD 8 ⟨#[]⟩] (by simp only [ByteArray.size_append] at hlen ⊢; omega))
 have HH := aP h
 have HK0 := aP hk0
 have hlt := h.lt
 clear h hk0
 go_enter Tryz.func141, Tryz.ntmps141
 go_wp2_with fail
 rw [← hW0, ← z0]
 have l0 : W.heap.size < W0.heap.size := by omega
 clear hW0 z0
 refine (HC1.out).mono ?_
 rintro e W1 ⟨rfl, hw1, hp1⟩
 clear q
 have HE1 := aP (hp1.cells HW0.out.at_ HE0.out kom (by decide))
 have HP1 := aP hp1
 have HW1 := aP hw1
 clear hw1 hp1
 have p0 := HE1.out.cell 0
 simp only [aZ] at p0
 have p3 := HE1.out.cell 3; have p4 := HE1.out.cell 4
 simp only [aS, aZ] at p3 p4
 have HC2 := aP (HW1.out.lit [⟨#[32]⟩, st.name, ⟨#[32]⟩, st.oth] (by simp only [ByteArray.size_append] at hlen ⊢; omega))
 go_wp2_with fail
 refine (HC2.out).mono ?_
 rintro e W2 ⟨rfl, hw2, hp2⟩
 clear p3 p4
 have HE2 := aP (hp2.cells HW1.out.at_ HE1.out kom (by decide))
 have HP2 := aP (HP1.out.trans hp2 HW0.out.at_)
 have HW2 := aP hw2
 clear hw2 hp2
 have HC3 := aP (HW2.out.lit [⟨#[59]⟩] (by simp only [ByteArray.size_append] at hlen ⊢; omega))
 go_wp2_with fail
 refine (HC3.out).mono ?_
 rintro e W3 ⟨rfl, hw3, hp3⟩
 have HE3 := aP (hp3.cells HW2.out.at_ HE2.out kom (by decide))
 have HP3 := aP (HP2.out.trans hp3 HW0.out.at_)
 have HW3 := aP hw3
 clear hw3 hp3
 go_wp2
 go_end0
 refine ⟨rfl, ?_, Put.pre HH.out.at_ HK0.out HP3.out⟩
 rw [HT.out]
 simpa only [ByteArray.append_assoc] using HW3.out
theorem pstmt_9 (hws : WordsAt w0) (h : PW w0 B W s) (hk : st.kind = 9) (hlen : s.size + (stmtT (f + 1) tabs st).size ≤ most) :
  Calls Tryz.prog 141 #[.pointer (some ⟨B, 0, none⟩), .agg #[.int .i64 9, .int .i64 st.line, .int .i64 st.col, .string st.name, .string st.oth, e0, e1, e2, e3, e4, e5, e6, x0, x1, x2, x3, x4, x5, x6, vb, vl, .int .i64 i, .int .i64 sl, .int .i64 ot, .bool lo], .int .i64 (tabs : Nat)] W (Wrote w0 B W (s ++ stmtT (f + 1) tabs st)) := by
 obtain ⟨W0, hW0⟩ : ∃ W0, W0 = W.alloc (.cells #[.int .i64 9, .int .i64 st.line, .int .i64 st.col, .string st.name, .string st.oth, e0, e1, e2, e3, e4, e5, e6, x0, x1, x2, x3, x4, x5, x6, vb, vl, .int .i64 i, .int .i64 sl, .int .i64 ot, .bool lo] 63) := ⟨_, rfl⟩
 have hk0 : Kept noX W W0 := by rw [hW0]; exact (Kept.refl _ _).alloc _
 have HE0 := aP (show Cells W0 W.heap.size 63 [.int .i64 9, .int .i64 st.line, .int .i64 st.col, .string st.name, .string st.oth, e0, e1, e2, e3, e4, e5, e6, x0, x1, x2, x3, x4, x5, x6, vb, vl, .int .i64 i, .int .i64 sl, .int .i64 ot, .bool lo] from by rw [hW0]; exact Cells.fresh W 63 [.int .i64 9, .int .i64 st.line, .int .i64 st.col, .string st.name, .string st.oth, e0, e1, e2, e3, e4, e5, e6, x0, x1, x2, x3, x4, x5, x6, vb, vl, .int .i64 i, .int .i64 sl, .int .i64 ot, .bool lo])
 have z0 : W0.heap.size = W.heap.size + 1 := by rw [hW0]; simp
 have HW0 := aP (h.keep hk0)
 have HP0 := aP (Put.refl B W0)
 have hT : stmtT (f + 1) tabs st = (catL [wordL.getD 9 ⟨#[]⟩] ++ catL [⟨#[32]⟩, st.name]) ++ catL [⟨#[59]⟩] := by rw [stmtT, hk] <;> rfl
 rw [hT] at hlen
 have HT := aP hT
 clear hT hk
 have q := h.cell (hws 9 _ rfl)
 have qb := block_lt_of q
 have HC1 := aP (HW0.out.lit [wordL.getD 9 ⟨#[]⟩] (by simp only [ByteArray.size_append] at hlen ⊢; omega))
 have HH := aP h
 have HK0 := aP hk0
 have hlt := h.lt
 clear h hk0
 go_enter Tryz.func141, Tryz.ntmps141
 go_wp2_with fail
 rw [← hW0, ← z0]
 have l0 : W.heap.size < W0.heap.size := by omega
 clear hW0 z0
 refine (HC1.out).mono ?_
 rintro e W1 ⟨rfl, hw1, hp1⟩
 clear q
 have HE1 := aP (hp1.cells HW0.out.at_ HE0.out kom (by decide))
 have HP1 := aP hp1
 have HW1 := aP hw1
 clear hw1 hp1
 have p0 := HE1.out.cell 0
 simp only [aZ] at p0
 have p3 := HE1.out.cell 3
 simp only [aS, aZ] at p3
 have HC2 := aP (HW1.out.lit [⟨#[32]⟩, st.name] (by simp only [ByteArray.size_append] at hlen ⊢; omega))
 go_wp2_with fail
 refine (HC2.out).mono ?_
 rintro e W2 ⟨rfl, hw2, hp2⟩
 clear p3
 have HE2 := aP (hp2.cells HW1.out.at_ HE1.out kom (by decide))
 have HP2 := aP (HP1.out.trans hp2 HW0.out.at_)
 have HW2 := aP hw2
 clear hw2 hp2
 have HC3 := aP (HW2.out.lit [⟨#[59]⟩] (by simp only [ByteArray.size_append] at hlen ⊢; omega))
 go_wp2_with fail
 refine (HC3.out).mono ?_
 rintro e W3 ⟨rfl, hw3, hp3⟩
 have HE3 := aP (hp3.cells HW2.out.at_ HE2.out kom (by decide))
 have HP3 := aP (HP2.out.trans hp3 HW0.out.at_)
 have HW3 := aP hw3
 clear hw3 hp3
 go_wp2
 go_end0
 refine ⟨rfl, ?_, Put.pre HH.out.at_ HK0.out HP3.out⟩
 rw [HT.out]
 simpa only [ByteArray.append_assoc] using HW3.out
theorem pstmt_10 (hws : WordsAt w0) (h : PW w0 B W s) (hk : st.kind = 10) (hlen : s.size + (stmtT (f + 1) tabs st).size ≤ most) :
  Calls Tryz.prog 141 #[.pointer (some ⟨B, 0, none⟩), .agg #[.int .i64 10, .int .i64 st.line, .int .i64 st.col, .string st.name, .string st.oth, e0, e1, e2, e3, e4, e5, e6, x0, x1, x2, x3, x4, x5, x6, vb, vl, .int .i64 i, .int .i64 sl, .int .i64 ot, .bool lo], .int .i64 (tabs : Nat)] W (Wrote w0 B W (s ++ stmtT (f + 1) tabs st)) := by
 obtain ⟨W0, hW0⟩ : ∃ W0, W0 = W.alloc (.cells #[.int .i64 10, .int .i64 st.line, .int .i64 st.col, .string st.name, .string st.oth, e0, e1, e2, e3, e4, e5, e6, x0, x1, x2, x3, x4, x5, x6, vb, vl, .int .i64 i, .int .i64 sl, .int .i64 ot, .bool lo] 63) := ⟨_, rfl⟩
 have hk0 : Kept noX W W0 := by rw [hW0]; exact (Kept.refl _ _).alloc _
 have HE0 := aP (show Cells W0 W.heap.size 63 [.int .i64 10, .int .i64 st.line, .int .i64 st.col, .string st.name, .string st.oth, e0, e1, e2, e3, e4, e5, e6, x0, x1, x2, x3, x4, x5, x6, vb, vl, .int .i64 i, .int .i64 sl, .int .i64 ot, .bool lo] from by rw [hW0]; exact Cells.fresh W 63 [.int .i64 10, .int .i64 st.line, .int .i64 st.col, .string st.name, .string st.oth, e0, e1, e2, e3, e4, e5, e6, x0, x1, x2, x3, x4, x5, x6, vb, vl, .int .i64 i, .int .i64 sl, .int .i64 ot, .bool lo])
 have z0 : W0.heap.size = W.heap.size + 1 := by rw [hW0]; simp
 have HW0 := aP (h.keep hk0)
 have HP0 := aP (Put.refl B W0)
 have hT : stmtT (f + 1) tabs st = (catL [wordL.getD 10 ⟨#[]⟩] ++ catL [⟨#[32]⟩, st.name]) ++ catL [⟨#[59]⟩] := by rw [stmtT, hk] <;> rfl
 rw [hT] at hlen
 have HT := aP hT
 clear hT hk
 have q := h.cell (hws 10 _ rfl)
 have qb := block_lt_of q
 have HC1 := aP (HW0.out.lit [wordL.getD 10 ⟨#[]⟩] (by simp only [ByteArray.size_append] at hlen ⊢; omega))
 have HH := aP h
 have HK0 := aP hk0
 have hlt := h.lt
 clear h hk0
 go_enter Tryz.func141, Tryz.ntmps141
 go_wp2_with fail
 rw [← hW0, ← z0]
 have l0 : W.heap.size < W0.heap.size := by omega
 clear hW0 z0
 refine (HC1.out).mono ?_
 rintro e W1 ⟨rfl, hw1, hp1⟩
 clear q
 have HE1 := aP (hp1.cells HW0.out.at_ HE0.out kom (by decide))
 have HP1 := aP hp1
 have HW1 := aP hw1
 clear hw1 hp1
 have p0 := HE1.out.cell 0
 simp only [aZ] at p0
 have p3 := HE1.out.cell 3
 simp only [aS, aZ] at p3
 have HC2 := aP (HW1.out.lit [⟨#[32]⟩, st.name] (by simp only [ByteArray.size_append] at hlen ⊢; omega))
 go_wp2_with fail
 refine (HC2.out).mono ?_
 rintro e W2 ⟨rfl, hw2, hp2⟩
 clear p3
 have HE2 := aP (hp2.cells HW1.out.at_ HE1.out kom (by decide))
 have HP2 := aP (HP1.out.trans hp2 HW0.out.at_)
 have HW2 := aP hw2
 clear hw2 hp2
 have HC3 := aP (HW2.out.lit [⟨#[59]⟩] (by simp only [ByteArray.size_append] at hlen ⊢; omega))
 go_wp2_with fail
 refine (HC3.out).mono ?_
 rintro e W3 ⟨rfl, hw3, hp3⟩
 have HE3 := aP (hp3.cells HW2.out.at_ HE2.out kom (by decide))
 have HP3 := aP (HP2.out.trans hp3 HW0.out.at_)
 have HW3 := aP hw3
 clear hw3 hp3
 go_wp2
 go_end0
 refine ⟨rfl, ?_, Put.pre HH.out.at_ HK0.out HP3.out⟩
 rw [HT.out]
 simpa only [ByteArray.append_assoc] using HW3.out
theorem pstmt_11 (hws : WordsAt w0) (h : PW w0 B W s) (hk : st.kind = 11) (he : EV w0 noX [e0, e1, e2, e3, e4, e5, e6] st.expr) (hme : mayE 24 st.expr = true) (hlen : s.size + (stmtT (f + 1) tabs st).size ≤ most) :
  Calls Tryz.prog 141 #[.pointer (some ⟨B, 0, none⟩), .agg #[.int .i64 11, .int .i64 st.line, .int .i64 st.col, .string st.name, .string st.oth, e0, e1, e2, e3, e4, e5, e6, x0, x1, x2, x3, x4, x5, x6, vb, vl, .int .i64 i, .int .i64 sl, .int .i64 ot, .bool lo], .int .i64 (tabs : Nat)] W (Wrote w0 B W (s ++ stmtT (f + 1) tabs st)) := by
 obtain ⟨W0, hW0⟩ : ∃ W0, W0 = W.alloc (.cells #[.int .i64 11, .int .i64 st.line, .int .i64 st.col, .string st.name, .string st.oth, e0, e1, e2, e3, e4, e5, e6, x0, x1, x2, x3, x4, x5, x6, vb, vl, .int .i64 i, .int .i64 sl, .int .i64 ot, .bool lo] 63) := ⟨_, rfl⟩
 have hk0 : Kept noX W W0 := by rw [hW0]; exact (Kept.refl _ _).alloc _
 have HE0 := aP (show Cells W0 W.heap.size 63 [.int .i64 11, .int .i64 st.line, .int .i64 st.col, .string st.name, .string st.oth, e0, e1, e2, e3, e4, e5, e6, x0, x1, x2, x3, x4, x5, x6, vb, vl, .int .i64 i, .int .i64 sl, .int .i64 ot, .bool lo] from by rw [hW0]; exact Cells.fresh W 63 [.int .i64 11, .int .i64 st.line, .int .i64 st.col, .string st.name, .string st.oth, e0, e1, e2, e3, e4, e5, e6, x0, x1, x2, x3, x4, x5, x6, vb, vl, .int .i64 i, .int .i64 sl, .int .i64 ot, .bool lo])
 have z0 : W0.heap.size = W.heap.size + 1 := by rw [hW0]; simp
 have HW0 := aP (h.keep hk0)
 have HP0 := aP (Put.refl B W0)
 have hT : stmtT (f + 1) tabs st = ((catL [wordL.getD 11 ⟨#[]⟩] ++ catL [⟨#[32]⟩, st.name, ⟨#[32]⟩]) ++ exprT 24 0 st.expr) ++ catL [⟨#[59]⟩] := by rw [stmtT, hk] <;> rfl
 rw [hT] at hlen
 have HT := aP hT
 clear hT hk
 have q := h.cell (hws 11 _ rfl)
 have qb := block_lt_of q
 have HC1 := aP (HW0.out.lit [wordL.getD 11 ⟨#[]⟩] (by simp only [ByteArray.size_append] at hlen ⊢; omega))
 have HH := aP h
 have HK0 := aP hk0
 have hlt := h.lt
 clear h hk0
 go_enter Tryz.func141, Tryz.ntmps141
 go_wp2_with fail
 rw [← hW0, ← z0]
 have l0 : W.heap.size < W0.heap.size := by omega
 clear hW0 z0
 refine (HC1.out).mono ?_
 rintro e W1 ⟨rfl, hw1, hp1⟩
 clear q
 have HE1 := aP (hp1.cells HW0.out.at_ HE0.out kom (by decide))
 have HP1 := aP hp1
 have HW1 := aP hw1
 clear hw1 hp1
 have p0 := HE1.out.cell 0
 simp only [aZ] at p0
 have p3 := HE1.out.cell 3
 simp only [aS, aZ] at p3
 have HC2 := aP (HW1.out.lit [⟨#[32]⟩, st.name, ⟨#[32]⟩] (by simp only [ByteArray.size_append] at hlen ⊢; omega))
 go_wp2_with fail
 refine (HC2.out).mono ?_
 rintro e W2 ⟨rfl, hw2, hp2⟩
 clear p3
 have HE2 := aP (hp2.cells HW1.out.at_ HE1.out kom (by decide))
 have HP2 := aP (HP1.out.trans hp2 HW0.out.at_)
 have HW2 := aP hw2
 clear hw2 hp2
 have p5 := HE2.out.cell 5; have p6 := HE2.out.cell 6; have p7 := HE2.out.cell 7; have p8 := HE2.out.cell 8; have p9 := HE2.out.cell 9; have p10 := HE2.out.cell 10; have p11 := HE2.out.cell 11
 simp only [aS, aZ] at p5 p6 p7 p8 p9 p10 p11
 have HC3 := aP (pexpr_all w0 B 24 W2 _ 0 st.expr _ HW2.out he hme (by decide) (by simp only [ByteArray.size_append] at hlen ⊢; omega))
 go_wp2_with fail
 refine (HC3.out).mono ?_
 rintro e W3 ⟨rfl, hw3, hp3⟩
 clear p5 p6 p7 p8 p9 p10 p11
 have HE3 := aP (hp3.cells HW2.out.at_ HE2.out kom (by decide))
 have HP3 := aP (HP2.out.trans hp3 HW0.out.at_)
 have HW3 := aP hw3
 clear hw3 hp3
 have HC4 := aP (HW3.out.lit [⟨#[59]⟩] (by simp only [ByteArray.size_append] at hlen ⊢; omega))
 go_wp2_with fail
 refine (HC4.out).mono ?_
 rintro e W4 ⟨rfl, hw4, hp4⟩
 have HE4 := aP (hp4.cells HW3.out.at_ HE3.out kom (by decide))
 have HP4 := aP (HP3.out.trans hp4 HW0.out.at_)
 have HW4 := aP hw4
 clear hw4 hp4
 go_wp2
 go_end0
 refine ⟨rfl, ?_, Put.pre HH.out.at_ HK0.out HP4.out⟩
 rw [HT.out]
 simpa only [ByteArray.append_assoc] using HW4.out
theorem pstmt_12 (hws : WordsAt w0) (h : PW w0 B W s) (hk : st.kind = 12) (hlen : s.size + (stmtT (f + 1) tabs st).size ≤ most) :
  Calls Tryz.prog 141 #[.pointer (some ⟨B, 0, none⟩), .agg #[.int .i64 12, .int .i64 st.line, .int .i64 st.col, .string st.name, .string st.oth, e0, e1, e2, e3, e4, e5, e6, x0, x1, x2, x3, x4, x5, x6, vb, vl, .int .i64 i, .int .i64 sl, .int .i64 ot, .bool lo], .int .i64 (tabs : Nat)] W (Wrote w0 B W (s ++ stmtT (f + 1) tabs st)) := by
 obtain ⟨W0, hW0⟩ : ∃ W0, W0 = W.alloc (.cells #[.int .i64 12, .int .i64 st.line, .int .i64 st.col, .string st.name, .string st.oth, e0, e1, e2, e3, e4, e5, e6, x0, x1, x2, x3, x4, x5, x6, vb, vl, .int .i64 i, .int .i64 sl, .int .i64 ot, .bool lo] 63) := ⟨_, rfl⟩
 have hk0 : Kept noX W W0 := by rw [hW0]; exact (Kept.refl _ _).alloc _
 have HE0 := aP (show Cells W0 W.heap.size 63 [.int .i64 12, .int .i64 st.line, .int .i64 st.col, .string st.name, .string st.oth, e0, e1, e2, e3, e4, e5, e6, x0, x1, x2, x3, x4, x5, x6, vb, vl, .int .i64 i, .int .i64 sl, .int .i64 ot, .bool lo] from by rw [hW0]; exact Cells.fresh W 63 [.int .i64 12, .int .i64 st.line, .int .i64 st.col, .string st.name, .string st.oth, e0, e1, e2, e3, e4, e5, e6, x0, x1, x2, x3, x4, x5, x6, vb, vl, .int .i64 i, .int .i64 sl, .int .i64 ot, .bool lo])
 have z0 : W0.heap.size = W.heap.size + 1 := by rw [hW0]; simp
 have HW0 := aP (h.keep hk0)
 have HP0 := aP (Put.refl B W0)
 have hT : stmtT (f + 1) tabs st = (catL [wordL.getD 12 ⟨#[]⟩] ++ catL [⟨#[32]⟩, st.name, ⟨#[32]⟩, st.oth]) ++ catL [⟨#[59]⟩] := by rw [stmtT, hk] <;> rfl
 rw [hT] at hlen
 have HT := aP hT
 clear hT hk
 have q := h.cell (hws 12 _ rfl)
 have qb := block_lt_of q
 have HC1 := aP (HW0.out.lit [wordL.getD 12 ⟨#[]⟩] (by simp only [ByteArray.size_append] at hlen ⊢; omega))
 have HH := aP h
 have HK0 := aP hk0
 have hlt := h.lt
 clear h hk0
 go_enter Tryz.func141, Tryz.ntmps141
 go_wp2_with fail
 rw [← hW0, ← z0]
 have l0 : W.heap.size < W0.heap.size := by omega
 clear hW0 z0
 refine (HC1.out).mono ?_
 rintro e W1 ⟨rfl, hw1, hp1⟩
 clear q
 have HE1 := aP (hp1.cells HW0.out.at_ HE0.out kom (by decide))
 have HP1 := aP hp1
 have HW1 := aP hw1
 clear hw1 hp1
 have p0 := HE1.out.cell 0
 simp only [aZ] at p0
 have p3 := HE1.out.cell 3; have p4 := HE1.out.cell 4
 simp only [aS, aZ] at p3 p4
 have HC2 := aP (HW1.out.lit [⟨#[32]⟩, st.name, ⟨#[32]⟩, st.oth] (by simp only [ByteArray.size_append] at hlen ⊢; omega))
 go_wp2_with fail
 refine (HC2.out).mono ?_
 rintro e W2 ⟨rfl, hw2, hp2⟩
 clear p3 p4
 have HE2 := aP (hp2.cells HW1.out.at_ HE1.out kom (by decide))
 have HP2 := aP (HP1.out.trans hp2 HW0.out.at_)
 have HW2 := aP hw2
 clear hw2 hp2
 have HC3 := aP (HW2.out.lit [⟨#[59]⟩] (by simp only [ByteArray.size_append] at hlen ⊢; omega))
 go_wp2_with fail
 refine (HC3.out).mono ?_
 rintro e W3 ⟨rfl, hw3, hp3⟩
 have HE3 := aP (hp3.cells HW2.out.at_ HE2.out kom (by decide))
 have HP3 := aP (HP2.out.trans hp3 HW0.out.at_)
 have HW3 := aP hw3
 clear hw3 hp3
 go_wp2
 go_end0
 refine ⟨rfl, ?_, Put.pre HH.out.at_ HK0.out HP3.out⟩
 rw [HT.out]
 simpa only [ByteArray.append_assoc] using HW3.out
theorem pstmt_13 (hws : WordsAt w0) (h : PW w0 B W s) (hk : st.kind = 13) (hlen : s.size + (stmtT (f + 1) tabs st).size ≤ most) :
  Calls Tryz.prog 141 #[.pointer (some ⟨B, 0, none⟩), .agg #[.int .i64 13, .int .i64 st.line, .int .i64 st.col, .string st.name, .string st.oth, e0, e1, e2, e3, e4, e5, e6, x0, x1, x2, x3, x4, x5, x6, vb, vl, .int .i64 i, .int .i64 sl, .int .i64 ot, .bool lo], .int .i64 (tabs : Nat)] W (Wrote w0 B W (s ++ stmtT (f + 1) tabs st)) := by
 obtain ⟨W0, hW0⟩ : ∃ W0, W0 = W.alloc (.cells #[.int .i64 13, .int .i64 st.line, .int .i64 st.col, .string st.name, .string st.oth, e0, e1, e2, e3, e4, e5, e6, x0, x1, x2, x3, x4, x5, x6, vb, vl, .int .i64 i, .int .i64 sl, .int .i64 ot, .bool lo] 63) := ⟨_, rfl⟩
 have hk0 : Kept noX W W0 := by rw [hW0]; exact (Kept.refl _ _).alloc _
 have HE0 := aP (show Cells W0 W.heap.size 63 [.int .i64 13, .int .i64 st.line, .int .i64 st.col, .string st.name, .string st.oth, e0, e1, e2, e3, e4, e5, e6, x0, x1, x2, x3, x4, x5, x6, vb, vl, .int .i64 i, .int .i64 sl, .int .i64 ot, .bool lo] from by rw [hW0]; exact Cells.fresh W 63 [.int .i64 13, .int .i64 st.line, .int .i64 st.col, .string st.name, .string st.oth, e0, e1, e2, e3, e4, e5, e6, x0, x1, x2, x3, x4, x5, x6, vb, vl, .int .i64 i, .int .i64 sl, .int .i64 ot, .bool lo])
 have z0 : W0.heap.size = W.heap.size + 1 := by rw [hW0]; simp
 have HW0 := aP (h.keep hk0)
 have HP0 := aP (Put.refl B W0)
 have hT : stmtT (f + 1) tabs st = (catL [wordL.getD 13 ⟨#[]⟩] ++ catL [⟨#[32]⟩, st.name]) ++ catL [⟨#[59]⟩] := by rw [stmtT, hk] <;> rfl
 rw [hT] at hlen
 have HT := aP hT
 clear hT hk
 have q := h.cell (hws 13 _ rfl)
 have qb := block_lt_of q
 have HC1 := aP (HW0.out.lit [wordL.getD 13 ⟨#[]⟩] (by simp only [ByteArray.size_append] at hlen ⊢; omega))
 have HH := aP h
 have HK0 := aP hk0
 have hlt := h.lt
 clear h hk0
 go_enter Tryz.func141, Tryz.ntmps141
 go_wp2_with fail
 rw [← hW0, ← z0]
 have l0 : W.heap.size < W0.heap.size := by omega
 clear hW0 z0
 refine (HC1.out).mono ?_
 rintro e W1 ⟨rfl, hw1, hp1⟩
 clear q
 have HE1 := aP (hp1.cells HW0.out.at_ HE0.out kom (by decide))
 have HP1 := aP hp1
 have HW1 := aP hw1
 clear hw1 hp1
 have p0 := HE1.out.cell 0
 simp only [aZ] at p0
 have p3 := HE1.out.cell 3
 simp only [aS, aZ] at p3
 have HC2 := aP (HW1.out.lit [⟨#[32]⟩, st.name] (by simp only [ByteArray.size_append] at hlen ⊢; omega))
 go_wp2_with fail
 refine (HC2.out).mono ?_
 rintro e W2 ⟨rfl, hw2, hp2⟩
 clear p3
 have HE2 := aP (hp2.cells HW1.out.at_ HE1.out kom (by decide))
 have HP2 := aP (HP1.out.trans hp2 HW0.out.at_)
 have HW2 := aP hw2
 clear hw2 hp2
 have HC3 := aP (HW2.out.lit [⟨#[59]⟩] (by simp only [ByteArray.size_append] at hlen ⊢; omega))
 go_wp2_with fail
 refine (HC3.out).mono ?_
 rintro e W3 ⟨rfl, hw3, hp3⟩
 have HE3 := aP (hp3.cells HW2.out.at_ HE2.out kom (by decide))
 have HP3 := aP (HP2.out.trans hp3 HW0.out.at_)
 have HW3 := aP hw3
 clear hw3 hp3
 go_wp2
 go_end0
 refine ⟨rfl, ?_, Put.pre HH.out.at_ HK0.out HP3.out⟩
 rw [HT.out]
 simpa only [ByteArray.append_assoc] using HW3.out
theorem pstmt_14 (hws : WordsAt w0) (h : PW w0 B W s) (hk : st.kind = 14) (hlen : s.size + (stmtT (f + 1) tabs st).size ≤ most) :
  Calls Tryz.prog 141 #[.pointer (some ⟨B, 0, none⟩), .agg #[.int .i64 14, .int .i64 st.line, .int .i64 st.col, .string st.name, .string st.oth, e0, e1, e2, e3, e4, e5, e6, x0, x1, x2, x3, x4, x5, x6, vb, vl, .int .i64 i, .int .i64 sl, .int .i64 ot, .bool lo], .int .i64 (tabs : Nat)] W (Wrote w0 B W (s ++ stmtT (f + 1) tabs st)) := by
 obtain ⟨W0, hW0⟩ : ∃ W0, W0 = W.alloc (.cells #[.int .i64 14, .int .i64 st.line, .int .i64 st.col, .string st.name, .string st.oth, e0, e1, e2, e3, e4, e5, e6, x0, x1, x2, x3, x4, x5, x6, vb, vl, .int .i64 i, .int .i64 sl, .int .i64 ot, .bool lo] 63) := ⟨_, rfl⟩
 have hk0 : Kept noX W W0 := by rw [hW0]; exact (Kept.refl _ _).alloc _
 have HE0 := aP (show Cells W0 W.heap.size 63 [.int .i64 14, .int .i64 st.line, .int .i64 st.col, .string st.name, .string st.oth, e0, e1, e2, e3, e4, e5, e6, x0, x1, x2, x3, x4, x5, x6, vb, vl, .int .i64 i, .int .i64 sl, .int .i64 ot, .bool lo] from by rw [hW0]; exact Cells.fresh W 63 [.int .i64 14, .int .i64 st.line, .int .i64 st.col, .string st.name, .string st.oth, e0, e1, e2, e3, e4, e5, e6, x0, x1, x2, x3, x4, x5, x6, vb, vl, .int .i64 i, .int .i64 sl, .int .i64 ot, .bool lo])
 have z0 : W0.heap.size = W.heap.size + 1 := by rw [hW0]; simp
 have HW0 := aP (h.keep hk0)
 have HP0 := aP (Put.refl B W0)
 have hT : stmtT (f + 1) tabs st = catL [wordL.getD 14 ⟨#[]⟩] ++ catL [⟨#[59]⟩] := by rw [stmtT, hk] <;> rfl
 rw [hT] at hlen
 have HT := aP hT
 clear hT hk
 have q := h.cell (hws 14 _ rfl)
 have qb := block_lt_of q
 have HC1 := aP (HW0.out.lit [wordL.getD 14 ⟨#[]⟩] (by simp only [ByteArray.size_append] at hlen ⊢; omega))
 have HH := aP h
 have HK0 := aP hk0
 have hlt := h.lt
 clear h hk0
 go_enter Tryz.func141, Tryz.ntmps141
 go_wp2_with fail
 rw [← hW0, ← z0]
 have l0 : W.heap.size < W0.heap.size := by omega
 clear hW0 z0
 refine (HC1.out).mono ?_
 rintro e W1 ⟨rfl, hw1, hp1⟩
 clear q
 have HE1 := aP (hp1.cells HW0.out.at_ HE0.out kom (by decide))
 have HP1 := aP hp1
 have HW1 := aP hw1
 clear hw1 hp1
 have p0 := HE1.out.cell 0
 simp only [aZ] at p0
 have HC2 := aP (HW1.out.lit [⟨#[59]⟩] (by simp only [ByteArray.size_append] at hlen ⊢; omega))
 go_wp2_with fail
 refine (HC2.out).mono ?_
 rintro e W2 ⟨rfl, hw2, hp2⟩
 have HE2 := aP (hp2.cells HW1.out.at_ HE1.out kom (by decide))
 have HP2 := aP (HP1.out.trans hp2 HW0.out.at_)
 have HW2 := aP hw2
 clear hw2 hp2
 go_wp2
 go_end0
 refine ⟨rfl, ?_, Put.pre HH.out.at_ HK0.out HP2.out⟩
 rw [HT.out]
 simpa only [ByteArray.append_assoc] using HW2.out
theorem pstmt_15 (hws : WordsAt w0) (h : PW w0 B W s) (hk : st.kind = 15) (he : EV w0 noX [e0, e1, e2, e3, e4, e5, e6] st.expr) (hme : mayE 24 st.expr = true) (hlen : s.size + (stmtT (f + 1) tabs st).size ≤ most) :
  Calls Tryz.prog 141 #[.pointer (some ⟨B, 0, none⟩), .agg #[.int .i64 15, .int .i64 st.line, .int .i64 st.col, .string st.name, .string st.oth, e0, e1, e2, e3, e4, e5, e6, x0, x1, x2, x3, x4, x5, x6, vb, vl, .int .i64 i, .int .i64 sl, .int .i64 ot, .bool lo], .int .i64 (tabs : Nat)] W (Wrote w0 B W (s ++ stmtT (f + 1) tabs st)) := by
 obtain ⟨W0, hW0⟩ : ∃ W0, W0 = W.alloc (.cells #[.int .i64 15, .int .i64 st.line, .int .i64 st.col, .string st.name, .string st.oth, e0, e1, e2, e3, e4, e5, e6, x0, x1, x2, x3, x4, x5, x6, vb, vl, .int .i64 i, .int .i64 sl, .int .i64 ot, .bool lo] 63) := ⟨_, rfl⟩
 have hk0 : Kept noX W W0 := by rw [hW0]; exact (Kept.refl _ _).alloc _
 have HE0 := aP (show Cells W0 W.heap.size 63 [.int .i64 15, .int .i64 st.line, .int .i64 st.col, .string st.name, .string st.oth, e0, e1, e2, e3, e4, e5, e6, x0, x1, x2, x3, x4, x5, x6, vb, vl, .int .i64 i, .int .i64 sl, .int .i64 ot, .bool lo] from by rw [hW0]; exact Cells.fresh W 63 [.int .i64 15, .int .i64 st.line, .int .i64 st.col, .string st.name, .string st.oth, e0, e1, e2, e3, e4, e5, e6, x0, x1, x2, x3, x4, x5, x6, vb, vl, .int .i64 i, .int .i64 sl, .int .i64 ot, .bool lo])
 have z0 : W0.heap.size = W.heap.size + 1 := by rw [hW0]; simp
 have HW0 := aP (h.keep hk0)
 have HP0 := aP (Put.refl B W0)
 have hT : stmtT (f + 1) tabs st = ((catL [wordL.getD 15 ⟨#[]⟩] ++ catL [⟨#[32]⟩]) ++ exprT 24 0 st.expr) ++ catL [⟨#[59]⟩] := by rw [stmtT, hk] <;> rfl
 rw [hT] at hlen
 have HT := aP hT
 clear hT hk
 have q := h.cell (hws 15 _ rfl)
 have qb := block_lt_of q
 have HC1 := aP (HW0.out.lit [wordL.getD 15 ⟨#[]⟩] (by simp only [ByteArray.size_append] at hlen ⊢; omega))
 have HH := aP h
 have HK0 := aP hk0
 have hlt := h.lt
 clear h hk0
 go_enter Tryz.func141, Tryz.ntmps141
 go_wp2_with fail
 rw [← hW0, ← z0]
 have l0 : W.heap.size < W0.heap.size := by omega
 clear hW0 z0
 refine (HC1.out).mono ?_
 rintro e W1 ⟨rfl, hw1, hp1⟩
 clear q
 have HE1 := aP (hp1.cells HW0.out.at_ HE0.out kom (by decide))
 have HP1 := aP hp1
 have HW1 := aP hw1
 clear hw1 hp1
 have p0 := HE1.out.cell 0
 simp only [aZ] at p0
 have HC2 := aP (HW1.out.lit [⟨#[32]⟩] (by simp only [ByteArray.size_append] at hlen ⊢; omega))
 go_wp2_with fail
 refine (HC2.out).mono ?_
 rintro e W2 ⟨rfl, hw2, hp2⟩
 have HE2 := aP (hp2.cells HW1.out.at_ HE1.out kom (by decide))
 have HP2 := aP (HP1.out.trans hp2 HW0.out.at_)
 have HW2 := aP hw2
 clear hw2 hp2
 have p5 := HE2.out.cell 5; have p6 := HE2.out.cell 6; have p7 := HE2.out.cell 7; have p8 := HE2.out.cell 8; have p9 := HE2.out.cell 9; have p10 := HE2.out.cell 10; have p11 := HE2.out.cell 11
 simp only [aS, aZ] at p5 p6 p7 p8 p9 p10 p11
 have HC3 := aP (pexpr_all w0 B 24 W2 _ 0 st.expr _ HW2.out he hme (by decide) (by simp only [ByteArray.size_append] at hlen ⊢; omega))
 go_wp2_with fail
 refine (HC3.out).mono ?_
 rintro e W3 ⟨rfl, hw3, hp3⟩
 clear p5 p6 p7 p8 p9 p10 p11
 have HE3 := aP (hp3.cells HW2.out.at_ HE2.out kom (by decide))
 have HP3 := aP (HP2.out.trans hp3 HW0.out.at_)
 have HW3 := aP hw3
 clear hw3 hp3
 have HC4 := aP (HW3.out.lit [⟨#[59]⟩] (by simp only [ByteArray.size_append] at hlen ⊢; omega))
 go_wp2_with fail
 refine (HC4.out).mono ?_
 rintro e W4 ⟨rfl, hw4, hp4⟩
 have HE4 := aP (hp4.cells HW3.out.at_ HE3.out kom (by decide))
 have HP4 := aP (HP3.out.trans hp4 HW0.out.at_)
 have HW4 := aP hw4
 clear hw4 hp4
 go_wp2
 go_end0
 refine ⟨rfl, ?_, Put.pre HH.out.at_ HK0.out HP4.out⟩
 rw [HT.out]
 simpa only [ByteArray.append_assoc] using HW4.out
end
end Go.Proofs.YtjkgepppoopheaaGreatDoor
