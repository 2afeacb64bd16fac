/- The two readings of expressions are one, whole (conditions: as in Eq1). -/
import Derived.Test.YtjkgepppoopheaaGreatDoorAbb
import Derived.Test.YtjkgepppoopheaaGreatDoorQ14
import Derived.Test.YtjkgepppoopheaaGreatDoorQ15
set_option maxRecDepth 100000
set_option maxHeartbeats 1000000
namespace Go.Proofs.YtjkgepppoopheaaGreatDoor
open Go.RowKit Go.Shelf
section
variable (S : Src)
def declGo (k : Nat) : List ByteArray → Int → Except Nat (Int × Nat)
 | [], _ => .error k
 | s :: l, q => if takeB S k s then .ok (q, k + 1) else declGo k l (q + 1)
def declKindS (k : Nat) : Except Nat (Int × Nat) := declGo S k (declL.drop 1) 1
def startS (k : Nat) : Except Nat (Int × Nat) := thn (wantS S k ⟨#[61]⟩) fun _ k => if takeB S k ⟨#[45]⟩ then thn (numS S (k + 1)) fun n k => .ok (wrap64 (-n), k) else numS S k
def endS (d : DT) (k : Nat) : Except Nat (DT × Nat) := thn (wantS S k ⟨#[59]⟩) fun _ k => .ok (d, k)
def declS (k : Nat) : Except Nat (DT × Nat) := thn (declKindS S k) fun q k' => thn (nameS S k') fun s k' =>
 if q = 1 then thn (startS S k') fun n k' => endS S ⟨q, (S.tok k).line, (S.tok k).col, s, n, []⟩ k'
 else if q = 2 ∨ q = 5 then thn (numS S k') fun n k' => endS S ⟨q, (S.tok k).line, (S.tok k).col, s, n, []⟩ k'
 else if q = 6 then thn (bodyS S k') fun b k' => .ok (⟨q, (S.tok k).line, (S.tok k).col, s, 0, b⟩, k')
 else endS S ⟨q, (S.tok k).line, (S.tok k).col, s, 0, []⟩ k'
def progS : Nat → Nat → Except Nat (List DT × Nat)
 | 0, k => .error k
 | f + 1, k => if kindB S k 0 then .ok ([], k) else thn (declS S k) fun d k => thn (progS f k) fun l k => .ok (d :: l, k)
end
section
variable {S : Src} {f R k : Nat} {w : World}
theorem declKind_calls (hS : SrcOk S) (h : DR w R S k) : Calls Tryz.prog 132 #[.pointer (some ⟨R, 0, none⟩)] w (Parsed w R S retI (declKindS S k)) := by
 have HDA := aP hS.decls
 have HREF := aP (fun W (h : DR W R S k) => refuse_any h)
 have HH := aP h
 clear hS h
 go_enter Tryz.func132, Tryz.ntmps132
 go_wp2_with fail
 go_loopw [3] (fun i wr => ∃ kk : Nat, 1 ≤ kk ∧ kk ≤ 7 ∧ i = .int .i64 kk ∧ declGo S k (declL.drop kk) kk = declKindS S k ∧ DR wr R S k ∧ Kept (· = R) w wr) (fun i _ => 7 - (intOf i).toNat)
 case atStart => exact ⟨1, by decide, by decide, rfl, rfl, HH.out, Kept.refl _ _⟩
 case round =>
  obtain ⟨kk, hk1, hk7, rfl, hcl, hdr, hkr⟩ := hrel
  have hkk : kk = 1 ∨ kk = 2 ∨ kk = 3 ∨ kk = 4 ∨ kk = 5 ∨ kk = 6 ∨ kk = 7 := by omega
  rcases hkk with rfl | rfl | rfl | rfl | rfl | rfl | rfl
  ·have c0 := HDA.out wr hdr.inv 1 _ rfl
   have hgl := block_lt_of c0
   replace hcl : (if takeB S k (declL[1]'(by decide)) then .ok (1, k + 1) else declGo S k (declL.drop (1 + 1)) ((1 + 1 : Nat) : Int)) = declKindS S k := hcl
   have HC0 := aP c0
   cases ht : takeB S k (declL[1]'(by decide)) with
   | true => exact k_5
   | false =>
    rw [ht, if_neg Bool.false_ne_true] at hcl
    have HCL := aP hcl
    have HT2 := aP ht
    clear hcl ht
    go_wp2_with fail
    go_still_tail 6, krf
    go_wp2_with fail
    refine (take_any (S := S) (k := k) (by decide) hdr.drew).mono ?_
    rintro e W2 ⟨rfl, hd2, hk2'⟩
    have hk2 : Kept (· = R) wr W2 := ((Kept.refl _ _).drew).trans hk2'
    erw [HT2.out] at hd2 ⊢
    replace hd2 : DR W2 R S k := hd2
    go_wp2
    go_roundw
    case rel => exact ⟨1 + 1, by decide, by decide, rfl, HCL.out, hd2, hkr.trans hk2⟩
    case measure => simp [intOf]
  ·have c0 := HDA.out wr hdr.inv 2 _ rfl
   have hgl := block_lt_of c0
   replace hcl : (if takeB S k (declL[2]'(by decide)) then .ok (2, k + 1) else declGo S k (declL.drop (2 + 1)) ((2 + 1 : Nat) : Int)) = declKindS S k := hcl
   have HC0 := aP c0
   cases ht : takeB S k (declL[2]'(by decide)) with
   | true => exact k_5
   | false =>
    rw [ht, if_neg Bool.false_ne_true] at hcl
    have HCL := aP hcl
    have HT2 := aP ht
    clear hcl ht
    go_wp2_with fail
    go_still_tail 6, krf
    go_wp2_with fail
    refine (take_any (S := S) (k := k) (by decide) hdr.drew).mono ?_
    rintro e W2 ⟨rfl, hd2, hk2'⟩
    have hk2 : Kept (· = R) wr W2 := ((Kept.refl _ _).drew).trans hk2'
    erw [HT2.out] at hd2 ⊢
    replace hd2 : DR W2 R S k := hd2
    go_wp2
    go_roundw
    case rel => exact ⟨2 + 1, by decide, by decide, rfl, HCL.out, hd2, hkr.trans hk2⟩
    case measure => simp [intOf]
  ·have c0 := HDA.out wr hdr.inv 3 _ rfl
   have hgl := block_lt_of c0
   replace hcl : (if takeB S k (declL[3]'(by decide)) then .ok (3, k + 1) else declGo S k (declL.drop (3 + 1)) ((3 + 1 : Nat) : Int)) = declKindS S k := hcl
   have HC0 := aP c0
   cases ht : takeB S k (declL[3]'(by decide)) with
   | true => exact k_5
   | false =>
    rw [ht, if_neg Bool.false_ne_true] at hcl
    have HCL := aP hcl
    have HT2 := aP ht
    clear hcl ht
    go_wp2_with fail
    go_still_tail 6, krf
    go_wp2_with fail
    refine (take_any (S := S) (k := k) (by decide) hdr.drew).mono ?_
    rintro e W2 ⟨rfl, hd2, hk2'⟩
    have hk2 : Kept (· = R) wr W2 := ((Kept.refl _ _).drew).trans hk2'
    erw [HT2.out] at hd2 ⊢
    replace hd2 : DR W2 R S k := hd2
    go_wp2
    go_roundw
    case rel => exact ⟨3 + 1, by decide, by decide, rfl, HCL.out, hd2, hkr.trans hk2⟩
    case measure => simp [intOf]
  ·have c0 := HDA.out wr hdr.inv 4 _ rfl
   have hgl := block_lt_of c0
   replace hcl : (if takeB S k (declL[4]'(by decide)) then .ok (4, k + 1) else declGo S k (declL.drop (4 + 1)) ((4 + 1 : Nat) : Int)) = declKindS S k := hcl
   have HC0 := aP c0
   cases ht : takeB S k (declL[4]'(by decide)) with
   | true => exact k_5
   | false =>
    rw [ht, if_neg Bool.false_ne_true] at hcl
    have HCL := aP hcl
    have HT2 := aP ht
    clear hcl ht
    go_wp2_with fail
    go_still_tail 6, krf
    go_wp2_with fail
    refine (take_any (S := S) (k := k) (by decide) hdr.drew).mono ?_
    rintro e W2 ⟨rfl, hd2, hk2'⟩
    have hk2 : Kept (· = R) wr W2 := ((Kept.refl _ _).drew).trans hk2'
    erw [HT2.out] at hd2 ⊢
    replace hd2 : DR W2 R S k := hd2
    go_wp2
    go_roundw
    case rel => exact ⟨4 + 1, by decide, by decide, rfl, HCL.out, hd2, hkr.trans hk2⟩
    case measure => simp [intOf]
  ·have c0 := HDA.out wr hdr.inv 5 _ rfl
   have hgl := block_lt_of c0
   replace hcl : (if takeB S k (declL[5]'(by decide)) then .ok (5, k + 1) else declGo S k (declL.drop (5 + 1)) ((5 + 1 : Nat) : Int)) = declKindS S k := hcl
   have HC0 := aP c0
   cases ht : takeB S k (declL[5]'(by decide)) with
   | true => exact k_5
   | false =>
    rw [ht, if_neg Bool.false_ne_true] at hcl
    have HCL := aP hcl
    have HT2 := aP ht
    clear hcl ht
    go_wp2_with fail
    go_still_tail 6, krf
    go_wp2_with fail
    refine (take_any (S := S) (k := k) (by decide) hdr.drew).mono ?_
    rintro e W2 ⟨rfl, hd2, hk2'⟩
    have hk2 : Kept (· = R) wr W2 := ((Kept.refl _ _).drew).trans hk2'
    erw [HT2.out] at hd2 ⊢
    replace hd2 : DR W2 R S k := hd2
    go_wp2
    go_roundw
    case rel => exact ⟨5 + 1, by decide, by decide, rfl, HCL.out, hd2, hkr.trans hk2⟩
    case measure => simp [intOf]
  ·have c0 := HDA.out wr hdr.inv 6 _ rfl
   have hgl := block_lt_of c0
   replace hcl : (if takeB S k (declL[6]'(by decide)) then .ok (6, k + 1) else declGo S k (declL.drop (6 + 1)) ((6 + 1 : Nat) : Int)) = declKindS S k := hcl
   have HC0 := aP c0
   cases ht : takeB S k (declL[6]'(by decide)) with
   | true => exact k_5
   | false =>
    rw [ht, if_neg Bool.false_ne_true] at hcl
    have HCL := aP hcl
    have HT2 := aP ht
    clear hcl ht
    go_wp2_with fail
    go_still_tail 6, krf
    go_wp2_with fail
    refine (take_any (S := S) (k := k) (by decide) hdr.drew).mono ?_
    rintro e W2 ⟨rfl, hd2, hk2'⟩
    have hk2 : Kept (· = R) wr W2 := ((Kept.refl _ _).drew).trans hk2'
    erw [HT2.out] at hd2 ⊢
    replace hd2 : DR W2 R S k := hd2
    go_wp2
    go_roundw
    case rel => exact ⟨6 + 1, by decide, by decide, rfl, HCL.out, hd2, hkr.trans hk2⟩
    case measure => simp [intOf]
  ·have HCL := aP (show declKindS S k = .error k from hcl.symm)
   clear hcl
   go_wp2_with fail
   refine (HREF.out wr hdr).mono ?_
   rintro e W2 ⟨hm, hk2⟩
   unfold Misfit at hm
   subst hm
   go_wp2
   exact ⟨rfl, Parsed.err HCL.out rfl (hkr.trans hk2.any)⟩
theorem start_calls (h : DR w R S k) : Calls Tryz.prog 133 #[.pointer (some ⟨R, 0, none⟩)] w (Parsed w R S retI (startS S k)) := by
 have HS : Hid (startS S k = thn (wantS S k ⟨#[61]⟩) fun _ k => if takeB S k ⟨#[45]⟩ then thn (numS S (k + 1)) fun n k => .ok (wrap64 (-n), k) else numS S k) := aP rfl
 have HN := aP (fun W k (h : DR W R S k) => number_calls h)
 have hRl := h.lt
 go_enter Tryz.func133, Tryz.ntmps133
 go_wp2_with fail
 refine (want_any (S := S) (k := k) (s := ⟨#[61]⟩) (by decide) h).mono ?_
 intro e W1 hq
 rcases hq.cases with ⟨kx, hr, hm, hk1⟩ | ⟨a1, k1, hr, hret, hd1, hk1⟩
 ·exact k_3
 replace HS := aP (HS.out.trans (by rw [hr, thn_ok]))
 clear hr hq
 have hret : e = _ := hret
 subst hret
 have lb1 := hk1.size
 cases ht : takeB S k1 ⟨#[45]⟩ with
 | true =>
  rw [ht, if_pos rfl] at HS
  have HT2 := aP ht
  clear ht
  go_wp2_with fail
  refine (take_any (S := S) (k := k1) (by decide) hd1).mono ?_
  rintro e W2 ⟨rfl, hd2, hk2⟩
  rw [HT2.out] at hd2 ⊢
  replace hd2 : DR W2 R S (k1 + 1) := hd2
  go_wp2_with fail
  refine (HN.out _ _ hd2).mono ?_
  intro e W3 hq
  rcases hq.cases with ⟨kx, hr, hm, hk3⟩ | ⟨a3, k3, hr, hret, hd3, hk3⟩
  ·exact k_3
  replace HS := aP (HS.out.trans (by rw [hr, thn_ok]))
  clear hr hq
  have hret : e = _ := hret
  subst hret
  have lb3 := hk3.size
  go_wp2
  go_ret
  exact Parsed.ok HS.out rfl hd3 ((hk1.trans hk2).trans hk3)
 | false =>
  rw [ht, if_neg Bool.false_ne_true] at HS
  have HT2 := aP ht
  clear ht
  go_wp2_with fail
  refine (take_any (S := S) (k := k1) (by decide) hd1).mono ?_
  rintro e W2 ⟨rfl, hd2, hk2⟩
  rw [HT2.out] at hd2 ⊢
  replace hd2 : DR W2 R S k1 := hd2
  go_wp2_with fail
  refine (HN.out _ _ hd2).mono ?_
  intro e W3 hq
  rcases hq.cases with ⟨kx, hr, hm, hk3⟩ | ⟨a3, k3, hr, hret, hd3, hk3⟩
  ·unfold Misfit at hm
   subst hm
   have HX := aP (HS.out.trans hr)
   clear hr
   go_wp2
   exact ⟨rfl, Parsed.err HX.out rfl ((hk1.trans hk2).trans hk3)⟩
  have HX := aP (HS.out.trans hr)
  clear hr hq
  have hret : e = _ := hret
  subst hret
  go_wp2
  go_ret
  exact Parsed.ok HX.out rfl hd3 ((hk1.trans hk2).trans hk3)
abbrev zeroD : List Value := [.int .i64 0, .int .i64 0, .int .i64 0, .string ⟨#[]⟩, .int .i64 0, .slice none 0 0]
theorem decl_calls (hS : SrcOk S) (h : DR w R S k) : Calls Tryz.prog 78 #[.pointer (some ⟨R, 0, none⟩)] w (Parsed w R S retD (declS S k)) := by
 have HS : Hid (declS S k = thn (declKindS S k) fun q k' => thn (nameS S k') fun s k' =>
     if q = 1 then thn (startS S k') fun n k' => endS S ⟨q, (S.tok k).line, (S.tok k).col, s, n, []⟩ k'
     else if q = 2 ∨ q = 5 then thn (numS S k') fun n k' => endS S ⟨q, (S.tok k).line, (S.tok k).col, s, n, []⟩ k'
     else if q = 6 then thn (bodyS S k') fun b k' => .ok (⟨q, (S.tok k).line, (S.tok k).col, s, 0, b⟩, k')
     else endS S ⟨q, (S.tok k).line, (S.tok k).col, s, 0, []⟩ k') := aP rfl
 have HSO := aP hS
 clear hS
 have hRl := h.lt
 have hB := Cells.fresh w 54 zeroD
 have HB := aP hB
 have hsz : (w.alloc (.cells zeroD.toArray 54)).heap.size = w.heap.size + 1 := by simp
 clear hB
 go_enter Tryz.func78, Tryz.ntmps78
 go_wp2_with fail
 refine (next_any (S := S) (k := k) kdr).mono ?_
 rintro e W1 ⟨rfl, hk1⟩
 have hd1 : DR W1 R S k := (h.alloc _).keep hk1
 have lb1 := hk1.size
 rw [World.size_alloc] at lb1
 generalize S.tok k = tk at HS ⊢
 obtain ⟨tq, txt, nu, li, co⟩ := tk
 simp only [TokD.cells]
 dsimp only at HS
 go_wp2_with fail
 refine (declKind_calls HSO.out hd1).mono ?_
 intro e W2 hq
 rcases hq.cases with ⟨kx, hr, hm, hk2⟩ | ⟨q, k2, hr, hret, hd2, hk2⟩
 ·exact k_3
 replace HS := aP (HS.out.trans (by rw [hr, thn_ok]))
 clear hr hq
 have hret : e = _ := hret
 subst hret
 have lb2 := hk2.size
 have HB3 := aP (Cells.fresh W2 54 [.int .i64 q, .int .i64 li, .int .i64 co, .string ⟨#[]⟩, .int .i64 0, .slice none 0 0])
 go_wp2_with fail
 refine (name_calls (S := S) (k := k2) kdr).mono ?_
 intro e W4 hq
 rcases hq.cases with ⟨kx, hr, hm, hk4⟩ | ⟨s, k4, hr, hret, hd4, hk4⟩
 ·exact k_3
 replace HS := aP (HS.out.trans (by rw [hr, thn_ok]))
 clear hr hq
 have hret : e = _ := hret
 subst hret
 have lb4 := hk4.size
 rw [World.size_alloc] at lb4
 have HBp := aP (show Cells W4 W2.heap.size 54 [.int .i64 q, .int .i64 li, .int .i64 co, .string ⟨#[]⟩, .int .i64 0, .slice none 0 0] from (have q := HB3.out; kcl))
 have HBW4 := aP (show Cells W4 w.heap.size 54 zeroD from (have q := HB.out; kcl))
 have HK4 : Hid (Kept (· = R) w W4) := aP kp
 clear HB3 hsz
 by_cases h1 : q = 1
 ·rw [if_pos h1] at HS
  have e1 : (q == 1) = true := by rw [h1] <;> rfl
  clear h1
  go_wp2_with (first | (((with_reducible refine ats ?_); (refine wpList_store_part rfl rfl 9 (.tmp 16) (.tmp 15) rfl (W2.heap.size) 3 rfl [.string s] rfl HBp.out kle krf k1c ?_; intro W5 hB5 hk5; replace hB5 : Cells W5 (W2.heap.size) 54 [.int .i64 q, .int .i64 li, .int .i64 co, .string s, .int .i64 0, .slice none 0 0] := (by simpa using hB5); have HB5 := aP hB5; clear hB5)); (have p0 := HB5.out.cell 0; simp only [aZ] at p0; have lw5 := block_lt_of p0)))
  have hd5 : DR W5 R S k4 := hd4.kept hk5 (fun g hg => by have hg : g = W2.heap.size := hg; omega)
  have HBW5 := aP (show Cells W5 w.heap.size 54 zeroD from HBW4.out.kept hk5 kom)
  have HK5 := aP (show Kept (· = R) w W5 from HK4.out.own hk5 kom)
  have lb5 := hk5.size
  clear HBp HBW4
  refine (start_calls (S := S) (k := k4) hd5).mono ?_
  intro e W6 hq
  rcases hq.cases with ⟨kx, hr, hm, hk6⟩ | ⟨a6, k6, hr, hret, hd6, hk6⟩
  ·exact k_9
  replace HS := aP (HS.out.trans (by rw [hr, thn_ok]))
  clear hr hq
  have hret : e = _ := hret
  subst hret
  have lb6 := hk6.size
  have HBb := aP (show Cells W6 W2.heap.size 54 [.int .i64 q, .int .i64 li, .int .i64 co, .string s, .int .i64 0, .slice none 0 0] from HB5.out.kept hk6 kom)
  have HBc := aP (show Cells W6 w.heap.size 54 zeroD from HBW5.out.kept hk6 kom)
  have HK6 := aP (HK5.out.trans hk6)
  go_wp2_with (first | ((with_reducible refine ats ?_); (refine wpList_store_part rfl rfl 2 (.tmp 23) (.tmp 22) rfl (W2.heap.size) 4 rfl [.int .i64 a6] rfl HBb.out kle krf k1c ?_; intro W7 hB7 hk7; replace hB7 : Cells W7 (W2.heap.size) 54 [.int .i64 q, .int .i64 li, .int .i64 co, .string s, .int .i64 a6, .slice none 0 0] := (by simpa using hB7); have HB7 := aP hB7; clear hB7)))
  have hd7 : DR W7 R S k6 := hd6.kept hk7 (fun g hg => by have hg : g = W2.heap.size := hg; omega)
  have HBW7 := aP (show Cells W7 w.heap.size 54 zeroD from HBc.out.kept hk7 kom)
  have HK7 := aP (show Kept (· = R) w W7 from HK6.out.own hk7 kom)
  have lb7 := hk7.size
  clear HBb HBc
  unfold endS at HS
  refine (want_any (S := S) (k := k6) (s := ⟨#[59]⟩) (by decide) hd7).mono ?_
  intro e W10 hq
  rcases hq.cases with ⟨kx, hr, hm, hk10⟩ | ⟨a10, k10, hr, hret, hd10, hk10⟩
  ·exact k_11
  replace HS := aP (HS.out.trans (by rw [hr, thn_ok]))
  clear hr hq
  have hret : e = _ := hret
  subst hret
  have lb10 := hk10.size
  have HBa := aP (show Cells W10 W2.heap.size 54 [.int .i64 q, .int .i64 li, .int .i64 co, .string s, .int .i64 a6, .slice none 0 0] from HB7.out.kept hk10 kom)
  have HBw := aP (show Cells W10 w.heap.size 54 zeroD from HBW7.out.kept hk10 kom)
  have HK10 := aP (HK7.out.trans hk10)
  go_wp2_with (first | ((with_reducible refine atl ?_); (refine wpList_load_cells rfl 54 (.tmp 3) rfl (W2.heap.size) rfl _ Tryz.underlying54 rfl HBa.out krf ?_)) | ((with_reducible refine ats ?_); (refine wpList_store_all rfl rfl 54 (.tmp 2) (.tmp 42) rfl (w.heap.size) rfl [.int .i64 q, .int .i64 li, .int .i64 co, .string s, .int .i64 a6, .slice none 0 0] rfl HBw.out (by rfl) krf k1c ?_; intro W11 hB11 hk11; have HB11 := aP hB11; clear hB11)))
  refine ret_box Tryz.results78 rfl HB11.out Tryz.underlying54 rfl krf rfl (Parsed.ok HS.out ⟨_, rfl, ?_⟩ kdr (HK10.out.own hk11 kom))
  exact DV.iff.2 ⟨_, rfl, RowV.nil _ _⟩
 have e1 : (q == 1) = false := by simpa using h1
 rw [if_neg h1] at HS
 clear h1
 by_cases h2 : q = 2 ∨ q = 5
 ·rw [if_pos h2] at HS
  by_cases h3 : q = 2
  ·have e2 : (q == 2) = true := by rw [h3] <;> rfl
   clear h2 h3
   go_wp2_with (first | (((with_reducible refine ats ?_); (refine wpList_store_part rfl rfl 9 (.tmp 16) (.tmp 15) rfl (W2.heap.size) 3 rfl [.string s] rfl HBp.out kle krf k1c ?_; intro W5 hB5 hk5; replace hB5 : Cells W5 (W2.heap.size) 54 [.int .i64 q, .int .i64 li, .int .i64 co, .string s, .int .i64 0, .slice none 0 0] := (by simpa using hB5); have HB5 := aP hB5; clear hB5)); (have p0 := HB5.out.cell 0; simp only [aZ] at p0; have lw5 := block_lt_of p0)))
   have hd5 : DR W5 R S k4 := hd4.kept hk5 (fun g hg => by have hg : g = W2.heap.size := hg; omega)
   have HBW5 := aP (show Cells W5 w.heap.size 54 zeroD from HBW4.out.kept hk5 kom)
   have HK5 := aP (show Kept (· = R) w W5 from HK4.out.own hk5 kom)
   have lb5 := hk5.size
   clear HBp HBW4
   refine (number_calls (S := S) (k := k4) hd5).mono ?_
   intro e W6 hq
   rcases hq.cases with ⟨kx, hr, hm, hk6⟩ | ⟨a6, k6, hr, hret, hd6, hk6⟩
   ·exact k_9
   replace HS := aP (HS.out.trans (by rw [hr, thn_ok]))
   clear hr hq
   have hret : e = _ := hret
   subst hret
   have lb6 := hk6.size
   have HBb := aP (show Cells W6 W2.heap.size 54 [.int .i64 q, .int .i64 li, .int .i64 co, .string s, .int .i64 0, .slice none 0 0] from HB5.out.kept hk6 kom)
   have HBc := aP (show Cells W6 w.heap.size 54 zeroD from HBW5.out.kept hk6 kom)
   have HK6 := aP (HK5.out.trans hk6)
   go_wp2_with (first | ((with_reducible refine ats ?_); (refine wpList_store_part rfl rfl 2 (.tmp 31) (.tmp 30) rfl (W2.heap.size) 4 rfl [.int .i64 a6] rfl HBb.out kle krf k1c ?_; intro W7 hB7 hk7; replace hB7 : Cells W7 (W2.heap.size) 54 [.int .i64 q, .int .i64 li, .int .i64 co, .string s, .int .i64 a6, .slice none 0 0] := (by simpa using hB7); have HB7 := aP hB7; clear hB7)))
   have hd7 : DR W7 R S k6 := hd6.kept hk7 (fun g hg => by have hg : g = W2.heap.size := hg; omega)
   have HBW7 := aP (show Cells W7 w.heap.size 54 zeroD from HBc.out.kept hk7 kom)
   have HK7 := aP (show Kept (· = R) w W7 from HK6.out.own hk7 kom)
   have lb7 := hk7.size
   clear HBb HBc
   unfold endS at HS
   refine (want_any (S := S) (k := k6) (s := ⟨#[59]⟩) (by decide) hd7).mono ?_
   intro e W10 hq
   rcases hq.cases with ⟨kx, hr, hm, hk10⟩ | ⟨a10, k10, hr, hret, hd10, hk10⟩
   ·exact k_11
   replace HS := aP (HS.out.trans (by rw [hr, thn_ok]))
   clear hr hq
   have hret : e = _ := hret
   subst hret
   have lb10 := hk10.size
   have HBa := aP (show Cells W10 W2.heap.size 54 [.int .i64 q, .int .i64 li, .int .i64 co, .string s, .int .i64 a6, .slice none 0 0] from HB7.out.kept hk10 kom)
   have HBw := aP (show Cells W10 w.heap.size 54 zeroD from HBW7.out.kept hk10 kom)
   have HK10 := aP (HK7.out.trans hk10)
   go_wp2_with (first | ((with_reducible refine atl ?_); (refine wpList_load_cells rfl 54 (.tmp 3) rfl (W2.heap.size) rfl _ Tryz.underlying54 rfl HBa.out krf ?_)) | ((with_reducible refine ats ?_); (refine wpList_store_all rfl rfl 54 (.tmp 2) (.tmp 42) rfl (w.heap.size) rfl [.int .i64 q, .int .i64 li, .int .i64 co, .string s, .int .i64 a6, .slice none 0 0] rfl HBw.out (by rfl) krf k1c ?_; intro W11 hB11 hk11; have HB11 := aP hB11; clear hB11)))
   refine ret_box Tryz.results78 rfl HB11.out Tryz.underlying54 rfl krf rfl (Parsed.ok HS.out ⟨_, rfl, ?_⟩ kdr (HK10.out.own hk11 kom))
   exact DV.iff.2 ⟨_, rfl, RowV.nil _ _⟩
  ·have e2 : (q == 2) = false := by simpa using h3
   have e5 : (q == 5) = true := by rw [h2.resolve_left h3] <;> rfl
   clear h2 h3
   go_wp2_with (first | (((with_reducible refine ats ?_); (refine wpList_store_part rfl rfl 9 (.tmp 16) (.tmp 15) rfl (W2.heap.size) 3 rfl [.string s] rfl HBp.out kle krf k1c ?_; intro W5 hB5 hk5; replace hB5 : Cells W5 (W2.heap.size) 54 [.int .i64 q, .int .i64 li, .int .i64 co, .string s, .int .i64 0, .slice none 0 0] := (by simpa using hB5); have HB5 := aP hB5; clear hB5)); (have p0 := HB5.out.cell 0; simp only [aZ] at p0; have lw5 := block_lt_of p0)))
   have hd5 : DR W5 R S k4 := hd4.kept hk5 (fun g hg => by have hg : g = W2.heap.size := hg; omega)
   have HBW5 := aP (show Cells W5 w.heap.size 54 zeroD from HBW4.out.kept hk5 kom)
   have HK5 := aP (show Kept (· = R) w W5 from HK4.out.own hk5 kom)
   have lb5 := hk5.size
   clear HBp HBW4
   refine (number_calls (S := S) (k := k4) hd5).mono ?_
   intro e W6 hq
   rcases hq.cases with ⟨kx, hr, hm, hk6⟩ | ⟨a6, k6, hr, hret, hd6, hk6⟩
   ·exact k_9
   replace HS := aP (HS.out.trans (by rw [hr, thn_ok]))
   clear hr hq
   have hret : e = _ := hret
   subst hret
   have lb6 := hk6.size
   have HBb := aP (show Cells W6 W2.heap.size 54 [.int .i64 q, .int .i64 li, .int .i64 co, .string s, .int .i64 0, .slice none 0 0] from HB5.out.kept hk6 kom)
   have HBc := aP (show Cells W6 w.heap.size 54 zeroD from HBW5.out.kept hk6 kom)
   have HK6 := aP (HK5.out.trans hk6)
   go_wp2_with (first | ((with_reducible refine ats ?_); (refine wpList_store_part rfl rfl 2 (.tmp 31) (.tmp 30) rfl (W2.heap.size) 4 rfl [.int .i64 a6] rfl HBb.out kle krf k1c ?_; intro W7 hB7 hk7; replace hB7 : Cells W7 (W2.heap.size) 54 [.int .i64 q, .int .i64 li, .int .i64 co, .string s, .int .i64 a6, .slice none 0 0] := (by simpa using hB7); have HB7 := aP hB7; clear hB7)))
   have hd7 : DR W7 R S k6 := hd6.kept hk7 (fun g hg => by have hg : g = W2.heap.size := hg; omega)
   have HBW7 := aP (show Cells W7 w.heap.size 54 zeroD from HBc.out.kept hk7 kom)
   have HK7 := aP (show Kept (· = R) w W7 from HK6.out.own hk7 kom)
   have lb7 := hk7.size
   clear HBb HBc
   unfold endS at HS
   refine (want_any (S := S) (k := k6) (s := ⟨#[59]⟩) (by decide) hd7).mono ?_
   intro e W10 hq
   rcases hq.cases with ⟨kx, hr, hm, hk10⟩ | ⟨a10, k10, hr, hret, hd10, hk10⟩
   ·exact k_11
   replace HS := aP (HS.out.trans (by rw [hr, thn_ok]))
   clear hr hq
   have hret : e = _ := hret
   subst hret
   have lb10 := hk10.size
   have HBa := aP (show Cells W10 W2.heap.size 54 [.int .i64 q, .int .i64 li, .int .i64 co, .string s, .int .i64 a6, .slice none 0 0] from HB7.out.kept hk10 kom)
   have HBw := aP (show Cells W10 w.heap.size 54 zeroD from HBW7.out.kept hk10 kom)
   have HK10 := aP (HK7.out.trans hk10)
   go_wp2_with (first | ((with_reducible refine atl ?_); (refine wpList_load_cells rfl 54 (.tmp 3) rfl (W2.heap.size) rfl _ Tryz.underlying54 rfl HBa.out krf ?_)) | ((with_reducible refine ats ?_); (refine wpList_store_all rfl rfl 54 (.tmp 2) (.tmp 42) rfl (w.heap.size) rfl [.int .i64 q, .int .i64 li, .int .i64 co, .string s, .int .i64 a6, .slice none 0 0] rfl HBw.out (by rfl) krf k1c ?_; intro W11 hB11 hk11; have HB11 := aP hB11; clear hB11)))
   refine ret_box Tryz.results78 rfl HB11.out Tryz.underlying54 rfl krf rfl (Parsed.ok HS.out ⟨_, rfl, ?_⟩ kdr (HK10.out.own hk11 kom))
   exact DV.iff.2 ⟨_, rfl, RowV.nil _ _⟩
 have e2 : (q == 2) = false := by simp; exact fun h => h2 (.inl h)
 have e5 : (q == 5) = false := by simp; exact fun h => h2 (.inr h)
 rw [if_neg h2] at HS
 clear h2
 by_cases h6 : q = 6
 ·rw [if_pos h6] at HS
  have e6 : (q == 6) = true := by rw [h6] <;> rfl
  clear h6
  go_wp2_with (first | (((with_reducible refine ats ?_); (refine wpList_store_part rfl rfl 9 (.tmp 16) (.tmp 15) rfl (W2.heap.size) 3 rfl [.string s] rfl HBp.out kle krf k1c ?_; intro W5 hB5 hk5; replace hB5 : Cells W5 (W2.heap.size) 54 [.int .i64 q, .int .i64 li, .int .i64 co, .string s, .int .i64 0, .slice none 0 0] := (by simpa using hB5); have HB5 := aP hB5; clear hB5)); (have p0 := HB5.out.cell 0; simp only [aZ] at p0; have lw5 := block_lt_of p0)))
  have hd5 : DR W5 R S k4 := hd4.kept hk5 (fun g hg => by have hg : g = W2.heap.size := hg; omega)
  have HBW5 := aP (show Cells W5 w.heap.size 54 zeroD from HBW4.out.kept hk5 kom)
  have HK5 := aP (show Kept (· = R) w W5 from HK4.out.own hk5 kom)
  have lb5 := hk5.size
  clear HBp HBW4
  refine (body_calls HSO.out hd5).mono ?_
  intro e W6 hq
  rcases hq.cases with ⟨kx, hr, hm, hk6⟩ | ⟨a6, k6, hr, hret, hd6, hk6⟩
  ·exact k_9
  replace HS := aP (HS.out.trans (by rw [hr, thn_ok]))
  clear hr hq
  have lb6 := hk6.size
  obtain ⟨v, rfl, hrowv⟩ := hret
  obtain ⟨Av, Nv, Cv, rfl, hff⟩ := hrowv.form
  clear hff
  have HROWv := aP hrowv
  clear hrowv
  have HBb := aP (show Cells W6 W2.heap.size 54 [.int .i64 q, .int .i64 li, .int .i64 co, .string s, .int .i64 0, .slice none 0 0] from HB5.out.kept hk6 kom)
  have HBc := aP (show Cells W6 w.heap.size 54 zeroD from HBW5.out.kept hk6 kom)
  have HK6 := aP (HK5.out.trans hk6)
  go_wp2_with (first | ((with_reducible refine ats ?_); (refine wpList_store_part rfl rfl 52 (.tmp 36) (.tmp 35) rfl (W2.heap.size) 5 rfl [.slice Av Nv Cv] rfl HBb.out kle krf k1c ?_; intro W7 hB7 hk7; replace hB7 : Cells W7 (W2.heap.size) 54 [.int .i64 q, .int .i64 li, .int .i64 co, .string s, .int .i64 0, .slice Av Nv Cv] := (by simpa using hB7); have HB7 := aP hB7; clear hB7)) | ((with_reducible refine atl ?_); (refine wpList_load_cells rfl 54 (.tmp 3) rfl (W2.heap.size) rfl _ Tryz.underlying54 rfl HB7.out krf ?_)) | ((with_reducible refine ats ?_); (refine wpList_store_all rfl rfl 54 (.tmp 2) (.tmp 37) rfl (w.heap.size) rfl [.int .i64 q, .int .i64 li, .int .i64 co, .string s, .int .i64 0, .slice Av Nv Cv] rfl (HBc.out.kept hk7 kom) (by rfl) krf k1c ?_; intro W8 hB8 hk8; have HB8 := aP hB8; clear hB8)))
  refine ret_box Tryz.results78 rfl HB8.out Tryz.underlying54 rfl krf rfl (Parsed.ok HS.out ⟨_, rfl, ?_⟩ kdr ((HK6.out.own hk7 kom).own hk8 kom))
  exact DV.iff.2 ⟨_, rfl, ((HROWv.out.mono (Z' := fun g => g < W5.heap.size) (fun _ _ h => h)).kept hk7 (fun g _ h => by have h : g = W2.heap.size := h; show g < _; first | omega | (rw [World.size_alloc]; omega)) |>.kept hk8 (fun g _ h => by have h : g = w.heap.size := h; show g < _; first | omega | (rw [World.size_alloc]; omega))).mono (fun g _ h => by have h : g < w.heap.size := h; show g < _; first | omega | (rw [World.size_alloc]; omega))⟩
 ·rw [if_neg h6] at HS
  have e6 : (q == 6) = false := by simpa using h6
  clear h6
  go_wp2_with (first | (((with_reducible refine ats ?_); (refine wpList_store_part rfl rfl 9 (.tmp 16) (.tmp 15) rfl (W2.heap.size) 3 rfl [.string s] rfl HBp.out kle krf k1c ?_; intro W5 hB5 hk5; replace hB5 : Cells W5 (W2.heap.size) 54 [.int .i64 q, .int .i64 li, .int .i64 co, .string s, .int .i64 0, .slice none 0 0] := (by simpa using hB5); have HB5 := aP hB5; clear hB5)); (have p0 := HB5.out.cell 0; simp only [aZ] at p0; have lw5 := block_lt_of p0)))
  have hd5 : DR W5 R S k4 := hd4.kept hk5 (fun g hg => by have hg : g = W2.heap.size := hg; omega)
  have HBW5 := aP (show Cells W5 w.heap.size 54 zeroD from HBW4.out.kept hk5 kom)
  have HK5 := aP (show Kept (· = R) w W5 from HK4.out.own hk5 kom)
  have lb5 := hk5.size
  clear HBp HBW4
  unfold endS at HS
  refine (want_any (S := S) (k := k4) (s := ⟨#[59]⟩) (by decide) hd5).mono ?_
  intro e W10 hq
  rcases hq.cases with ⟨kx, hr, hm, hk10⟩ | ⟨a10, k10, hr, hret, hd10, hk10⟩
  ·unfold Misfit at hm
   subst hm
   have HX := aP hr
   clear hr
   go_wp2
   exact ⟨rfl, Parsed.err (HS.out.trans (by rw [HX.out] <;> rfl)) rfl (HK5.out.trans hk10)⟩
  replace HS := aP (HS.out.trans (by rw [hr, thn_ok]))
  clear hr hq
  have hret : e = _ := hret
  subst hret
  have lb10 := hk10.size
  have HBa := aP (show Cells W10 W2.heap.size 54 [.int .i64 q, .int .i64 li, .int .i64 co, .string s, .int .i64 0, .slice none 0 0] from HB5.out.kept hk10 kom)
  have HBw := aP (show Cells W10 w.heap.size 54 zeroD from HBW5.out.kept hk10 kom)
  have HK10 := aP (HK5.out.trans hk10)
  go_wp2_with (first | ((with_reducible refine atl ?_); (refine wpList_load_cells rfl 54 (.tmp 3) rfl (W2.heap.size) rfl _ Tryz.underlying54 rfl HBa.out krf ?_)) | ((with_reducible refine ats ?_); (refine wpList_store_all rfl rfl 54 (.tmp 2) (.tmp 42) rfl (w.heap.size) rfl [.int .i64 q, .int .i64 li, .int .i64 co, .string s, .int .i64 0, .slice none 0 0] rfl HBw.out (by rfl) krf k1c ?_; intro W11 hB11 hk11; have HB11 := aP hB11; clear hB11)))
  refine ret_box Tryz.results78 rfl HB11.out Tryz.underlying54 rfl krf rfl (Parsed.ok HS.out ⟨_, rfl, ?_⟩ kdr (HK10.out.own hk11 kom))
  exact DV.iff.2 ⟨_, rfl, RowV.nil _ _⟩
end
section
variable (n : Nat) (T : Nat → TokD)
def dkUp (st : RS) : Nat → Nat
 | 0 => 0
 | j + 1 => if isR n T st (declL.getD (j + 1) ⟨#[]⟩) then j + 1 else dkUp st j
def dkR (st : RS) : Nat := dkUp n T st 6
def bkR (st : RS) : List ST × RS := blockR n T (n * 3 + 3) st
def dR (st : RS) (q : Int) (s : ByteArray) (m : Int) (b : List ST) : DT := ⟨q, lineOf n T st.1, colOf n T st.1, s, m, b⟩
def varR (s0 : RS) (a : ByteArray × RS) (low : Bool) (x : Int × RS) : DT × RS := (dR n T s0 1 a.1 (if low then wrap64 (-x.1) else x.1) [], muR n T x.2 ⟨#[59]⟩)
def declR (st : RS) : DT × RS :=
 if dkR n T st = 0 then (dR n T st 0 ⟨#[]⟩ 0 [], (st.1, true))
 else if dkR n T st = 1 then
  if isR n T (muR n T (naR n T (nextR st)).2 ⟨#[61]⟩) ⟨#[45]⟩ then varR n T st (naR n T (nextR st)) true (nuR n T (nextR (muR n T (naR n T (nextR st)).2 ⟨#[61]⟩)))
  else varR n T st (naR n T (nextR st)) false (nuR n T (muR n T (naR n T (nextR st)).2 ⟨#[61]⟩))
 else if dkR n T st = 2 ∨ dkR n T st = 5 then (dR n T st (dkR n T st : Nat) (naR n T (nextR st)).1 (nuR n T (naR n T (nextR st)).2).1 [], muR n T (nuR n T (naR n T (nextR st)).2).2 ⟨#[59]⟩)
 else if dkR n T st = 6 then (dR n T st 6 (naR n T (nextR st)).1 0 (bkR n T (naR n T (nextR st)).2).1, (bkR n T (naR n T (nextR st)).2).2)
 else (dR n T st (dkR n T st : Nat) (naR n T (nextR st)).1 0 [], muR n T (naR n T (nextR st)).2 ⟨#[59]⟩)
variable {n T}
theorem dkUp_lt {st : RS} : ∀ {j : Nat}, dkUp n T st j ≠ 0 → st.1 < n ∧ st.2 = false
 | 0, h => absurd rfl h
 | j + 1, h => by
  rw [dkUp] at h
  by_cases hc : isR n T st (declL.getD (j + 1) ⟨#[]⟩) = true
  ·exact isP_lt hc
  ·rw [if_neg hc] at h
   exact dkUp_lt h
theorem dkUp_le {st : RS} : ∀ (j : Nat), dkUp n T st j ≤ j
 | 0 => Nat.le_refl _
 | j + 1 => by
  rw [dkUp]
  split
  ·exact Nat.le_refl _
  ·have := dkUp_le (st := st) j; omega
theorem bkR_on (st : RS) : On n st (bkR n T st).2 := (stmts_on _).2.1 st
theorem varR_on (s0 : RS) (a : ByteArray × RS) (low : Bool) (x : Int × RS) : On n x.2 (varR n T s0 a low x).2 := muR_on _ _
theorem declR_on (st : RS) : On n st (declR n T st).2 := by
 unfold declR
 by_cases hk : dkR n T st = 0
 ·rw [if_pos hk]; exact ⟨Nat.le_refl _, fun h => h⟩
 ·rw [if_neg hk]
  have hnx : On n st (nextR st) := nextR_on (dkUp_lt hk).1
  split
  ·split
   ·rename_i hb
    exact ((hnx.trans (naR_on _)).trans (muR_on _ _)).trans ((nextR_on (isR_lt hb).1).trans ((nuR_on _).trans (varR_on _ _ _ _)))
   ·exact ((hnx.trans (naR_on _)).trans (muR_on _ _)).trans ((nuR_on _).trans (varR_on _ _ _ _))
  ·split
   ·exact ((hnx.trans (naR_on _)).trans (nuR_on _)).trans (muR_on _ _)
   ·split
    ·exact (hnx.trans (naR_on _)).trans (bkR_on _)
    ·exact (hnx.trans (naR_on _)).trans (muR_on _ _)
end
def ReadsD (w : World) (R : Nat) (v : Value) (n : Nat) (T : Nat → TokD) (r : DT × RS) (e : Ending) (W' : World) : Prop :=
 ∃ cs, e = .returned (.agg cs.toArray) ∧ DV W' (· < w.heap.size) cs r.1 ∧ RAt W' R v n T r.2 ∧ Kept (· = R) w W'
theorem bkR_any {R : Nat} {v : Value} {n : Nat} {T : Nat → TokD} {st : RS} {w : World} (h : RAt w R v n T st) (hn : st.1 ≤ n) : Calls Tryz.prog 87 #[.pointer (some ⟨R, 0, none⟩)] w (ReadsB w R v n T (bkR n T st)) :=
 (rstmts_all n T _).2 R v st w h hn (by have : (n - st.1) * 3 ≤ n * 3 := Nat.mul_le_mul_right _ (Nat.sub_le _ _); omega)
def DkI (R : Nat) (v : Value) (n : Nat) (T : Nat → TokD) (st : RS) (B E G : Nat) (Wl : World) (i : Value) (wr : World) : Prop :=
 ∃ j : Nat, 1 ≤ j ∧ j ≤ 7 ∧ i = .int .i64 j ∧ Cells wr E 54 [.int .i64 (dkUp n T st (j - 1) : Nat), .int .i64 (lineOf n T st.1), .int .i64 (colOf n T st.1), .string ⟨#[]⟩, .int .i64 0, .slice none 0 0] ∧
  Cells wr B 54 zeroD ∧ Cells wr G 9 (declL.map .string) ∧ RAt wr R v n T st ∧ Kept (· = E) Wl wr
theorem decls_cell {w : World} {g : Nat} (h : Cells w g 9 (declL.map .string)) {j : Nat} (hj : j < 7) : w.cell? ⟨g, j, none⟩ = some (.string (declL.getD j ⟨#[]⟩)) := by
 rw [h.cell j, List.getElem?_map, List.getD_eq_getElem?_getD, List.getElem?_eq_getElem (show j < declL.length from hj)]
 rfl
def askL : List ByteArray := signB.drop 1 ++ [⟨#[33]⟩, ⟨#[40]⟩, ⟨#[41]⟩, ⟨#[91]⟩, ⟨#[93]⟩, ⟨#[123]⟩, ⟨#[125]⟩, ⟨#[61]⟩, ⟨#[59]⟩, kElse] ++ (kindsL.filter fun s => !s.toList.isEmpty) ++ declL.drop 1
def askB (s : ByteArray) : Bool := askL.any fun x => decide (x = s)
def AskOk (n : Nat) (T : Nat → TokD) : Prop := ∀ k, k < n → askB (T k).text = true → 3 ≤ (T k).kind
def Sim {α : Type} (r : α × RS) (x : Except Nat (α × Nat)) : Prop :=
 match x with
 | .ok p => r = (p.1, (p.2, false))
 | .error k => r.2 = (k, true)
theorem Sim.thn {α β : Type} {r : α × RS} {x : Except Nat (α × Nat)} (h : Sim r x) {g : α × RS → β × RS} {f : α → Nat → Except Nat (β × Nat)}
  (hok : ∀ a k, x = .ok (a, k) → r = (a, (k, false)) → Sim (g (a, (k, false))) (f a k)) (hst : ∀ a k, (g (a, (k, true))).2 = (k, true)) : Sim (g r) (Proofs.YtjkgepppoopheaaGreatDoor.thn x f) := by
 cases x with
 | ok p =>
  have h' : r = (p.1, (p.2, false)) := h
  have := hok p.1 p.2 rfl h'
  rw [h']
  exact this
 | error k =>
  have h' : r.2 = (k, true) := h
  have e : r = (r.1, (k, true)) := Prod.ext rfl h'
  show (g r).2 = (k, true)
  rw [e]
  exact hst _ _
section
variable {S : Src} (hA : AskOk S.n S.T)
include hA
theorem isP_take {k : Nat} {s : ByteArray} (hs : askB s = true) (h0 : s ≠ ⟨#[]⟩) : isP S.n S.T k false s = takeB S k s := by
 unfold isP takeB Src.tok
 by_cases hk : k < S.n
 ·rw [if_pos hk]
  by_cases ht : (S.T k).text = s
  ·have := hA k hk (by rw [ht]; exact hs)
   simp [hk, ht, this]
  ·simp [ht]
 ·rw [if_neg hk]
  simp [hk, Ne.symm h0]
end
section
variable {S : Src}
theorem kindP_kind {k : Nat} {q : Int} (hq : q ≠ 0) : kindP S.n S.T k false q = kindB S k q := by
 unfold kindP kindB Src.tok
 by_cases hk : k < S.n
 ·simp [hk]
 ·simp [hk, Ne.symm hq]
theorem kindB_lt {k : Nat} {q : Int} (hq : q ≠ 0) (h : kindB S k q = true) : k < S.n := by
 rw [← kindP_kind hq] at h
 exact (kindP_yes h).2.1
theorem tok_lt_eq {k : Nat} (h : k < S.n) : S.tok k = S.T k := if_pos h
theorem na_sim (k : Nat) : Sim (naR S.n S.T (k, false)) (nameS S k) := by
 have e := kindP_kind (S := S) (k := k) (q := 1) (by decide)
 unfold nameS ofS
 cases hk : kindB S k 1 with
 | true =>
  rw [hk] at e
  rw [if_pos rfl, thn_ok]
  show (nameOf S.n S.T k false, kindStep S.n S.T k false 1, kindBad S.n S.T k false 1) = _
  rw [(kindP_yes e).2.2.2.1, (kindP_yes e).2.2.2.2, nameOf, e, if_pos rfl, tok_lt_eq (kindP_yes e).2.1]
 | false =>
  rw [hk] at e
  rw [if_neg Bool.false_ne_true, thn_err]
  show (kindStep S.n S.T k false 1, kindBad S.n S.T k false 1) = _
  rw [(kindP_no e).1, (kindP_no e).2]
theorem nu_sim (k : Nat) : Sim (nuR S.n S.T (k, false)) (numS S k) := by
 have e := kindP_kind (S := S) (k := k) (q := 2) (by decide)
 unfold numS ofS
 cases hk : kindB S k 2 with
 | true =>
  rw [hk] at e
  rw [if_pos rfl, thn_ok]
  show (numOf S.n S.T k false, kindStep S.n S.T k false 2, kindBad S.n S.T k false 2) = _
  rw [(kindP_yes e).2.2.2.1, (kindP_yes e).2.2.2.2, numOf, e, if_pos rfl, tok_lt_eq (kindP_yes e).2.1]
 | false =>
  rw [hk] at e
  rw [if_neg Bool.false_ne_true, thn_err]
  show (kindStep S.n S.T k false 2, kindBad S.n S.T k false 2) = _
  rw [(kindP_no e).1, (kindP_no e).2]
theorem mu_sim (hA : AskOk S.n S.T) {α : Type} (a : α) (k : Nat) {s : ByteArray} (hs : askB s = true) (h0 : s ≠ ⟨#[]⟩) : Sim (a, muR S.n S.T (k, false) s) (thn (wantS S k s) fun _ k => .ok (a, k)) := by
 have e := isP_take (S := S) hA (k := k) hs h0
 unfold wantS
 cases hk : takeB S k s with
 | true =>
  rw [hk] at e
  rw [if_pos rfl, thn_ok]
  show (a, mustK S.n S.T k false s) = _
  unfold mustK stepP
  rw [e, if_pos rfl]
  rfl
 | false =>
  rw [hk] at e
  rw [if_neg Bool.false_ne_true, thn_err]
  show mustK S.n S.T k false s = _
  unfold mustK stepP
  rw [e, if_neg Bool.false_ne_true]
  rfl
def nxT (t : ByteArray) (q : Nat) : Nat := firstOf (fun o => decide (rankOf o = (q : Int)) && decide (t = signOf o)) 1 11
theorem firstOf_congr {f g : Nat → Bool} : ∀ (c o : Nat), (∀ j, o ≤ j → j < o + c → f j = g j) → firstOf f o c = firstOf g o c
 | 0, _, _ => rfl
 | c + 1, o, h => by
  rw [firstOf, firstOf, h o (Nat.le_refl _) kom, firstOf_congr c (o + 1) fun j h1 h2 => h j kom kom]
theorem sign_all : ((List.range' 1 11).all fun j => askB (signOf j) && decide (signOf j ≠ ⟨#[]⟩)) = true := by decide +kernel
theorem sign_ask (j : Nat) (h1 : j < 12) (h2 : 1 ≤ j) : askB (signOf j) = true ∧ signOf j ≠ ⟨#[]⟩ := by
 have := List.all_eq_true.1 sign_all j (List.mem_range'_1.2 ⟨h2, by omega⟩)
 rw [Bool.and_eq_true, decide_eq_true_eq] at this
 exact this
theorem next_text (hA : AskOk S.n S.T) (k q : Nat) : nextP S.n S.T k false q = nxT (S.tok k).text q := by
 unfold nextP nxT
 refine firstOf_congr 11 1 fun j h1 h2 => ?_
 unfold opOk
 rw [isP_take hA (sign_ask j kom h1).1 (sign_ask j kom h1).2]
 rfl
theorem op_all : ((List.range' 1 11).all fun j => (List.range' 1 5).all fun h =>
    (rankedP (signP (signOf j))).2.2 && decide ((rankedP (signP (signOf j))).2.1 < 5) && decide ((rankedP (signP (signOf j))).1.2 = (j : Int)) &&
      decide (nxT (signOf j) h = (if (rankedP (signP (signOf j))).2.1 + 1 = h then j else 0))) = true := by decide +kernel
theorem op_some (j : Nat) (h1 : j < 12) (h2 : 1 ≤ j) (h : Nat) (h3 : h < 6) (h4 : 1 ≤ h) :
  (rankedP (signP (signOf j))).2.2 = true ∧ (rankedP (signP (signOf j))).2.1 < 5 ∧ (rankedP (signP (signOf j))).1.2 = (j : Int) ∧
   nxT (signOf j) h = (if (rankedP (signP (signOf j))).2.1 + 1 = h then j else 0) := by
 have := List.all_eq_true.1 (List.all_eq_true.1 op_all j (List.mem_range'_1.2 ⟨h2, by omega⟩)) h (List.mem_range'_1.2 ⟨h4, by omega⟩)
 rw [Bool.and_eq_true, Bool.and_eq_true, Bool.and_eq_true, decide_eq_true_eq, decide_eq_true_eq, decide_eq_true_eq] at this
 exact ⟨this.1.1.1, this.1.1.2, this.1.2, this.2⟩
theorem op_none {t : ByteArray} (ht : ∀ j, j < 12 → 1 ≤ j → t ≠ signOf j) : (rankedP (signP t)).2.2 = false ∧ ∀ h, nxT t h = 0 := by
 have g := fun j h1 h2 => Ne.symm (ht j h1 h2)
 have g1 := g 1 (by decide) (by decide); have g2 := g 2 (by decide) (by decide); have g3 := g 3 (by decide) (by decide); have g4 := g 4 (by decide) (by decide)
 have g5 := g 5 (by decide) (by decide); have g6 := g 6 (by decide) (by decide); have g7 := g 7 (by decide) (by decide); have g8 := g 8 (by decide) (by decide)
 have g9 := g 9 (by decide) (by decide); have g10 := g 10 (by decide) (by decide); have g11 := g 11 (by decide) (by decide)
 refine ⟨?_, fun h => ?_⟩
 ·simp only [signOf, signB, List.getD_cons_zero, List.getD_cons_succ] at g1 g2 g3 g4 g5 g6 g7 g8 g9 g10 g11
  simp [rankedP, opsL, rankFrom, rowFind, signP, List.find?, g1, g2, g3, g4, g5, g6, g7, g8, g9, g10, g11]
 ·have : ∀ j, 1 ≤ j → j < 1 + 11 → (decide (rankOf j = (h : Int)) && decide (t = signOf j)) = (fun _ : Nat => false) j := fun j h1 h2 => by
   rw [decide_eq_false (ht j kom h1), Bool.and_false]
  unfold nxT
  rw [firstOf_congr 11 1 this]
  rfl
theorem op_cases (hA : AskOk S.n S.T) (k : Nat) :
  ((opAt S k).2.2 = false ∧ ∀ h : Nat, nextP S.n S.T k false h = 0) ∨
  ∃ j r : Nat, 1 ≤ j ∧ r < 5 ∧ k < S.n ∧ opAt S k = ((opAt S k).1, r, true) ∧ (opAt S k).1.2 = (j : Int) ∧ ∀ h : Nat, 1 ≤ h → h ≤ 5 → nextP S.n S.T k false h = if r + 1 = h then j else 0 := by
 by_cases ht : ∀ j, j < 12 → 1 ≤ j → (S.tok k).text ≠ signOf j
 ·refine .inl ⟨(op_none ht).1, fun h => ?_⟩
  rw [next_text hA]
  exact (op_none ht).2 h
 ·obtain ⟨j, ht⟩ := Classical.not_forall.1 ht
  obtain ⟨h1, ht⟩ := Classical.not_forall.1 ht
  obtain ⟨h2, ht⟩ := Classical.not_forall.1 ht
  have he := Classical.not_not.1 ht
  have hp := op_some j h1 h2
  have e : opAt S k = rankedP (signP (signOf j)) := by unfold opAt; rw [he]
  have hk : k < S.n := by
   by_cases hk : k < S.n
   ·exact hk
   ·rw [Src.tok, if_neg hk] at he
    exact absurd he.symm (sign_ask j h1 h2).2
  refine .inr ⟨j, (rankedP (signP (signOf j))).2.1, h2, (hp 1 (by decide) (by decide)).2.1, hk, ?_, ?_, fun h h3 h4 => ?_⟩
  ·rw [e, ← (hp 1 (by decide) (by decide)).1]
  ·rw [e]; exact (hp 1 (by decide) (by decide)).2.2.1
  ·rw [next_text hA, he]; exact (hp h kom h3).2.2.2
end
inductive DownTo (n : Nat) (T : Nat → TokD) (q : Nat) : Nat → ET × RS → ET × RS → Prop
 | stop {h : Nat} {x : ET × RS} (hq : h < q) : DownTo n T q h x x
 | step {h f : Nat} {x y : ET × RS} (hq : q ≤ h + 1) (hf : (n - x.2.1) * 9 + 1 ≤ f) (d : DownTo n T q h (loopP n T f (h + 1) x.1 x.2.1 x.2.2) y) : DownTo n T q (h + 1) x y
section
variable {n : Nat} {T : Nat → TokD}
theorem DownTo.more {q h : Nat} {x y : ET × RS} (d : DownTo n T (q + 1) h x y) (hq : q ≤ h) (h1 : 1 ≤ q) {f : Nat} (hf : (n - y.2.1) * 9 + 1 ≤ f) : DownTo n T q h x (loopP n T f q y.1 y.2.1 y.2.2) := by
 induction d with
 | stop hlt =>
  rename_i h' x'
  obtain rfl : h' = q := by omega
  cases h' with
  | zero => omega
  | succ h' => exact .step kom hf (.stop kom)
 | step hq' hf' d' ih =>
  rename_i h' f' x' y'
  by_cases hh : q ≤ h'
  ·exact .step kom hf' (ih hh hf)
  ·omega
theorem DownTo.stuck {q h : Nat} {x y : ET × RS} (d : DownTo n T q h x y) : ∀ k, x.2 = (k, true) → y.2 = (k, true) := by
 induction d with
 | stop hlt => exact fun k h => h
 | step hq' hf' d' ih =>
  rename_i h' f' x' y'
  intro k hk
  refine ih k ?_
  rw [hk]
  exact (reads_stuck f').2.2.2 _ _ k
theorem expr_down (k : Nat) (bad : Bool) : ∀ (d f q : Nat), q + d = 6 → 1 ≤ q → (n - k) * 9 + 9 ≤ f + q → ∃ f', (n - k) * 9 + 2 ≤ f' ∧ DownTo n T q 5 (unP n T f' k bad) (exprP n T f q k bad)
 | 0, f, q, hd, h1, hf => by
  obtain rfl : q = 6 := by omega
  cases f with
  | zero => omega
  | succ f =>
   refine ⟨f, by omega, ?_⟩
   rw [exprP, if_pos (by decide)]
   exact .stop (by decide)
 | d + 1, f, q, hd, h1, hf => by
  cases f with
  | zero => omega
  | succ f =>
   obtain ⟨f', h2, h3⟩ := expr_down k bad d f (q + 1) kom kom kom
   refine ⟨f', h2, ?_⟩
   rw [exprP, if_neg kom]
   have hon := (reads_on n T f).2.2.1 (q + 1) k bad
   have : (n - (exprP n T f (q + 1) k bad).2.1) * 9 ≤ (n - k) * 9 := Nat.mul_le_mul_right _ kom
   exact h3.more kom h1 kom
end
section
variable {S : Src}
def AboS (S : Src) (k : Nat) : Prop := ∀ f g least, least ≤ 5 → (S.n - k) * 9 + 8 ≤ f + least → (S.n - k) * 3 + 2 ≤ g → Sim (exprP S.n S.T f (least + 1) k false) (aboveS S g least k)
def OpeS (S : Src) (k : Nat) : Prop := ∀ f g, (S.n - k) * 9 + 2 ≤ f → (S.n - k) * 3 + 1 ≤ g → Sim (unP S.n S.T f k false) (operandS S g k)
theorem stop_iff {least has k r : Nat} {o : ByteArray × Int} (e : opAt S k = (o, r, true)) : stopS S least has k = false ↔ least ≤ r ∧ leftS r ≤ has := by
 unfold stopS
 rw [e]
 simp only [Bool.not_true, Bool.false_or, Bool.or_eq_false_iff, decide_eq_false_iff_not, Nat.not_lt]
theorem stop_none {least has k : Nat} (e : (opAt S k).2.2 = false) : stopS S least has k = true := by
 unfold stopS
 rw [e]
 rfl
theorem climb_sim (hA : AskOk S.n S.T) (k0 : Nat) (hab : ∀ k', k0 < k' → k' ≤ S.n → AboS S k') : ∀ (m h : Nat) (g least has k : Nat) (e : ET) (y : ET × RS), S.n - k ≤ m → k0 ≤ k → k ≤ S.n → least ≤ 5 → h ≤ 5 →
  (S.n - k) * 3 + 1 ≤ g → (∀ r, r < 5 → (opAt S k).2.2 = true → (opAt S k).2.1 = r → (least ≤ r ∧ leftS r ≤ has ↔ least ≤ r ∧ r + 1 ≤ h)) →
  DownTo S.n S.T (least + 1) h (e, (k, false)) y → Sim y (climbS S g least e has k) := by
 intro m
 induction m with
 | zero =>
  intro h
  induction h with
  | zero =>
   intro g least has k e y hm hk0 hkn hl hh hg hal hd
   cases hd with
   | stop hlt =>
    cases g with
    | zero => omega
    | succ g =>
     rcases op_cases hA k with ⟨h1, _⟩ | ⟨j, r, _, _, hkl, _⟩
     ·rw [climbS, if_pos (stop_none h1)] <;> rfl
     ·omega
  | succ h ih =>
   intro g least has k e y hm hk0 hkn hl hh hg hal hd
   rcases op_cases hA k with ⟨h1, h2⟩ | ⟨j, r, _, _, hkl, _⟩
   ·cases g with
    | zero => omega
    | succ g =>
     rw [climbS, if_pos (stop_none h1)]
     cases hd with
     | stop hlt => rfl
     | step hq hf d =>
      rename_i f
      cases f with
      | zero => omega
      | succ f =>
       dsimp only at d
       rw [loopP, h2 (h + 1), if_pos rfl] at d
       have := ih (g + 1) least has k e y hm hk0 hkn hl kom hg (fun r _ h3 => absurd h3 (by rw [h1]; decide)) d
       rw [climbS, if_pos (stop_none h1)] at this
       exact this
   ·omega
 | succ m ihm =>
  intro h
  induction h with
  | zero =>
   intro g least has k e y hm hk0 hkn hl hh hg hal hd
   cases hd with
   | stop hlt =>
    cases g with
    | zero => omega
    | succ g =>
     have hst : stopS S least has k = true := by
      rcases op_cases hA k with ⟨h1, _⟩ | ⟨j, r, _, hr, hkl, he, _⟩
      ·exact stop_none h1
      ·cases hs : stopS S least has k with
       | true => rfl
       | false => exact absurd ((hal r hr (by rw [he]) (by rw [he])).1 ((stop_iff he).1 hs)).2 kom
     rw [climbS, if_pos hst] <;> rfl
  | succ h ih =>
   intro g least has k e y hm hk0 hkn hl hh hg hal hd
   rcases op_cases hA k with ⟨h1, h2⟩ | ⟨j, r, hj, hr, hkl, he, ho, h2⟩
   ·cases hd with
    | stop hlt =>
     cases g with
     | zero => omega
     | succ g => rw [climbS, if_pos (stop_none h1)] <;> rfl
    | step hq hf d =>
     rename_i f
     cases f with
     | zero => omega
     | succ f =>
      dsimp only at d
      rw [loopP, h2 (h + 1), if_pos rfl] at d
      exact ih g least has k e y hm hk0 hkn hl kom hg (fun r _ h3 => absurd h3 (by rw [h1]; decide)) d
   ·have hal' := hal r hr (by rw [he]) (by rw [he])
    cases hd with
    | stop hlt =>
     cases g with
     | zero => omega
     | succ g =>
      have hst : stopS S least has k = true := by
       cases hs : stopS S least has k with
       | true => rfl
       | false =>
        have := hal'.1 ((stop_iff he).1 hs)
        omega
      rw [climbS, if_pos hst] <;> rfl
    | step hq hf d =>
     rename_i f
     cases f with
     | zero => omega
     | succ f =>
      dsimp only at d hf
      have hn := h2 (h + 1) kom hh
      by_cases hrh : r + 1 = h + 1
      ·obtain rfl : r = h := by omega
       rw [if_pos rfl] at hn
       have hst : stopS S least has k = false := (stop_iff he).2 (hal'.2 ⟨by omega, by omega⟩)
       cases g with
       | zero => omega
       | succ g =>
        rw [climbS, hst, if_neg Bool.false_ne_true]
        rw [show (opAt S k).2.1 = r from by rw [he], ho]
        have hA1 := hab (k + 1) kom kom f g (r + 1) kom kom kom
        rw [loopP, hn, if_neg kom] at d
        have hin := (reads_in S.n S.T f).2.2.1 (r + 1 + 1) (k + 1) false kom
        have hon := (reads_on S.n S.T f).2.2.1 (r + 1 + 1) (k + 1) false
        generalize exprP S.n S.T f (r + 1 + 1) (k + 1) false = x2 at d hA1 hin hon
        cases hx : aboveS S g (r + 1) (k + 1) with
        | error k2 =>
         rw [hx] at hA1
         have e2 : x2.2 = (k2, true) := hA1
         rw [thn_err]
         show y.2 = (k2, true)
         refine d.stuck k2 ?_
         split
         ·exact e2
         ·rw [e2]; exact (reads_stuck f).2.2.2 _ _ k2
        | ok p =>
         rw [hx] at hA1
         have e2 : x2 = (p.1, (p.2, false)) := hA1
         subst e2
         show Sim y (climbS S g least (binE (j : Nat) e p.1) r p.2)
         dsimp only at d hin hon
         have hm9 : (S.n - p.2) * 9 ≤ (S.n - k - 1) * 9 := Nat.mul_le_mul_right _ kom
         by_cases h3 : r + 1 = 3
         ·rw [if_pos h3] at d
          refine ihm r g least r p.2 _ y kom kom hin hl kom kom (fun r' hr' _ _ => ?_) d
          obtain rfl : r = 2 := by omega
          unfold leftS
          split <;> omega
         ·rw [if_neg h3] at d
          refine ihm (r + 1) g least r p.2 _ y kom kom hin hl kom kom (fun r' hr' _ _ => ?_) (.step (f := f) hq (by dsimp only; omega) d)
          unfold leftS
          split <;> omega
      ·rw [if_neg hrh] at hn
       rw [loopP, hn, if_pos rfl] at d
       refine ih g least has k e y hm hk0 hkn hl kom hg (fun r' hr' h3 h4 => ?_) d
       rw [he] at h4
       obtain rfl : r = r' := h4
       rw [hal']
       omega
end
section
variable {S : Src}
theorem oper_sim (hA : AskOk S.n S.T) (k : Nat) (_hkn : k ≤ S.n) (hab : ∀ k', k < k' → k' ≤ S.n → AboS S k') (hop : ∀ k', k < k' → k' ≤ S.n → OpeS S k') : OpeS S k := by
 intro f g hf hg
 cases f with
 | zero => omega
 | succ f =>
  cases g with
  | zero => omega
  | succ g =>
   rw [unP, operandS, isP_take hA (k := k) (s := ⟨#[45]⟩) (by decide +kernel) (by decide), isP_take hA (k := k) (s := ⟨#[33]⟩) (by decide +kernel) (by decide)]
   cases t1 : takeB S k ⟨#[45]⟩ with
   | true =>
    have hlt := takeB_lt t1 (by decide)
    rw [if_pos rfl, if_pos rfl]
    exact (hop (k + 1) kom kom f g kom kom).thn (g := fun y => (negE y.1, y.2)) (fun a k' _ _ => rfl) (fun _ _ => rfl)
   | false =>
    rw [if_neg Bool.false_ne_true, if_neg Bool.false_ne_true]
    cases t2 : takeB S k ⟨#[33]⟩ with
    | true =>
     have hlt := takeB_lt t2 (by decide)
     rw [if_pos rfl, if_pos rfl]
     exact (hop (k + 1) kom kom f g kom kom).thn (g := fun y => (notE y.1, y.2)) (fun a k' _ _ => rfl) (fun _ _ => rfl)
    | false =>
     rw [if_neg Bool.false_ne_true, if_neg Bool.false_ne_true]
     cases f with
     | zero => omega
     | succ f =>
      rw [primP, isP_take hA (k := k) (s := ⟨#[40]⟩) (by decide +kernel) (by decide)]
      cases t3 : takeB S k ⟨#[40]⟩ with
      | true =>
       have hlt := takeB_lt t3 (by decide)
       rw [if_pos rfl, if_pos rfl]
       exact (hab (k + 1) kom kom f g 0 (by decide) kom kom).thn (g := fun y => (y.1, muR S.n S.T y.2 ⟨#[41]⟩))
        (fun a k' _ _ => mu_sim hA a k' (by decide +kernel) (by decide)) (fun _ k' => muR_stuck k' _)
      | false =>
       rw [if_neg Bool.false_ne_true, if_neg Bool.false_ne_true, show numP S.n S.T k = kindB S k 2 from kindP_kind (by decide)]
       cases t4 : kindB S k 2 with
       | true =>
        rw [if_pos rfl, if_pos rfl]
        exact (nu_sim k).thn (g := fun y => (numE y.1, y.2)) (fun a k' _ _ => rfl) (fun _ _ => rfl)
       | false =>
        rw [if_neg Bool.false_ne_true, if_neg Bool.false_ne_true]
        refine (na_sim k).thn (g := fun a => if isR S.n S.T a.2 ⟨#[91]⟩ then
            (cellE a.1 (exprP S.n S.T f 1 (a.2.1 + 1) a.2.2).1, muR S.n S.T (exprP S.n S.T f 1 (a.2.1 + 1) a.2.2).2 ⟨#[93]⟩)
          else (nameE a.1, a.2)) (fun s k' hs hr => ?_) (fun s k' => rfl)
        have hk' : k' = k + 1 ∧ k < S.n := by
         unfold nameS ofS at hs
         cases hkq : kindB S k 1 with
         | true =>
          rw [hkq] at hs
          simp only [if_true, thn_ok] at hs
          injection hs with hs
          injection hs with _ hs
          exact ⟨hs.symm, kindB_lt (by decide) hkq⟩
         | false => rw [hkq] at hs; cases hs
        dsimp only
        rw [show isR S.n S.T (k', false) ⟨#[91]⟩ = takeB S k' ⟨#[91]⟩ from isP_take hA (by decide +kernel) (by decide)]
        cases t5 : takeB S k' ⟨#[91]⟩ with
        | true =>
         have hlt := takeB_lt t5 (by decide)
         rw [if_pos rfl, if_pos rfl]
         exact (hab (k' + 1) kom kom f g 0 (by decide) kom kom).thn (g := fun y => (cellE s y.1, muR S.n S.T y.2 ⟨#[93]⟩))
          (fun a k2 _ _ => mu_sim hA (cellE s a) k2 (by decide +kernel) (by decide)) (fun _ k2 => muR_stuck k2 _)
        | false => rfl
theorem abo_sim (hA : AskOk S.n S.T) (k : Nat) (hkn : k ≤ S.n) (hab : ∀ k', k < k' → k' ≤ S.n → AboS S k') (hop : OpeS S k) : AboS S k := by
 intro f g least hl hf hg
 obtain ⟨f', h2, h3⟩ := expr_down (n := S.n) (T := S.T) k false (5 - least) f (least + 1) kom kom kom
 cases g with
 | zero => omega
 | succ g =>
  rw [aboveS]
  have ho := hop f' g h2 kom
  have hin := (reads_in S.n S.T f').2.1 k false hkn
  have hon := (reads_on S.n S.T f').2.1 k false
  generalize unP S.n S.T f' k false = x at h3 ho hin hon
  cases hx : operandS S g k with
  | error k2 =>
   rw [hx] at ho
   rw [thn_err]
   exact h3.stuck k2 ho
  | ok p =>
   rw [hx] at ho
   have e2 : x = (p.1, (p.2, false)) := ho
   subst e2
   dsimp only at hin hon
   exact climb_sim hA k hab (S.n - p.2) 5 g least 5 p.2 p.1 _ (Nat.le_refl _) hon hin hl (by decide) kom
    (fun r hr _ _ => by unfold leftS; split <;> omega) h3
theorem reads_sim (hA : AskOk S.n S.T) : ∀ (m k : Nat), S.n - k ≤ m → k ≤ S.n → OpeS S k ∧ AboS S k := by
 intro m
 induction m with
 | zero =>
  intro k hm hk
  have h1 := oper_sim hA k hk (fun k' h1 h2 => by omega) (fun k' h1 h2 => by omega)
  exact ⟨h1, abo_sim hA k hk (fun k' h1 h2 => by omega) h1⟩
 | succ m ih =>
  intro k hm hk
  have hab := fun k' (h1 : k < k') (h2 : k' ≤ S.n) => (ih k' kom h2).2
  have h1 := oper_sim hA k hk hab (fun k' h1 h2 => (ih k' kom h2).1)
  exact ⟨h1, abo_sim hA k hk hab h1⟩
theorem ex_sim (hA : AskOk S.n S.T) {k : Nat} (hk : k ≤ S.n) : Sim (exR S.n S.T (k, false)) (exprS S k) :=
 (reads_sim hA _ k (Nat.le_refl _) hk).2 _ _ 0 (by decide) (by have : (S.n - k) * 9 ≤ S.n * 9 := Nat.mul_le_mul_right _ (Nat.sub_le _ _); omega) (by have : (S.n - k) * 3 ≤ S.n * 3 := Nat.mul_le_mul_right _ (Nat.sub_le _ _); omega)
theorem exprS_in (hA : AskOk S.n S.T) {k : Nat} (hk : k ≤ S.n) {p : ET × Nat} (h : exprS S k = .ok p) : k ≤ p.2 ∧ p.2 ≤ S.n := by
 have hs := ex_sim hA hk
 rw [h] at hs
 have e : exR S.n S.T (k, false) = (p.1, (p.2, false)) := hs
 have ho := exR_on (n := S.n) (T := S.T) (k, false)
 rw [e] at ho
 exact ⟨ho.1, ho.2 hk⟩
end
end Go.Proofs.YtjkgepppoopheaaGreatDoor
