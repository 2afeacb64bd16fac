/- The project's reader of declarations (conditions: at most 1000000 words; the variables and the map of forms stand). -/
import Derived.Test.YtjkgepppoopheaaGreatDoorG20
namespace Go.Proofs.YtjkgepppoopheaaGreatDoor
open Go.RowKit Go.Shelf

section
variable (S : Src)
def declGo (k : Nat) : List ByteArray → Int → Except Nat (Int × Nat)
  | [], _ => .error k
  | s :: l, q => if takeB S k s then .ok (q, k + 1) else declGo k l (q + 1)
def declKindS (k : Nat) : Except Nat (Int × Nat) := declGo S k (declL.drop 1) 1
def startS (k : Nat) : Except Nat (Int × Nat) := thn (wantS S k ⟨#[61]⟩) fun _ k => if takeB S k ⟨#[45]⟩ then thn (numS S (k + 1)) fun n k => .ok (wrap64 (-n), k) else numS S k
def endS (d : DT) (k : Nat) : Except Nat (DT × Nat) := thn (wantS S k ⟨#[59]⟩) fun _ k => .ok (d, k)
def declS (k : Nat) : Except Nat (DT × Nat) := thn (declKindS S k) fun q k' => thn (nameS S k') fun s k' =>
  if q = 1 then thn (startS S k') fun n k' => endS S ⟨q, (S.tok k).line, (S.tok k).col, s, n, []⟩ k'
  else if q = 2 ∨ q = 5 then thn (numS S k') fun n k' => endS S ⟨q, (S.tok k).line, (S.tok k).col, s, n, []⟩ k'
  else if q = 6 then thn (bodyS S k') fun b k' => .ok (⟨q, (S.tok k).line, (S.tok k).col, s, 0, b⟩, k')
  else endS S ⟨q, (S.tok k).line, (S.tok k).col, s, 0, []⟩ k'
/-- The first number bounds the declarations to come. -/
def progS : Nat → Nat → Except Nat (List DT × Nat)
  | 0, k => .error k
  | f + 1, k => if kindB S k 0 then .ok ([], k) else thn (declS S k) fun d k => thn (progS f k) fun l k => .ok (d :: l, k)
end

section
variable {S : Src} {f R k : Nat} {w : World}

set_option maxRecDepth 100000 in
set_option maxHeartbeats 1000000 in
theorem declKind_calls (hS : SrcOk S) (h : DR w R S k) : Calls Tryz.prog 132 #[.pointer (some ⟨R, 0, none⟩)] w (Parsed w R S retI (declKindS S k)) := by
  have HDA := Lib.hid hS.decls
  have HREF := Lib.hid (fun W (h : DR W R S k) => refuse_any h)
  have HH := Lib.hid h
  clear hS h
  go_enter Tryz.func132, Tryz.ntmps132
  go_wp2_with fail
  go_loopw [3] (fun i wr => ∃ kk : Nat, 1 ≤ kk ∧ kk ≤ 7 ∧ i = .int .i64 kk ∧ declGo S k (declL.drop kk) kk = declKindS S k ∧ DR wr R S k ∧ Kept (· = R) w wr) (fun i _ => 7 - (intOf i).toNat)
  case atStart => exact ⟨1, by decide, by decide, rfl, rfl, HH.out, Kept.refl _ _⟩
  case round =>
    obtain ⟨kk, hk1, hk7, rfl, hcl, hdr, hkr⟩ := hrel
    have hkk : kk = 1 ∨ kk = 2 ∨ kk = 3 ∨ kk = 4 ∨ kk = 5 ∨ kk = 6 ∨ kk = 7 := by omega
    rcases hkk with rfl | rfl | rfl | rfl | rfl | rfl | rfl
    · have c0 := HDA.out wr hdr.inv 1 _ rfl
      have hgl := block_lt_of c0
      replace hcl : (if takeB S k (declL[1]'(by decide)) then .ok (1, k + 1) else declGo S k (declL.drop (1 + 1)) ((1 + 1 : Nat) : Int)) = declKindS S k := hcl
      have HC0 := Lib.hid c0
      cases ht : takeB S k (declL[1]'(by decide)) with
      | true =>
        rw [ht, if_pos rfl] at hcl
        have HCL := Lib.hid hcl
        have HT2 := Lib.hid ht
        clear hcl ht
        go_wp2_with fail
        go_still_tail 6, (by kernel_rfl)
        go_wp2_with fail
        refine (take_any (S := S) (k := k) (by decide) hdr.drew).mono ?_
        rintro e W2 ⟨rfl, hd2, hk2'⟩
        have hk2 : Kept (· = R) wr W2 := ((Kept.refl _ _).drew).trans hk2'
        erw [HT2.out] at hd2 ⊢
        replace hd2 : DR W2 R S (k + 1) := hd2
        go_wp2
        go_ret
        exact Parsed.ok HCL.out.symm rfl hd2 (hkr.trans hk2)
      | false =>
        rw [ht, if_neg Bool.false_ne_true] at hcl
        have HCL := Lib.hid hcl
        have HT2 := Lib.hid ht
        clear hcl ht
        go_wp2_with fail
        go_still_tail 6, (by kernel_rfl)
        go_wp2_with fail
        refine (take_any (S := S) (k := k) (by decide) hdr.drew).mono ?_
        rintro e W2 ⟨rfl, hd2, hk2'⟩
        have hk2 : Kept (· = R) wr W2 := ((Kept.refl _ _).drew).trans hk2'
        erw [HT2.out] at hd2 ⊢
        replace hd2 : DR W2 R S k := hd2
        go_wp2
        go_roundw
        case rel => exact ⟨1 + 1, by decide, by decide, rfl, HCL.out, hd2, hkr.trans hk2⟩
        case measure => simp [intOf]
    · have c0 := HDA.out wr hdr.inv 2 _ rfl
      have hgl := block_lt_of c0
      replace hcl : (if takeB S k (declL[2]'(by decide)) then .ok (2, k + 1) else declGo S k (declL.drop (2 + 1)) ((2 + 1 : Nat) : Int)) = declKindS S k := hcl
      have HC0 := Lib.hid c0
      cases ht : takeB S k (declL[2]'(by decide)) with
      | true =>
        rw [ht, if_pos rfl] at hcl
        have HCL := Lib.hid hcl
        have HT2 := Lib.hid ht
        clear hcl ht
        go_wp2_with fail
        go_still_tail 6, (by kernel_rfl)
        go_wp2_with fail
        refine (take_any (S := S) (k := k) (by decide) hdr.drew).mono ?_
        rintro e W2 ⟨rfl, hd2, hk2'⟩
        have hk2 : Kept (· = R) wr W2 := ((Kept.refl _ _).drew).trans hk2'
        erw [HT2.out] at hd2 ⊢
        replace hd2 : DR W2 R S (k + 1) := hd2
        go_wp2
        go_ret
        exact Parsed.ok HCL.out.symm rfl hd2 (hkr.trans hk2)
      | false =>
        rw [ht, if_neg Bool.false_ne_true] at hcl
        have HCL := Lib.hid hcl
        have HT2 := Lib.hid ht
        clear hcl ht
        go_wp2_with fail
        go_still_tail 6, (by kernel_rfl)
        go_wp2_with fail
        refine (take_any (S := S) (k := k) (by decide) hdr.drew).mono ?_
        rintro e W2 ⟨rfl, hd2, hk2'⟩
        have hk2 : Kept (· = R) wr W2 := ((Kept.refl _ _).drew).trans hk2'
        erw [HT2.out] at hd2 ⊢
        replace hd2 : DR W2 R S k := hd2
        go_wp2
        go_roundw
        case rel => exact ⟨2 + 1, by decide, by decide, rfl, HCL.out, hd2, hkr.trans hk2⟩
        case measure => simp [intOf]
    · have c0 := HDA.out wr hdr.inv 3 _ rfl
      have hgl := block_lt_of c0
      replace hcl : (if takeB S k (declL[3]'(by decide)) then .ok (3, k + 1) else declGo S k (declL.drop (3 + 1)) ((3 + 1 : Nat) : Int)) = declKindS S k := hcl
      have HC0 := Lib.hid c0
      cases ht : takeB S k (declL[3]'(by decide)) with
      | true =>
        rw [ht, if_pos rfl] at hcl
        have HCL := Lib.hid hcl
        have HT2 := Lib.hid ht
        clear hcl ht
        go_wp2_with fail
        go_still_tail 6, (by kernel_rfl)
        go_wp2_with fail
        refine (take_any (S := S) (k := k) (by decide) hdr.drew).mono ?_
        rintro e W2 ⟨rfl, hd2, hk2'⟩
        have hk2 : Kept (· = R) wr W2 := ((Kept.refl _ _).drew).trans hk2'
        erw [HT2.out] at hd2 ⊢
        replace hd2 : DR W2 R S (k + 1) := hd2
        go_wp2
        go_ret
        exact Parsed.ok HCL.out.symm rfl hd2 (hkr.trans hk2)
      | false =>
        rw [ht, if_neg Bool.false_ne_true] at hcl
        have HCL := Lib.hid hcl
        have HT2 := Lib.hid ht
        clear hcl ht
        go_wp2_with fail
        go_still_tail 6, (by kernel_rfl)
        go_wp2_with fail
        refine (take_any (S := S) (k := k) (by decide) hdr.drew).mono ?_
        rintro e W2 ⟨rfl, hd2, hk2'⟩
        have hk2 : Kept (· = R) wr W2 := ((Kept.refl _ _).drew).trans hk2'
        erw [HT2.out] at hd2 ⊢
        replace hd2 : DR W2 R S k := hd2
        go_wp2
        go_roundw
        case rel => exact ⟨3 + 1, by decide, by decide, rfl, HCL.out, hd2, hkr.trans hk2⟩
        case measure => simp [intOf]
    · have c0 := HDA.out wr hdr.inv 4 _ rfl
      have hgl := block_lt_of c0
      replace hcl : (if takeB S k (declL[4]'(by decide)) then .ok (4, k + 1) else declGo S k (declL.drop (4 + 1)) ((4 + 1 : Nat) : Int)) = declKindS S k := hcl
      have HC0 := Lib.hid c0
      cases ht : takeB S k (declL[4]'(by decide)) with
      | true =>
        rw [ht, if_pos rfl] at hcl
        have HCL := Lib.hid hcl
        have HT2 := Lib.hid ht
        clear hcl ht
        go_wp2_with fail
        go_still_tail 6, (by kernel_rfl)
        go_wp2_with fail
        refine (take_any (S := S) (k := k) (by decide) hdr.drew).mono ?_
        rintro e W2 ⟨rfl, hd2, hk2'⟩
        have hk2 : Kept (· = R) wr W2 := ((Kept.refl _ _).drew).trans hk2'
        erw [HT2.out] at hd2 ⊢
        replace hd2 : DR W2 R S (k + 1) := hd2
        go_wp2
        go_ret
        exact Parsed.ok HCL.out.symm rfl hd2 (hkr.trans hk2)
      | false =>
        rw [ht, if_neg Bool.false_ne_true] at hcl
        have HCL := Lib.hid hcl
        have HT2 := Lib.hid ht
        clear hcl ht
        go_wp2_with fail
        go_still_tail 6, (by kernel_rfl)
        go_wp2_with fail
        refine (take_any (S := S) (k := k) (by decide) hdr.drew).mono ?_
        rintro e W2 ⟨rfl, hd2, hk2'⟩
        have hk2 : Kept (· = R) wr W2 := ((Kept.refl _ _).drew).trans hk2'
        erw [HT2.out] at hd2 ⊢
        replace hd2 : DR W2 R S k := hd2
        go_wp2
        go_roundw
        case rel => exact ⟨4 + 1, by decide, by decide, rfl, HCL.out, hd2, hkr.trans hk2⟩
        case measure => simp [intOf]
    · have c0 := HDA.out wr hdr.inv 5 _ rfl
      have hgl := block_lt_of c0
      replace hcl : (if takeB S k (declL[5]'(by decide)) then .ok (5, k + 1) else declGo S k (declL.drop (5 + 1)) ((5 + 1 : Nat) : Int)) = declKindS S k := hcl
      have HC0 := Lib.hid c0
      cases ht : takeB S k (declL[5]'(by decide)) with
      | true =>
        rw [ht, if_pos rfl] at hcl
        have HCL := Lib.hid hcl
        have HT2 := Lib.hid ht
        clear hcl ht
        go_wp2_with fail
        go_still_tail 6, (by kernel_rfl)
        go_wp2_with fail
        refine (take_any (S := S) (k := k) (by decide) hdr.drew).mono ?_
        rintro e W2 ⟨rfl, hd2, hk2'⟩
        have hk2 : Kept (· = R) wr W2 := ((Kept.refl _ _).drew).trans hk2'
        erw [HT2.out] at hd2 ⊢
        replace hd2 : DR W2 R S (k + 1) := hd2
        go_wp2
        go_ret
        exact Parsed.ok HCL.out.symm rfl hd2 (hkr.trans hk2)
      | false =>
        rw [ht, if_neg Bool.false_ne_true] at hcl
        have HCL := Lib.hid hcl
        have HT2 := Lib.hid ht
        clear hcl ht
        go_wp2_with fail
        go_still_tail 6, (by kernel_rfl)
        go_wp2_with fail
        refine (take_any (S := S) (k := k) (by decide) hdr.drew).mono ?_
        rintro e W2 ⟨rfl, hd2, hk2'⟩
        have hk2 : Kept (· = R) wr W2 := ((Kept.refl _ _).drew).trans hk2'
        erw [HT2.out] at hd2 ⊢
        replace hd2 : DR W2 R S k := hd2
        go_wp2
        go_roundw
        case rel => exact ⟨5 + 1, by decide, by decide, rfl, HCL.out, hd2, hkr.trans hk2⟩
        case measure => simp [intOf]
    · have c0 := HDA.out wr hdr.inv 6 _ rfl
      have hgl := block_lt_of c0
      replace hcl : (if takeB S k (declL[6]'(by decide)) then .ok (6, k + 1) else declGo S k (declL.drop (6 + 1)) ((6 + 1 : Nat) : Int)) = declKindS S k := hcl
      have HC0 := Lib.hid c0
      cases ht : takeB S k (declL[6]'(by decide)) with
      | true =>
        rw [ht, if_pos rfl] at hcl
        have HCL := Lib.hid hcl
        have HT2 := Lib.hid ht
        clear hcl ht
        go_wp2_with fail
        go_still_tail 6, (by kernel_rfl)
        go_wp2_with fail
        refine (take_any (S := S) (k := k) (by decide) hdr.drew).mono ?_
        rintro e W2 ⟨rfl, hd2, hk2'⟩
        have hk2 : Kept (· = R) wr W2 := ((Kept.refl _ _).drew).trans hk2'
        erw [HT2.out] at hd2 ⊢
        replace hd2 : DR W2 R S (k + 1) := hd2
        go_wp2
        go_ret
        exact Parsed.ok HCL.out.symm rfl hd2 (hkr.trans hk2)
      | false =>
        rw [ht, if_neg Bool.false_ne_true] at hcl
        have HCL := Lib.hid hcl
        have HT2 := Lib.hid ht
        clear hcl ht
        go_wp2_with fail
        go_still_tail 6, (by kernel_rfl)
        go_wp2_with fail
        refine (take_any (S := S) (k := k) (by decide) hdr.drew).mono ?_
        rintro e W2 ⟨rfl, hd2, hk2'⟩
        have hk2 : Kept (· = R) wr W2 := ((Kept.refl _ _).drew).trans hk2'
        erw [HT2.out] at hd2 ⊢
        replace hd2 : DR W2 R S k := hd2
        go_wp2
        go_roundw
        case rel => exact ⟨6 + 1, by decide, by decide, rfl, HCL.out, hd2, hkr.trans hk2⟩
        case measure => simp [intOf]
    · have HCL := Lib.hid (show declKindS S k = .error k from hcl.symm)
      clear hcl
      go_wp2_with fail
      refine (HREF.out wr hdr).mono ?_
      rintro e W2 ⟨hm, hk2⟩
      unfold Misfit at hm
      subst hm
      go_wp2
      exact ⟨rfl, Parsed.err HCL.out rfl (hkr.trans hk2.any)⟩

set_option maxRecDepth 100000 in
set_option maxHeartbeats 1000000 in
theorem start_calls (h : DR w R S k) : Calls Tryz.prog 133 #[.pointer (some ⟨R, 0, none⟩)] w (Parsed w R S retI (startS S k)) := by
  have HS : Hid (startS S k = thn (wantS S k ⟨#[61]⟩) fun _ k => if takeB S k ⟨#[45]⟩ then thn (numS S (k + 1)) fun n k => .ok (wrap64 (-n), k) else numS S k) := Lib.hid rfl
  have HN := Lib.hid (fun W k (h : DR W R S k) => number_calls h)
  have hRl := h.lt
  go_enter Tryz.func133, Tryz.ntmps133
  go_wp2_with fail
  refine (want_any (S := S) (k := k) (s := ⟨#[61]⟩) (by decide) h).mono ?_
  intro e W1 hq
  rcases hq.cases with ⟨kx, hr, hm, hk1⟩ | ⟨a1, k1, hr, hret, hd1, hk1⟩
  · unfold Misfit at hm
    subst hm
    have HX := Lib.hid hr
    clear hr
    go_wp2
    exact ⟨rfl, Parsed.err (HS.out.trans (by rw [HX.out]; rfl)) rfl (by repeat (first | assumption | (with_reducible exact Kept.refl _ _) | (with_reducible refine Kept.alloc ?_ _) | (with_reducible refine Kept.drew ?_) | (with_reducible refine Kept.drewN ?_ _) | (with_reducible refine Kept.setCell ?_ ?_ _) | (with_reducible refine Kept.trans ?_ (by assumption)) | (with_reducible refine Kept.trans ?_ (Kept.any (by assumption))) | (with_reducible refine Kept.own ?_ (by assumption) (by omega)) | (intro hxx; first | rfl | ((try dsimp only at hxx ⊢); omega))))⟩
  replace HS := Lib.hid (HS.out.trans (by rw [hr, thn_ok]))
  clear hr hq
  have hret : e = _ := hret
  subst hret
  have lb1 := hk1.size
  cases ht : takeB S k1 ⟨#[45]⟩ with
  | true =>
    rw [ht, if_pos rfl] at HS
    have HT2 := Lib.hid ht
    clear ht
    go_wp2_with fail
    refine (take_any (S := S) (k := k1) (by decide) hd1).mono ?_
    rintro e W2 ⟨rfl, hd2, hk2⟩
    rw [HT2.out] at hd2 ⊢
    replace hd2 : DR W2 R S (k1 + 1) := hd2
    go_wp2_with fail
    refine (HN.out _ _ hd2).mono ?_
    intro e W3 hq
    rcases hq.cases with ⟨kx, hr, hm, hk3⟩ | ⟨a3, k3, hr, hret, hd3, hk3⟩
    · unfold Misfit at hm
      subst hm
      have HX := Lib.hid hr
      clear hr
      go_wp2
      exact ⟨rfl, Parsed.err (HS.out.trans (by rw [HX.out]; rfl)) rfl (by repeat (first | assumption | (with_reducible exact Kept.refl _ _) | (with_reducible refine Kept.alloc ?_ _) | (with_reducible refine Kept.drew ?_) | (with_reducible refine Kept.drewN ?_ _) | (with_reducible refine Kept.setCell ?_ ?_ _) | (with_reducible refine Kept.trans ?_ (by assumption)) | (with_reducible refine Kept.trans ?_ (Kept.any (by assumption))) | (with_reducible refine Kept.own ?_ (by assumption) (by omega)) | (intro hxx; first | rfl | ((try dsimp only at hxx ⊢); omega))))⟩
    replace HS := Lib.hid (HS.out.trans (by rw [hr, thn_ok]))
    clear hr hq
    have hret : e = _ := hret
    subst hret
    have lb3 := hk3.size
    go_wp2
    go_ret
    exact Parsed.ok HS.out rfl hd3 ((hk1.trans hk2).trans hk3)
  | false =>
    rw [ht, if_neg Bool.false_ne_true] at HS
    have HT2 := Lib.hid ht
    clear ht
    go_wp2_with fail
    refine (take_any (S := S) (k := k1) (by decide) hd1).mono ?_
    rintro e W2 ⟨rfl, hd2, hk2⟩
    rw [HT2.out] at hd2 ⊢
    replace hd2 : DR W2 R S k1 := hd2
    go_wp2_with fail
    refine (HN.out _ _ hd2).mono ?_
    intro e W3 hq
    rcases hq.cases with ⟨kx, hr, hm, hk3⟩ | ⟨a3, k3, hr, hret, hd3, hk3⟩
    · unfold Misfit at hm
      subst hm
      have HX := Lib.hid (HS.out.trans hr)
      clear hr
      go_wp2
      exact ⟨rfl, Parsed.err HX.out rfl ((hk1.trans hk2).trans hk3)⟩
    have HX := Lib.hid (HS.out.trans hr)
    clear hr hq
    have hret : e = _ := hret
    subst hret
    go_wp2
    go_ret
    exact Parsed.ok HX.out rfl hd3 ((hk1.trans hk2).trans hk3)

abbrev zeroD : List Value := [.int .i64 0, .int .i64 0, .int .i64 0, .string ⟨#[]⟩, .int .i64 0, .slice none 0 0]
set_option maxRecDepth 100000 in
set_option maxHeartbeats 1000000 in
theorem decl_calls (hS : SrcOk S) (h : DR w R S k) : Calls Tryz.prog 78 #[.pointer (some ⟨R, 0, none⟩)] w (Parsed w R S retD (declS S k)) := by
  have HS : Hid (declS S k = thn (declKindS S k) fun q k' => thn (nameS S k') fun s k' =>
      if q = 1 then thn (startS S k') fun n k' => endS S ⟨q, (S.tok k).line, (S.tok k).col, s, n, []⟩ k'
      else if q = 2 ∨ q = 5 then thn (numS S k') fun n k' => endS S ⟨q, (S.tok k).line, (S.tok k).col, s, n, []⟩ k'
      else if q = 6 then thn (bodyS S k') fun b k' => .ok (⟨q, (S.tok k).line, (S.tok k).col, s, 0, b⟩, k')
      else endS S ⟨q, (S.tok k).line, (S.tok k).col, s, 0, []⟩ k') := Lib.hid rfl
  have HSO := Lib.hid hS
  clear hS
  have hRl := h.lt
  have hB := Cells.fresh w 54 zeroD
  have HB := Lib.hid hB
  have hsz : (w.alloc (.cells zeroD.toArray 54)).heap.size = w.heap.size + 1 := by simp
  clear hB
  go_enter Tryz.func78, Tryz.ntmps78
  go_wp2_with fail
  refine (next_any (S := S) (k := k) (by repeat (first | assumption | (with_reducible refine DR.alloc ?_ _) | (with_reducible refine DR.drewN ?_ _) | (with_reducible refine DR.drew ?_) | (with_reducible refine DR.set ?_ (by first | omega | (simp; omega)) _) | (with_reducible refine DR.kept ?_ (by assumption) (fun g hg => by first | exact hg.elim | ((try dsimp only at hg); omega)))))).mono ?_
  rintro e W1 ⟨rfl, hk1⟩
  have hd1 : DR W1 R S k := (h.alloc _).keep hk1
  have lb1 := hk1.size
  rw [World.size_alloc] at lb1
  generalize S.tok k = tk at HS ⊢
  obtain ⟨tq, txt, nu, li, co⟩ := tk
  simp only [TokD.cells]
  dsimp only at HS
  go_wp2_with fail
  refine (declKind_calls HSO.out hd1).mono ?_
  intro e W2 hq
  rcases hq.cases with ⟨kx, hr, hm, hk2⟩ | ⟨q, k2, hr, hret, hd2, hk2⟩
  · unfold Misfit at hm
    subst hm
    have HX := Lib.hid hr
    clear hr
    go_wp2
    exact ⟨rfl, Parsed.err (HS.out.trans (by rw [HX.out]; rfl)) rfl (by repeat (first | assumption | (with_reducible exact Kept.refl _ _) | (with_reducible refine Kept.alloc ?_ _) | (with_reducible refine Kept.drew ?_) | (with_reducible refine Kept.drewN ?_ _) | (with_reducible refine Kept.setCell ?_ ?_ _) | (with_reducible refine Kept.trans ?_ (by assumption)) | (with_reducible refine Kept.trans ?_ (Kept.any (by assumption))) | (with_reducible refine Kept.own ?_ (by assumption) (by omega)) | (intro hxx; first | rfl | ((try dsimp only at hxx ⊢); omega))))⟩
  replace HS := Lib.hid (HS.out.trans (by rw [hr, thn_ok]))
  clear hr hq
  have hret : e = _ := hret
  subst hret
  have lb2 := hk2.size
  have HB3 := Lib.hid (Cells.fresh W2 54 [.int .i64 q, .int .i64 li, .int .i64 co, .string ⟨#[]⟩, .int .i64 0, .slice none 0 0])
  go_wp2_with fail
  refine (name_calls (S := S) (k := k2) (by repeat (first | assumption | (with_reducible refine DR.alloc ?_ _) | (with_reducible refine DR.drewN ?_ _) | (with_reducible refine DR.drew ?_) | (with_reducible refine DR.set ?_ (by first | omega | (simp; omega)) _) | (with_reducible refine DR.kept ?_ (by assumption) (fun g hg => by first | exact hg.elim | ((try dsimp only at hg); omega)))))).mono ?_
  intro e W4 hq
  rcases hq.cases with ⟨kx, hr, hm, hk4⟩ | ⟨s, k4, hr, hret, hd4, hk4⟩
  · unfold Misfit at hm
    subst hm
    have HX := Lib.hid hr
    clear hr
    go_wp2
    exact ⟨rfl, Parsed.err (HS.out.trans (by rw [HX.out]; rfl)) rfl (by repeat (first | assumption | (with_reducible exact Kept.refl _ _) | (with_reducible refine Kept.alloc ?_ _) | (with_reducible refine Kept.drew ?_) | (with_reducible refine Kept.drewN ?_ _) | (with_reducible refine Kept.setCell ?_ ?_ _) | (with_reducible refine Kept.trans ?_ (by assumption)) | (with_reducible refine Kept.trans ?_ (Kept.any (by assumption))) | (with_reducible refine Kept.own ?_ (by assumption) (by omega)) | (intro hxx; first | rfl | ((try dsimp only at hxx ⊢); omega))))⟩
  replace HS := Lib.hid (HS.out.trans (by rw [hr, thn_ok]))
  clear hr hq
  have hret : e = _ := hret
  subst hret
  have lb4 := hk4.size
  rw [World.size_alloc] at lb4
  have HBp := Lib.hid (show Cells W4 W2.heap.size 54 [.int .i64 q, .int .i64 li, .int .i64 co, .string ⟨#[]⟩, .int .i64 0, .slice none 0 0] from (by repeat (first | (with_reducible exact HB3.out) | (with_reducible refine Cells.alloc ?_ _) | (with_reducible refine Cells.drew ?_) | (with_reducible refine Cells.drewN ?_ _) | (with_reducible refine Cells.keep ?_ (by assumption)) | (with_reducible refine Cells.kept ?_ (by assumption) (by omega)) | (with_reducible refine Cells.far ?_ (by dsimp only; omega) _))))
  have HBW4 := Lib.hid (show Cells W4 w.heap.size 54 zeroD from (by repeat (first | (with_reducible exact HB.out) | (with_reducible refine Cells.alloc ?_ _) | (with_reducible refine Cells.drew ?_) | (with_reducible refine Cells.drewN ?_ _) | (with_reducible refine Cells.keep ?_ (by assumption)) | (with_reducible refine Cells.kept ?_ (by assumption) (by omega)) | (with_reducible refine Cells.far ?_ (by dsimp only; omega) _))))
  have HK4 : Hid (Kept (· = R) w W4) := Lib.hid (by repeat (first | assumption | (with_reducible exact Kept.refl _ _) | (with_reducible refine Kept.alloc ?_ _) | (with_reducible refine Kept.drew ?_) | (with_reducible refine Kept.drewN ?_ _) | (with_reducible refine Kept.setCell ?_ ?_ _) | (with_reducible refine Kept.trans ?_ (by assumption)) | (with_reducible refine Kept.trans ?_ (Kept.any (by assumption))) | (with_reducible refine Kept.own ?_ (by assumption) (by omega)) | (intro hxx; first | rfl | ((try dsimp only at hxx ⊢); omega))))
  clear HB3 hsz
  by_cases h1 : q = 1
  · rw [if_pos h1] at HS
    have e1 : (q == 1) = true := by rw [h1]; rfl
    clear h1
    go_wp2_with (first | (((with_reducible show wpList _ _ _ (Oper.mk none (Op.store _ _ _) _ _ _ _ :: _) _ _); (refine wpList_store_part rfl rfl 9 (.tmp 16) (.tmp 15) rfl (W2.heap.size) 3 rfl [.string s] rfl HBp.out (Nat.le_of_ble_eq_true rfl) (by kernel_rfl) (by simp [Value.oneCell']) ?_; intro W5 hB5 hk5; replace hB5 : Cells W5 (W2.heap.size) 54 [.int .i64 q, .int .i64 li, .int .i64 co, .string s, .int .i64 0, .slice none 0 0] := (by simpa using hB5); have HB5 := Lib.hid hB5; clear hB5)); (have p0 := HB5.out.cell 0; simp only [List.getElem?_cons_zero] at p0; have lw5 := block_lt_of p0)))
    have hd5 : DR W5 R S k4 := hd4.kept hk5 (fun g hg => by have hg : g = W2.heap.size := hg; omega)
    have HBW5 := Lib.hid (show Cells W5 w.heap.size 54 zeroD from HBW4.out.kept hk5 (by omega))
    have HK5 := Lib.hid (show Kept (· = R) w W5 from HK4.out.own hk5 (by omega))
    have lb5 := hk5.size
    clear HBp HBW4
    refine (start_calls (S := S) (k := k4) hd5).mono ?_
    intro e W6 hq
    rcases hq.cases with ⟨kx, hr, hm, hk6⟩ | ⟨a6, k6, hr, hret, hd6, hk6⟩
    · unfold Misfit at hm
      subst hm
      have HX := Lib.hid hr
      clear hr
      go_wp2
      exact ⟨rfl, Parsed.err (HS.out.trans (by rw [HX.out]; rfl)) rfl (HK5.out.trans hk6)⟩
    replace HS := Lib.hid (HS.out.trans (by rw [hr, thn_ok]))
    clear hr hq
    have hret : e = _ := hret
    subst hret
    have lb6 := hk6.size
    have HBb := Lib.hid (show Cells W6 W2.heap.size 54 [.int .i64 q, .int .i64 li, .int .i64 co, .string s, .int .i64 0, .slice none 0 0] from HB5.out.kept hk6 (by omega))
    have HBc := Lib.hid (show Cells W6 w.heap.size 54 zeroD from HBW5.out.kept hk6 (by omega))
    have HK6 := Lib.hid (HK5.out.trans hk6)
    go_wp2_with (first | ((with_reducible show wpList _ _ _ (Oper.mk none (Op.store _ _ _) _ _ _ _ :: _) _ _); (refine wpList_store_part rfl rfl 2 (.tmp 23) (.tmp 22) rfl (W2.heap.size) 4 rfl [.int .i64 a6] rfl HBb.out (Nat.le_of_ble_eq_true rfl) (by kernel_rfl) (by simp [Value.oneCell']) ?_; intro W7 hB7 hk7; replace hB7 : Cells W7 (W2.heap.size) 54 [.int .i64 q, .int .i64 li, .int .i64 co, .string s, .int .i64 a6, .slice none 0 0] := (by simpa using hB7); have HB7 := Lib.hid hB7; clear hB7)))
    have hd7 : DR W7 R S k6 := hd6.kept hk7 (fun g hg => by have hg : g = W2.heap.size := hg; omega)
    have HBW7 := Lib.hid (show Cells W7 w.heap.size 54 zeroD from HBc.out.kept hk7 (by omega))
    have HK7 := Lib.hid (show Kept (· = R) w W7 from HK6.out.own hk7 (by omega))
    have lb7 := hk7.size
    clear HBb HBc
    unfold endS at HS
    refine (want_any (S := S) (k := k6) (s := ⟨#[59]⟩) (by decide) hd7).mono ?_
    intro e W10 hq
    rcases hq.cases with ⟨kx, hr, hm, hk10⟩ | ⟨a10, k10, hr, hret, hd10, hk10⟩
    · unfold Misfit at hm
      subst hm
      have HX := Lib.hid hr
      clear hr
      go_wp2
      exact ⟨rfl, Parsed.err (HS.out.trans (by rw [HX.out]; rfl)) rfl (HK7.out.trans hk10)⟩
    replace HS := Lib.hid (HS.out.trans (by rw [hr, thn_ok]))
    clear hr hq
    have hret : e = _ := hret
    subst hret
    have lb10 := hk10.size
    have HBa := Lib.hid (show Cells W10 W2.heap.size 54 [.int .i64 q, .int .i64 li, .int .i64 co, .string s, .int .i64 a6, .slice none 0 0] from HB7.out.kept hk10 (by omega))
    have HBw := Lib.hid (show Cells W10 w.heap.size 54 zeroD from HBW7.out.kept hk10 (by omega))
    have HK10 := Lib.hid (HK7.out.trans hk10)
    go_wp2_with (first | ((with_reducible show wpList _ _ _ (Oper.mk _ (Op.load _ _) _ _ _ _ :: _) _ _); (refine wpList_load_cells rfl 54 (.tmp 3) rfl (W2.heap.size) rfl _ Tryz.underlying54 rfl HBa.out (by kernel_rfl) ?_)) | ((with_reducible show wpList _ _ _ (Oper.mk none (Op.store _ _ _) _ _ _ _ :: _) _ _); (refine wpList_store_part rfl rfl 54 (.tmp 2) (.tmp 42) rfl (w.heap.size) 0 rfl [.int .i64 q, .int .i64 li, .int .i64 co, .string s, .int .i64 a6, .slice none 0 0] rfl HBw.out (Nat.le_of_ble_eq_true rfl) (by kernel_rfl) (by simp [Value.oneCell']) ?_; intro W11 hB11 hk11; replace hB11 : Cells W11 (w.heap.size) 54 [.int .i64 q, .int .i64 li, .int .i64 co, .string s, .int .i64 a6, .slice none 0 0] := (by simpa using hB11); have HB11 := Lib.hid hB11; clear hB11)))
    refine ret_box Tryz.results78 rfl HB11.out Tryz.underlying54 rfl (by kernel_rfl) rfl (Parsed.ok HS.out ⟨_, rfl, ?_⟩ (by repeat (first | assumption | (with_reducible refine DR.alloc ?_ _) | (with_reducible refine DR.drewN ?_ _) | (with_reducible refine DR.drew ?_) | (with_reducible refine DR.set ?_ (by first | omega | (simp; omega)) _) | (with_reducible refine DR.kept ?_ (by assumption) (fun g hg => by first | exact hg.elim | ((try dsimp only at hg); omega))))) (HK10.out.own hk11 (by omega)))
    exact DV.iff.2 ⟨_, rfl, RowV.nil _ _⟩
  have e1 : (q == 1) = false := by simpa using h1
  rw [if_neg h1] at HS
  clear h1
  by_cases h2 : q = 2 ∨ q = 5
  · rw [if_pos h2] at HS
    by_cases h3 : q = 2
    · have e2 : (q == 2) = true := by rw [h3]; rfl
      clear h2 h3
      go_wp2_with (first | (((with_reducible show wpList _ _ _ (Oper.mk none (Op.store _ _ _) _ _ _ _ :: _) _ _); (refine wpList_store_part rfl rfl 9 (.tmp 16) (.tmp 15) rfl (W2.heap.size) 3 rfl [.string s] rfl HBp.out (Nat.le_of_ble_eq_true rfl) (by kernel_rfl) (by simp [Value.oneCell']) ?_; intro W5 hB5 hk5; replace hB5 : Cells W5 (W2.heap.size) 54 [.int .i64 q, .int .i64 li, .int .i64 co, .string s, .int .i64 0, .slice none 0 0] := (by simpa using hB5); have HB5 := Lib.hid hB5; clear hB5)); (have p0 := HB5.out.cell 0; simp only [List.getElem?_cons_zero] at p0; have lw5 := block_lt_of p0)))
      have hd5 : DR W5 R S k4 := hd4.kept hk5 (fun g hg => by have hg : g = W2.heap.size := hg; omega)
      have HBW5 := Lib.hid (show Cells W5 w.heap.size 54 zeroD from HBW4.out.kept hk5 (by omega))
      have HK5 := Lib.hid (show Kept (· = R) w W5 from HK4.out.own hk5 (by omega))
      have lb5 := hk5.size
      clear HBp HBW4
      refine (number_calls (S := S) (k := k4) hd5).mono ?_
      intro e W6 hq
      rcases hq.cases with ⟨kx, hr, hm, hk6⟩ | ⟨a6, k6, hr, hret, hd6, hk6⟩
      · unfold Misfit at hm
        subst hm
        have HX := Lib.hid hr
        clear hr
        go_wp2
        exact ⟨rfl, Parsed.err (HS.out.trans (by rw [HX.out]; rfl)) rfl (HK5.out.trans hk6)⟩
      replace HS := Lib.hid (HS.out.trans (by rw [hr, thn_ok]))
      clear hr hq
      have hret : e = _ := hret
      subst hret
      have lb6 := hk6.size
      have HBb := Lib.hid (show Cells W6 W2.heap.size 54 [.int .i64 q, .int .i64 li, .int .i64 co, .string s, .int .i64 0, .slice none 0 0] from HB5.out.kept hk6 (by omega))
      have HBc := Lib.hid (show Cells W6 w.heap.size 54 zeroD from HBW5.out.kept hk6 (by omega))
      have HK6 := Lib.hid (HK5.out.trans hk6)
      go_wp2_with (first | ((with_reducible show wpList _ _ _ (Oper.mk none (Op.store _ _ _) _ _ _ _ :: _) _ _); (refine wpList_store_part rfl rfl 2 (.tmp 31) (.tmp 30) rfl (W2.heap.size) 4 rfl [.int .i64 a6] rfl HBb.out (Nat.le_of_ble_eq_true rfl) (by kernel_rfl) (by simp [Value.oneCell']) ?_; intro W7 hB7 hk7; replace hB7 : Cells W7 (W2.heap.size) 54 [.int .i64 q, .int .i64 li, .int .i64 co, .string s, .int .i64 a6, .slice none 0 0] := (by simpa using hB7); have HB7 := Lib.hid hB7; clear hB7)))
      have hd7 : DR W7 R S k6 := hd6.kept hk7 (fun g hg => by have hg : g = W2.heap.size := hg; omega)
      have HBW7 := Lib.hid (show Cells W7 w.heap.size 54 zeroD from HBc.out.kept hk7 (by omega))
      have HK7 := Lib.hid (show Kept (· = R) w W7 from HK6.out.own hk7 (by omega))
      have lb7 := hk7.size
      clear HBb HBc
      unfold endS at HS
      refine (want_any (S := S) (k := k6) (s := ⟨#[59]⟩) (by decide) hd7).mono ?_
      intro e W10 hq
      rcases hq.cases with ⟨kx, hr, hm, hk10⟩ | ⟨a10, k10, hr, hret, hd10, hk10⟩
      · unfold Misfit at hm
        subst hm
        have HX := Lib.hid hr
        clear hr
        go_wp2
        exact ⟨rfl, Parsed.err (HS.out.trans (by rw [HX.out]; rfl)) rfl (HK7.out.trans hk10)⟩
      replace HS := Lib.hid (HS.out.trans (by rw [hr, thn_ok]))
      clear hr hq
      have hret : e = _ := hret
      subst hret
      have lb10 := hk10.size
      have HBa := Lib.hid (show Cells W10 W2.heap.size 54 [.int .i64 q, .int .i64 li, .int .i64 co, .string s, .int .i64 a6, .slice none 0 0] from HB7.out.kept hk10 (by omega))
      have HBw := Lib.hid (show Cells W10 w.heap.size 54 zeroD from HBW7.out.kept hk10 (by omega))
      have HK10 := Lib.hid (HK7.out.trans hk10)
      go_wp2_with (first | ((with_reducible show wpList _ _ _ (Oper.mk _ (Op.load _ _) _ _ _ _ :: _) _ _); (refine wpList_load_cells rfl 54 (.tmp 3) rfl (W2.heap.size) rfl _ Tryz.underlying54 rfl HBa.out (by kernel_rfl) ?_)) | ((with_reducible show wpList _ _ _ (Oper.mk none (Op.store _ _ _) _ _ _ _ :: _) _ _); (refine wpList_store_part rfl rfl 54 (.tmp 2) (.tmp 42) rfl (w.heap.size) 0 rfl [.int .i64 q, .int .i64 li, .int .i64 co, .string s, .int .i64 a6, .slice none 0 0] rfl HBw.out (Nat.le_of_ble_eq_true rfl) (by kernel_rfl) (by simp [Value.oneCell']) ?_; intro W11 hB11 hk11; replace hB11 : Cells W11 (w.heap.size) 54 [.int .i64 q, .int .i64 li, .int .i64 co, .string s, .int .i64 a6, .slice none 0 0] := (by simpa using hB11); have HB11 := Lib.hid hB11; clear hB11)))
      refine ret_box Tryz.results78 rfl HB11.out Tryz.underlying54 rfl (by kernel_rfl) rfl (Parsed.ok HS.out ⟨_, rfl, ?_⟩ (by repeat (first | assumption | (with_reducible refine DR.alloc ?_ _) | (with_reducible refine DR.drewN ?_ _) | (with_reducible refine DR.drew ?_) | (with_reducible refine DR.set ?_ (by first | omega | (simp; omega)) _) | (with_reducible refine DR.kept ?_ (by assumption) (fun g hg => by first | exact hg.elim | ((try dsimp only at hg); omega))))) (HK10.out.own hk11 (by omega)))
      exact DV.iff.2 ⟨_, rfl, RowV.nil _ _⟩
    · have e2 : (q == 2) = false := by simpa using h3
      have e5 : (q == 5) = true := by rw [h2.resolve_left h3]; rfl
      clear h2 h3
      go_wp2_with (first | (((with_reducible show wpList _ _ _ (Oper.mk none (Op.store _ _ _) _ _ _ _ :: _) _ _); (refine wpList_store_part rfl rfl 9 (.tmp 16) (.tmp 15) rfl (W2.heap.size) 3 rfl [.string s] rfl HBp.out (Nat.le_of_ble_eq_true rfl) (by kernel_rfl) (by simp [Value.oneCell']) ?_; intro W5 hB5 hk5; replace hB5 : Cells W5 (W2.heap.size) 54 [.int .i64 q, .int .i64 li, .int .i64 co, .string s, .int .i64 0, .slice none 0 0] := (by simpa using hB5); have HB5 := Lib.hid hB5; clear hB5)); (have p0 := HB5.out.cell 0; simp only [List.getElem?_cons_zero] at p0; have lw5 := block_lt_of p0)))
      have hd5 : DR W5 R S k4 := hd4.kept hk5 (fun g hg => by have hg : g = W2.heap.size := hg; omega)
      have HBW5 := Lib.hid (show Cells W5 w.heap.size 54 zeroD from HBW4.out.kept hk5 (by omega))
      have HK5 := Lib.hid (show Kept (· = R) w W5 from HK4.out.own hk5 (by omega))
      have lb5 := hk5.size
      clear HBp HBW4
      refine (number_calls (S := S) (k := k4) hd5).mono ?_
      intro e W6 hq
      rcases hq.cases with ⟨kx, hr, hm, hk6⟩ | ⟨a6, k6, hr, hret, hd6, hk6⟩
      · unfold Misfit at hm
        subst hm
        have HX := Lib.hid hr
        clear hr
        go_wp2
        exact ⟨rfl, Parsed.err (HS.out.trans (by rw [HX.out]; rfl)) rfl (HK5.out.trans hk6)⟩
      replace HS := Lib.hid (HS.out.trans (by rw [hr, thn_ok]))
      clear hr hq
      have hret : e = _ := hret
      subst hret
      have lb6 := hk6.size
      have HBb := Lib.hid (show Cells W6 W2.heap.size 54 [.int .i64 q, .int .i64 li, .int .i64 co, .string s, .int .i64 0, .slice none 0 0] from HB5.out.kept hk6 (by omega))
      have HBc := Lib.hid (show Cells W6 w.heap.size 54 zeroD from HBW5.out.kept hk6 (by omega))
      have HK6 := Lib.hid (HK5.out.trans hk6)
      go_wp2_with (first | ((with_reducible show wpList _ _ _ (Oper.mk none (Op.store _ _ _) _ _ _ _ :: _) _ _); (refine wpList_store_part rfl rfl 2 (.tmp 31) (.tmp 30) rfl (W2.heap.size) 4 rfl [.int .i64 a6] rfl HBb.out (Nat.le_of_ble_eq_true rfl) (by kernel_rfl) (by simp [Value.oneCell']) ?_; intro W7 hB7 hk7; replace hB7 : Cells W7 (W2.heap.size) 54 [.int .i64 q, .int .i64 li, .int .i64 co, .string s, .int .i64 a6, .slice none 0 0] := (by simpa using hB7); have HB7 := Lib.hid hB7; clear hB7)))
      have hd7 : DR W7 R S k6 := hd6.kept hk7 (fun g hg => by have hg : g = W2.heap.size := hg; omega)
      have HBW7 := Lib.hid (show Cells W7 w.heap.size 54 zeroD from HBc.out.kept hk7 (by omega))
      have HK7 := Lib.hid (show Kept (· = R) w W7 from HK6.out.own hk7 (by omega))
      have lb7 := hk7.size
      clear HBb HBc
      unfold endS at HS
      refine (want_any (S := S) (k := k6) (s := ⟨#[59]⟩) (by decide) hd7).mono ?_
      intro e W10 hq
      rcases hq.cases with ⟨kx, hr, hm, hk10⟩ | ⟨a10, k10, hr, hret, hd10, hk10⟩
      · unfold Misfit at hm
        subst hm
        have HX := Lib.hid hr
        clear hr
        go_wp2
        exact ⟨rfl, Parsed.err (HS.out.trans (by rw [HX.out]; rfl)) rfl (HK7.out.trans hk10)⟩
      replace HS := Lib.hid (HS.out.trans (by rw [hr, thn_ok]))
      clear hr hq
      have hret : e = _ := hret
      subst hret
      have lb10 := hk10.size
      have HBa := Lib.hid (show Cells W10 W2.heap.size 54 [.int .i64 q, .int .i64 li, .int .i64 co, .string s, .int .i64 a6, .slice none 0 0] from HB7.out.kept hk10 (by omega))
      have HBw := Lib.hid (show Cells W10 w.heap.size 54 zeroD from HBW7.out.kept hk10 (by omega))
      have HK10 := Lib.hid (HK7.out.trans hk10)
      go_wp2_with (first | ((with_reducible show wpList _ _ _ (Oper.mk _ (Op.load _ _) _ _ _ _ :: _) _ _); (refine wpList_load_cells rfl 54 (.tmp 3) rfl (W2.heap.size) rfl _ Tryz.underlying54 rfl HBa.out (by kernel_rfl) ?_)) | ((with_reducible show wpList _ _ _ (Oper.mk none (Op.store _ _ _) _ _ _ _ :: _) _ _); (refine wpList_store_part rfl rfl 54 (.tmp 2) (.tmp 42) rfl (w.heap.size) 0 rfl [.int .i64 q, .int .i64 li, .int .i64 co, .string s, .int .i64 a6, .slice none 0 0] rfl HBw.out (Nat.le_of_ble_eq_true rfl) (by kernel_rfl) (by simp [Value.oneCell']) ?_; intro W11 hB11 hk11; replace hB11 : Cells W11 (w.heap.size) 54 [.int .i64 q, .int .i64 li, .int .i64 co, .string s, .int .i64 a6, .slice none 0 0] := (by simpa using hB11); have HB11 := Lib.hid hB11; clear hB11)))
      refine ret_box Tryz.results78 rfl HB11.out Tryz.underlying54 rfl (by kernel_rfl) rfl (Parsed.ok HS.out ⟨_, rfl, ?_⟩ (by repeat (first | assumption | (with_reducible refine DR.alloc ?_ _) | (with_reducible refine DR.drewN ?_ _) | (with_reducible refine DR.drew ?_) | (with_reducible refine DR.set ?_ (by first | omega | (simp; omega)) _) | (with_reducible refine DR.kept ?_ (by assumption) (fun g hg => by first | exact hg.elim | ((try dsimp only at hg); omega))))) (HK10.out.own hk11 (by omega)))
      exact DV.iff.2 ⟨_, rfl, RowV.nil _ _⟩
  have e2 : (q == 2) = false := by simp; exact fun h => h2 (.inl h)
  have e5 : (q == 5) = false := by simp; exact fun h => h2 (.inr h)
  rw [if_neg h2] at HS
  clear h2
  by_cases h6 : q = 6
  · rw [if_pos h6] at HS
    have e6 : (q == 6) = true := by rw [h6]; rfl
    clear h6
    go_wp2_with (first | (((with_reducible show wpList _ _ _ (Oper.mk none (Op.store _ _ _) _ _ _ _ :: _) _ _); (refine wpList_store_part rfl rfl 9 (.tmp 16) (.tmp 15) rfl (W2.heap.size) 3 rfl [.string s] rfl HBp.out (Nat.le_of_ble_eq_true rfl) (by kernel_rfl) (by simp [Value.oneCell']) ?_; intro W5 hB5 hk5; replace hB5 : Cells W5 (W2.heap.size) 54 [.int .i64 q, .int .i64 li, .int .i64 co, .string s, .int .i64 0, .slice none 0 0] := (by simpa using hB5); have HB5 := Lib.hid hB5; clear hB5)); (have p0 := HB5.out.cell 0; simp only [List.getElem?_cons_zero] at p0; have lw5 := block_lt_of p0)))
    have hd5 : DR W5 R S k4 := hd4.kept hk5 (fun g hg => by have hg : g = W2.heap.size := hg; omega)
    have HBW5 := Lib.hid (show Cells W5 w.heap.size 54 zeroD from HBW4.out.kept hk5 (by omega))
    have HK5 := Lib.hid (show Kept (· = R) w W5 from HK4.out.own hk5 (by omega))
    have lb5 := hk5.size
    clear HBp HBW4
    refine (body_calls HSO.out hd5).mono ?_
    intro e W6 hq
    rcases hq.cases with ⟨kx, hr, hm, hk6⟩ | ⟨a6, k6, hr, hret, hd6, hk6⟩
    · unfold Misfit at hm
      subst hm
      have HX := Lib.hid hr
      clear hr
      go_wp2
      exact ⟨rfl, Parsed.err (HS.out.trans (by rw [HX.out]; rfl)) rfl (HK5.out.trans hk6)⟩
    replace HS := Lib.hid (HS.out.trans (by rw [hr, thn_ok]))
    clear hr hq
    have lb6 := hk6.size
    obtain ⟨v, rfl, hrowv⟩ := hret
    obtain ⟨Av, Nv, Cv, rfl, hff⟩ := hrowv.form
    clear hff
    have HROWv := Lib.hid hrowv
    clear hrowv
    have HBb := Lib.hid (show Cells W6 W2.heap.size 54 [.int .i64 q, .int .i64 li, .int .i64 co, .string s, .int .i64 0, .slice none 0 0] from HB5.out.kept hk6 (by omega))
    have HBc := Lib.hid (show Cells W6 w.heap.size 54 zeroD from HBW5.out.kept hk6 (by omega))
    have HK6 := Lib.hid (HK5.out.trans hk6)
    go_wp2_with (first | ((with_reducible show wpList _ _ _ (Oper.mk none (Op.store _ _ _) _ _ _ _ :: _) _ _); (refine wpList_store_part rfl rfl 52 (.tmp 36) (.tmp 35) rfl (W2.heap.size) 5 rfl [.slice Av Nv Cv] rfl HBb.out (Nat.le_of_ble_eq_true rfl) (by kernel_rfl) (by simp [Value.oneCell']) ?_; intro W7 hB7 hk7; replace hB7 : Cells W7 (W2.heap.size) 54 [.int .i64 q, .int .i64 li, .int .i64 co, .string s, .int .i64 0, .slice Av Nv Cv] := (by simpa using hB7); have HB7 := Lib.hid hB7; clear hB7)) | ((with_reducible show wpList _ _ _ (Oper.mk _ (Op.load _ _) _ _ _ _ :: _) _ _); (refine wpList_load_cells rfl 54 (.tmp 3) rfl (W2.heap.size) rfl _ Tryz.underlying54 rfl HB7.out (by kernel_rfl) ?_)) | ((with_reducible show wpList _ _ _ (Oper.mk none (Op.store _ _ _) _ _ _ _ :: _) _ _); (refine wpList_store_part rfl rfl 54 (.tmp 2) (.tmp 37) rfl (w.heap.size) 0 rfl [.int .i64 q, .int .i64 li, .int .i64 co, .string s, .int .i64 0, .slice Av Nv Cv] rfl (HBc.out.kept hk7 (by omega)) (Nat.le_of_ble_eq_true rfl) (by kernel_rfl) (by simp [Value.oneCell']) ?_; intro W8 hB8 hk8; replace hB8 : Cells W8 (w.heap.size) 54 [.int .i64 q, .int .i64 li, .int .i64 co, .string s, .int .i64 0, .slice Av Nv Cv] := (by simpa using hB8); have HB8 := Lib.hid hB8; clear hB8)))
    refine ret_box Tryz.results78 rfl HB8.out Tryz.underlying54 rfl (by kernel_rfl) rfl (Parsed.ok HS.out ⟨_, rfl, ?_⟩ (by repeat (first | assumption | (with_reducible refine DR.alloc ?_ _) | (with_reducible refine DR.drewN ?_ _) | (with_reducible refine DR.drew ?_) | (with_reducible refine DR.set ?_ (by first | omega | (simp; omega)) _) | (with_reducible refine DR.kept ?_ (by assumption) (fun g hg => by first | exact hg.elim | ((try dsimp only at hg); omega))))) ((HK6.out.own hk7 (by omega)).own hk8 (by omega)))
    exact DV.iff.2 ⟨_, rfl, ((HROWv.out.mono (Z' := fun g => g < W5.heap.size) (fun _ _ h => h)).kept hk7 (fun g _ h => by have h : g = W2.heap.size := h; show g < _; first | omega | (rw [World.size_alloc]; omega)) |>.kept hk8 (fun g _ h => by have h : g = w.heap.size := h; show g < _; first | omega | (rw [World.size_alloc]; omega))).mono (fun g _ h => by have h : g < w.heap.size := h; show g < _; first | omega | (rw [World.size_alloc]; omega))⟩
  · rw [if_neg h6] at HS
    have e6 : (q == 6) = false := by simpa using h6
    clear h6
    go_wp2_with (first | (((with_reducible show wpList _ _ _ (Oper.mk none (Op.store _ _ _) _ _ _ _ :: _) _ _); (refine wpList_store_part rfl rfl 9 (.tmp 16) (.tmp 15) rfl (W2.heap.size) 3 rfl [.string s] rfl HBp.out (Nat.le_of_ble_eq_true rfl) (by kernel_rfl) (by simp [Value.oneCell']) ?_; intro W5 hB5 hk5; replace hB5 : Cells W5 (W2.heap.size) 54 [.int .i64 q, .int .i64 li, .int .i64 co, .string s, .int .i64 0, .slice none 0 0] := (by simpa using hB5); have HB5 := Lib.hid hB5; clear hB5)); (have p0 := HB5.out.cell 0; simp only [List.getElem?_cons_zero] at p0; have lw5 := block_lt_of p0)))
    have hd5 : DR W5 R S k4 := hd4.kept hk5 (fun g hg => by have hg : g = W2.heap.size := hg; omega)
    have HBW5 := Lib.hid (show Cells W5 w.heap.size 54 zeroD from HBW4.out.kept hk5 (by omega))
    have HK5 := Lib.hid (show Kept (· = R) w W5 from HK4.out.own hk5 (by omega))
    have lb5 := hk5.size
    clear HBp HBW4
    unfold endS at HS
    refine (want_any (S := S) (k := k4) (s := ⟨#[59]⟩) (by decide) hd5).mono ?_
    intro e W10 hq
    rcases hq.cases with ⟨kx, hr, hm, hk10⟩ | ⟨a10, k10, hr, hret, hd10, hk10⟩
    · unfold Misfit at hm
      subst hm
      have HX := Lib.hid hr
      clear hr
      go_wp2
      exact ⟨rfl, Parsed.err (HS.out.trans (by rw [HX.out]; rfl)) rfl (HK5.out.trans hk10)⟩
    replace HS := Lib.hid (HS.out.trans (by rw [hr, thn_ok]))
    clear hr hq
    have hret : e = _ := hret
    subst hret
    have lb10 := hk10.size
    have HBa := Lib.hid (show Cells W10 W2.heap.size 54 [.int .i64 q, .int .i64 li, .int .i64 co, .string s, .int .i64 0, .slice none 0 0] from HB5.out.kept hk10 (by omega))
    have HBw := Lib.hid (show Cells W10 w.heap.size 54 zeroD from HBW5.out.kept hk10 (by omega))
    have HK10 := Lib.hid (HK5.out.trans hk10)
    go_wp2_with (first | ((with_reducible show wpList _ _ _ (Oper.mk _ (Op.load _ _) _ _ _ _ :: _) _ _); (refine wpList_load_cells rfl 54 (.tmp 3) rfl (W2.heap.size) rfl _ Tryz.underlying54 rfl HBa.out (by kernel_rfl) ?_)) | ((with_reducible show wpList _ _ _ (Oper.mk none (Op.store _ _ _) _ _ _ _ :: _) _ _); (refine wpList_store_part rfl rfl 54 (.tmp 2) (.tmp 42) rfl (w.heap.size) 0 rfl [.int .i64 q, .int .i64 li, .int .i64 co, .string s, .int .i64 0, .slice none 0 0] rfl HBw.out (Nat.le_of_ble_eq_true rfl) (by kernel_rfl) (by simp [Value.oneCell']) ?_; intro W11 hB11 hk11; replace hB11 : Cells W11 (w.heap.size) 54 [.int .i64 q, .int .i64 li, .int .i64 co, .string s, .int .i64 0, .slice none 0 0] := (by simpa using hB11); have HB11 := Lib.hid hB11; clear hB11)))
    refine ret_box Tryz.results78 rfl HB11.out Tryz.underlying54 rfl (by kernel_rfl) rfl (Parsed.ok HS.out ⟨_, rfl, ?_⟩ (by repeat (first | assumption | (with_reducible refine DR.alloc ?_ _) | (with_reducible refine DR.drewN ?_ _) | (with_reducible refine DR.drew ?_) | (with_reducible refine DR.set ?_ (by first | omega | (simp; omega)) _) | (with_reducible refine DR.kept ?_ (by assumption) (fun g hg => by first | exact hg.elim | ((try dsimp only at hg); omega))))) (HK10.out.own hk11 (by omega)))
    exact DV.iff.2 ⟨_, rfl, RowV.nil _ _⟩
end
end Go.Proofs.YtjkgepppoopheaaGreatDoor
