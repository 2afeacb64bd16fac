/- What the document's Parse answers (conditions: the text is of at most 65536 bytes). -/
import Derived.Test.YtjkgepppoopheaaGreatDoorAbb
import Derived.Test.YtjkgepppoopheaaGreatDoorQ31
import Derived.Test.YtjkgepppoopheaaGreatDoorQ33
import Derived.Test.YtjkgepppoopheaaGreatDoorQ34
import Derived.Test.YtjkgepppoopheaaGreatDoorQ35
set_option maxRecDepth 100000
set_option maxHeartbeats 1000000
namespace Go.Proofs.YtjkgepppoopheaaGreatDoor
open Go.RowKit Go.Shelf
set_option linter.unusedSectionVars false
def RprI (R : Nat) (u : Value) (n : Nat) (T : Nat → TokD) (f : Nat) (w : World) (r : List DT × RS) (m : Nat) (v : Value) (wr : World) : Prop :=
 ∃ (ds : List DT) (k : Nat) (b : Bool) (g : Nat), Grows wr w.heap.size 54 6 v (ds.map DT.d) ∧ RAt wr R u n T (k, b) ∧ Kept (· = R) w wr ∧ k ≤ n ∧ m = (n - k) * 2 + (if b then 0 else 1) ∧ (b = true ∨ n - k + 1 ≤ g) ∧ g ≤ f ∧
  ds.length ≤ k + (if b then 1 else 0) ∧ (ds ++ (declsR n T g (k, b)).1, (declsR n T g (k, b)).2) = r
section
variable {s : ByteArray} {n : Nat} (hg : goodW s.data.toList n) (he : posW s.data.toList n = s.data.toList.length)
include hg he
theorem parse_miss {ds : List DT} {k : Nat} (h : Sim (ds, (k, true)) (progS (srcP s n) (n + 1) 0)) : IsParse s (.error (((srcP s n).tok k).line, ((srcP s n).tok k).col, 120)) := by
 refine .inl ⟨n, hg, he, ?_⟩
 unfold progR
 rw [show (srcP s n).n + 1 = n + 1 from rfl]
 cases hp : progS (srcP s n) (n + 1) 0 with
 | error k' =>
  rw [hp] at h
  have e : ((k, true) : RS) = (k', true) := h
  injection e with e _
  rw [e]
 | ok p =>
  rw [hp] at h
  have e : ((ds, ((k, true) : RS)) : List DT × RS) = (p.1, (p.2, false)) := h
  injection e with _ e
  injection e with _ e
  cases e
theorem parse_ok {ds : List DT} {k : Nat} (h : Sim (ds, (k, false)) (progS (srcP s n) (n + 1) 0)) : progS (srcP s n) (n + 1) 0 = .ok (ds, k) := by
 cases hp : progS (srcP s n) (n + 1) 0 with
 | error k' =>
  rw [hp] at h
  have e : ((k, false) : RS) = (k', true) := h
  injection e with _ e
  cases e
 | ok p =>
  rw [hp] at h
  have e : ((ds, ((k, false) : RS)) : List DT × RS) = (p.1, (p.2, false)) := h
  injection e with e1 e
  injection e with e2 e
  rw [e1, e2]
theorem parse_deep {ds : List DT} {k : Nat} (h : Sim (ds, (k, false)) (progS (srcP s n) (n + 1) 0)) {p : Int × Int} (hd : tooDeepP ds = some p) : IsParse s (.error (p.1, p.2, 121)) := by
 refine .inl ⟨n, hg, he, ?_⟩
 unfold progR
 rw [show (srcP s n).n + 1 = n + 1 from rfl, parse_ok hg he h]
 dsimp only
 rw [hd]
theorem parse_fine {ds : List DT} {k : Nat} (h : Sim (ds, (k, false)) (progS (srcP s n) (n + 1) 0)) (hd : tooDeepP ds = none) : IsParse s (.ok ds) := by
 refine .inl ⟨n, hg, he, ?_⟩
 unfold progR
 rw [show (srcP s n).n + 1 = n + 1 from rfl, parse_ok hg he h]
 dsimp only
 rw [hd]
theorem declR_prog (k : Nat) : k < (declR n (srcP s n).T (k, false)).2.1 ∨ (declR n (srcP s n).T (k, false)).2.2 = true := by
 have h : Sim (declR n (srcP s n).T (k, false)) (declS (srcP s n) k) := decl_sim (S := srcP s n) (askOk_src hg) (kwOk_src hg) k
 cases hp : declS (srcP s n) k with
 | error k' =>
  rw [hp] at h
  have e : (declR n (srcP s n).T (k, false)).2 = (k', true) := h
  rw [e]
  exact .inr rfl
 | ok p =>
  rw [hp] at h
  have e : declR n (srcP s n).T (k, false) = (p.1, (p.2, false)) := h
  rw [e]
  exact .inl (fw_decl _ hp)
end
theorem rparse_any (s : ByteArray) (hs : s.size ≤ 65536) (w : World) :
  Calls Tryz.prog 17 #[.string s] w fun e w' => ∃ r, IsParse s r ∧ ParseV w r e w' ∧ Kept noX w w' := by
 go_enter Tryz.func17, Tryz.ntmps17
 go_wp2_with fail
 obtain ⟨w0, hw0⟩ : ∃ w0, w0 = w.alloc (.cells #[.int .i64 0, .int .i64 0] 25) := ⟨_, rfl⟩
 have hk0 : Kept noX w w0 := by rw [hw0]; exact (Kept.refl _ _).alloc _
 have hz0 : w0.heap.size = w.heap.size + 1 := by rw [hw0]; simp
 have c0 : Cells w0 w.heap.size 25 [.int .i64 0, .int .i64 0] := by rw [hw0]; exact Cells.fresh w 25 [.int .i64 0, .int .i64 0]
 rw [← hw0]
 clear hw0
 obtain ⟨P, hP⟩ : ∃ P, P = w.heap.size := ⟨_, rfl⟩
 rw [← hP] at c0 ⊢
 have C0 := aP c0
 have hPw : w.heap.size ≤ P := by omega
 have hPl : P < w0.heap.size := by omega
 clear c0 hP hz0
 refine (rlex_any s hs w0).mono ?_
 intro e W1 hlex
 rcases hlex with ⟨n, v, hg, he, rfl, hown, hob, hk1⟩ | ⟨n, hg, hlt, hbad, rfl, hk1⟩
 ·have hrow : TokRow W1 v n (fun k => tokD s (posW s.data.toList k)) := ⟨_, hown, fun k hk j hj => toks_at s _ _ k j hk hj⟩
  obtain ⟨A, c, rfl, hnc, hcm⟩ := hrow.form
  have HG := aP (And.intro hg he)
  have HROW := aP hrow
  have D0 := aP (C0.out.keep hk1)
  clear hg he hown hrow
  have s1 := hk1.size
  have hlen : s.data.toList.length = s.size := by simp
  have hfew : n ≤ 65536 := by
   have h1 := posW_ge HG.out.1
   have h2 := HG.out.2
   omega
  go_wp2_with fail
  obtain ⟨R, hR⟩ : ∃ R, R = W1.heap.size + 1 := ⟨_, rfl⟩
  obtain ⟨W2, hW2⟩ : ∃ W2, W2 = (W1.alloc (.cells #[.int .i64 0, .int .i64 0] 25)).alloc (.cells #[.slice A n c, .int .i64 0, .bool false] 88) := ⟨_, rfl⟩
  have hk2 : Kept noX W1 W2 := by rw [hW2]; exact ((Kept.refl _ _).alloc _).alloc _
  have hC2 : Cells W2 R 88 [.slice A n c, .int .i64 ((0 : Nat) : Int), .bool false] := by
   rw [hW2, hR]
   have h := Cells.fresh (W1.alloc (.cells #[.int .i64 0, .int .i64 0] 25)) 88 [.slice A n c, .int .i64 0, .bool false]
   rw [World.size_alloc] at h
   exact h
  rw [← hW2, ← hR]
  have hPR : P < R := by omega
  have hw1 := hk0.size
  have hRw : w.heap.size < R := by omega
  obtain ⟨T, hT⟩ : ∃ T : Nat → TokD, T = (srcP s n).T := ⟨_, rfl⟩
  have HROW : Hid (TokRow W1 (.slice A n c) n T) := aP (by rw [hT]; exact HROW.out)
  have HPR := aP (declR_prog HG.out.1 HG.out.2)
  rw [← hT] at HPR
  have HT := aP hT
  have hR2 : RAt W2 R (.slice A n c) n T (0, false) := ⟨hC2, TokRow.kept HROW.out hk2 (fun _ _ h => h), by omega⟩
  have E0 := aP (D0.out.keep hk2)
  have HKw := aP ((hk0.trans hk1).trans hk2)
  have hRl := hC2.lt
  have hown : ∀ g, (Value.slice A n c).ownBlock = some g → g < R := fun g hg => by
   have := TokRow.own_lt HROW.out hg
   omega
  have HOWN := aP hown
  have hS := prog_src HG.out.1
  rw [show (srcP s n).n = n from rfl, show (srcP s n).T = T from hT.symm] at hS
  have hsh := declsR_sh (n := n) (T := T) (n + 1) (0, false) (Nat.zero_le n)
  generalize hrr : declsR n T (n + 1) (0, false) = rr at hS hsh
  have HSH := aP hsh
  have HS := aP hS
  have HI := aP (show RprI R (.slice A n c) n T (n + 1) W2 rr ((n - 0) * 2 + 1) (.slice none 0 0) W2 from ⟨[], 0, false, n + 1, Grows.nil _ _ _ _, hR2, Kept.refl _ _, Nat.zero_le _, rfl, .inr kom, Nat.le_refl _, Nat.zero_le _, hrr⟩)
  clear hsh hS hown hR2 hC2 hrr hW2 hT D0 hk1 hk2 hob C0 hk0 HROW
  subst hR
  go_loopg [9] ((n - 0) * 2 + 1) (fun m v9 wr => RprI (W1.heap.size + 1) (.slice A n c) n T (n + 1) W2 rr m v9 wr)
  case atStart => exact HI.out
  case round =>
   obtain ⟨ds, kk, bb, g, hgr, hdr, hkr, hkkn, rfl, hg0, hg2, hdl, hrr⟩ := hrel
   have hsr := hkr.size
   have hfew2 := hdr.few
   have HGR := aP hgr
   have HKR := aP hkr
   have HDR := aP hdr
   have HRR := aP hrr
   have c1 := hdr.is.cell 1
   have c2 := hdr.is.cell 2
   simp only [aZ, aS] at c1 c2
   clear hgr hkr hdr hrr
   cases bb with
   | true =>
    have HL := aP (show rr = (ds, (kk, true)) from by rw [← HRR.out, decls_stuck]; simp)
    clear HRR hg0 hdl
    by_cases hlt : kk < n
    ·have hd1 : decide ((n : Int) ≤ (kk : Int)) = false := by rw [decide_eq_false_iff_not]; omega
     have hd2 : decide (n ≤ kk) = false := by rw [decide_eq_false_iff_not]; omega
     go_wp2_with fail
     obtain ⟨g, c', hv, _, hcell⟩ := HDR.out.row.at_ hlt
     injection hv with hA' _ hcc
     subst hA'
     subst hcc
     have a3 := hcell 3 kom; have a4 := hcell 4 kom
     have HP := aP (E0.out.kept HKR.out (fun h => by have h : P = W1.heap.size + 1 := h; omega))
     have b0 := HP.out.cell 0; have b1 := HP.out.cell 1; have f0 := HP.out.free 0; have f1 := HP.out.free 1
     simp only [TokD.cells, aZ, aS] at a3 a4 b0 b1
     have HI2 := aP (show IsParse s (.error ((T kk).line, (T kk).col, 120)) from by
       have h := parse_miss HG.out.1 HG.out.2 (by rw [← HL.out]; exact HS.out)
       rw [tok_lt_eq (show kk < (srcP s n).n from hlt), ← HT.out] at h
       exact h)
     generalize (T kk).line = li at *
     generalize (T kk).col = co at *
     clear hcell
     go_region
     go_wp2
     refine ret_3 Tryz.results17 rfl (resVal.tmp rfl) (resVal.box rfl (((HP.out.put 0 _).put 1 _).drew) Tryz.underlying25 rfl krf) (resVal.tmp rfl) ⟨_, HI2.out, rfl, ?_⟩
     exact (((HKw.out.join HKR.out (fun i hi hlt => by have hi : i = W1.heap.size + 1 := hi; omega)).setCell (fun h => by dsimp only at h; omega) _).setCell (fun h => by dsimp only at h; omega) _).drew
    ·have hd1 : decide ((n : Int) ≤ (kk : Int)) = true := by rw [decide_eq_true_eq]; omega
     have hd2 : decide (n ≤ kk) = true := by rw [decide_eq_true_eq]; omega
     go_wp2_with fail
     have HP := aP (E0.out.kept HKR.out (fun h => by have h : P = W1.heap.size + 1 := h; omega))
     have HI2 := aP (show IsParse s (.error (((plOf s.data.toList s.size).1 : Nat), ((plOf s.data.toList s.size).2 : Nat), 120)) from by
       have h := parse_miss HG.out.1 HG.out.2 (by rw [← HL.out]; exact HS.out)
       rw [Src.tok, if_neg (show ¬ kk < (srcP s n).n from hlt)] at h
       exact h)
     refine (rend_any s kom wr).mono ?_
     rintro e W3 ⟨rfl, hk3⟩
     have s3 := hk3.size
     unfold plV
     generalize ((plOf s.data.toList s.size).1 : Int) = li at *
     generalize ((plOf s.data.toList s.size).2 : Int) = co at *
     have HQ := aP (HP.out.keep hk3)
     have b0 := HQ.out.cell 0; have b1 := HQ.out.cell 1; have f0 := HQ.out.free 0; have f1 := HQ.out.free 1
     simp only [aZ, aS] at b0 b1
     have HKq := aP ((HKw.out.join HKR.out (fun i hi hlt => by have hi : i = W1.heap.size + 1 := hi; omega)).trans hk3)
     go_wp2
     refine ret_3 Tryz.results17 rfl (resVal.tmp rfl) (resVal.box rfl (((HQ.out.put 0 _).put 1 _)) Tryz.underlying25 rfl krf) (resVal.tmp rfl) ⟨_, HI2.out, rfl, ?_⟩
     exact (HKq.out.setCell (fun h => by dsimp only at h; omega) _).setCell (fun h => by dsimp only at h; omega) _
   | false =>
    by_cases hlt : kk < n
    ·have hd1 : decide ((kk : Int) < (n : Int)) = true := by rw [decide_eq_true_eq]; omega
     have hd2 : decide (kk < n) = true := by rw [decide_eq_true_eq]; omega
     have hpr := HPR.out kk
     have hon := declR_on (n := n) (T := T) (kk, false)
     have hin := hon.2 hkkn
     obtain ⟨g', rfl⟩ : ∃ g', g = g' + 1 := ⟨g - 1, by rcases hg0 with h | h; cases h; omega⟩
     have hg0 : n - kk + 1 ≤ g' + 1 := by
      rcases hg0 with h | h
      ·cases h
      ·exact h
     have hdl : ds.length ≤ kk := hdl
     have hrr := HRR.out
     rw [show declsR n T (g' + 1) (kk, false) = ((declR n T (kk, false)).1 :: (declsR n T g' (declR n T (kk, false)).2).1, (declsR n T g' (declR n T (kk, false)).2).2) from by
       rw [declsR, Bool.false_or, if_neg (by rw [decide_eq_true_eq]; show ¬ n ≤ kk; omega)]] at hrr
     have HDC := aP (fun W (h : RAt W (W1.heap.size + 1) (.slice A n c) n T (kk, false)) => rdecl_any h)
     generalize declR n T (kk, false) = sr at hrr hpr hin hon HDC
     obtain ⟨s3, k3, b3⟩ := sr
     dsimp only at hrr hpr hin hon HDC
     have HRX := aP (show ((ds ++ [s3]) ++ (declsR n T g' (k3, b3)).1, (declsR n T g' (k3, b3)).2) = rr from by rw [← hrr, List.append_assoc] <;> rfl)
     clear hrr HRR
     go_wp2_with fail
     refine (HDC.out wr HDR.out).mono ?_
     rintro e W3 ⟨cs, rfl, hsv, hr3, hk3⟩
     have hz3 := hk3.size
     have hG3 := HGR.out.kept hk3 (fun b hb => by have hb : b = W1.heap.size + 1 := hb; omega)
     have hsv2 : Rep W3 (fun b => b < W2.heap.size ∨ some b = u9.ownBlock) cs s3.d := Rep.mono hsv (fun b _ hb => by
       show b < wr.heap.size
       rcases hb with hb | hb
       · omega
       · exact block_own HGR.out hb.symm)
     have HSV := aP hsv2
     have HG3 := aP hG3
     have HL := aP (DV.len hsv)
     have HK3 := aP (HKR.out.trans hk3)
     have HR3 := aP hr3
     obtain ⟨i0, hi0, hz0, hzz1, hzz2⟩ := info_cut infoDecl
     clear hsv hsv2 hG3 hk3 hr3 HGR HKR HDR HDC c1 c2
     go_wp2_with (first | ((with_reducible show wpList _ _ _ (Oper.mk _ (Op.buildSlice _ _ _) _ _ _ _ :: _) _ _); refine wpList_append_struct rfl rfl 23 54 (.tmp 42) (.tmp 40) 43 rfl rfl rfl i0 (.agg zeroD.toArray) i0.bytes Tryz.underlying23 hi0 hz0 hzz1 rfl rfl (by decide) kle HG3.out rfl rfl rfl HL.out HSV.out kom (by rw [List.length_map]; unfold maxLen; omega) (by rw [List.length_map]; exact Nat.le_trans (Nat.mul_le_mul (show ds.length + 1 ≤ 1000001 by omega) hzz2) (by decide)) ?_; intro v4 W4 hG4 hk4; have HG4 := aP hG4; clear hG4))
     have ho := fun g (hg : some g = u9.ownBlock) => HG3.out.own_ge hg.symm
     go_roundg ((n - k3) * 2 + (if b3 then 0 else 1))
     case measure =>
      rcases hpr with hp | hp
      ·cases b3 <;> simp <;> omega
      ·have hon1 := hon.1
       dsimp only at hon1
       rw [hp]; simp; omega
     case rel =>
      refine ⟨ds ++ [s3], k3, b3, g', (show Grows W4 W2.heap.size 54 6 v4 ((ds ++ [s3]).map DT.d) from by (have h4 := HG4.out; simpa using h4)),
        R2.kept HR3.out hk4 (fun hb => by have := ho (W1.heap.size + 1) hb; omega) (fun b hb hx => by have := ho b hx; have := HOWN.out b hb; omega), HK3.out.join hk4 (fun i hi hlt => by have := ho i hi; omega), hin, rfl, ?_, by omega, ?_, HRX.out⟩
      ·exact k_30
      ·rw [List.length_append, List.length_singleton]
       rcases hpr with hp | hp
       ·omega
       ·rw [hp]; simp; have := hon.1; dsimp only at this; omega
    ·have hd1 : decide ((kk : Int) < (n : Int)) = false := by rw [decide_eq_false_iff_not]; omega
     have hd2 : decide (kk < n) = false := by rw [decide_eq_false_iff_not]; omega
     have HL := aP (show rr = (ds, (kk, false)) from by
       rw [← HRR.out]
       cases g with
       | zero => rw [declsR]; simp
       | succ g => rw [declsR, Bool.false_or, if_pos (by rw [decide_eq_true_eq]; show n ≤ kk; omega)]; simp)
     have hS := HS.out
     rw [HL.out] at hS
     have hpo := parse_ok HG.out.1 HG.out.2 hS
     have HSZ := aP (fun d (hd : d ∈ ds) => (sz_prog _ _ hpo).2 d hd)
     have HSH2 := aP (show ∀ d ∈ ds, ShB (n + 1) d.body from by have h := HSH.out; rw [HL.out] at h; exact h)
     have hrow := HGR.out.row (by decide)
     obtain ⟨Av, nv, cv, rfl, hnv, hnvc, hcvm⟩ := hrow.form
     rw [List.length_map] at hnv
     subst hnv
     have HROW2 := aP hrow
     have HS2 := aP hS
     have HP := aP (E0.out.kept HKR.out (fun h => by have h : P = W1.heap.size + 1 := h; omega))
     have HKr := aP (HKw.out.join HKR.out (fun i hi hlt => by have hi : i = W1.heap.size + 1 := hi; omega))
     have hkk : kk = n := by omega
     clear hS hpo hrow hg0 hdl HRR HGR HSH HL
     go_wp2_with fail
     go_loopw [10] (fun i wr' => ∃ k : Nat, k ≤ ds.length ∧ i = .int .i64 k ∧ tooDeepP (ds.drop k) = tooDeepP ds ∧ Kept noX wr wr') (fun i _ => ds.length - (intOf i).toNat)
     case atStart => exact ⟨0, Nat.zero_le _, rfl, rfl, Kept.refl _ _⟩
     case round =>
      obtain ⟨k, hk, rfl, hf, hkr2⟩ := hrel
      have hsr2 := hkr2.size
      have HQ := aP (HP.out.keep hkr2)
      have hcvm2 := hcvm
      unfold maxLen at hcvm2
      by_cases hlt2 : k < ds.length
      ·have hdl : decide ((k : Int) < (ds.length : Int)) = true := by simpa using hlt2
       have hvr := (HROW2.out.keep hkr2).mono (Z' := noX) (fun _ _ h => h.elim)
       obtain ⟨g', o', c2', size, cs, hveq, hcl, hrep, hcell⟩ := hvr.at_ (i := k) (by simpa using hlt2)
       rw [List.getElem_map] at hrep
       have hdv : DV _ noX cs ds[k] := hrep
       have hlen := hdv.len
       rw [hlen] at hcl
       subst hcl
       injection hveq with hA hlen2 hc2
       subst hA hc2
       clear hlen2
       obtain ⟨vb, rfl, hvb⟩ := DV.iff.1 hdv
       have c5 := hcell 5 (by decide)
       simp only [aZ, aS] at c5
       rw [← Nat.add_assoc] at c5
       have hsz := HSZ.out _ (List.getElem_mem hlt2)
       have HDP := aP (fun W (h : RowV W noX vb (ST.ds ds[k].body)) => rDeep_any (n + 1) kom (szL ds[k].body) ds[k].body (Nat.le_refl _) 1 kom (HSH2.out _ (List.getElem_mem hlt2) 1) vb W h)
       have HVB := aP hvb
       have htd := tooDeepP_drop hlt2
       rw [hf] at htd
       obtain ⟨Ab, nb, cb, rfl, hnb, hnbc, hcbm⟩ := hvb.form
       clear hnb hnbc hcbm hvr hcell hrep hdv hlen hvb
       generalize firstBad (seqL 1 ds[k].body) = fb at htd HDP
       go_wp2_with fail
       refine (HDP.out _ HVB.out).mono ?_
       rintro e W5 ⟨rfl, hk5⟩
       have hs5 := hk5.size
       unfold DeepV
       cases fb with
       | some p =>
        obtain ⟨li, co⟩ := p
        have HI2 := aP (parse_deep HG.out.1 HG.out.2 HS2.out htd)
        simp only [Option.getD_some, Option.isSome_some]
        go_wp2_with fail
        obtain ⟨W6, hW6⟩ : ∃ W6, W6 = W5.alloc (.cells #[.int .i64 li, .int .i64 co] 25) := ⟨_, rfl⟩
        have hfr : Cells W6 W5.heap.size 25 [.int .i64 li, .int .i64 co] := by rw [hW6]; exact Cells.fresh W5 25 [.int .i64 li, .int .i64 co]
        have hk6 : Kept noX W5 W6 := by rw [hW6]; exact (Kept.refl _ _).alloc _
        rw [← hW6]
        have HQ6 := aP ((HQ.out.keep hk5).keep hk6)
        have hPl2 := HP.out.lt
        have hPne : P ≠ W5.heap.size := by omega
        have a0 := hfr.cell 0; have a1 := hfr.cell 1
        have b0 := HQ6.out.cell 0; have b1 := HQ6.out.cell 1; have f0 := HQ6.out.free 0; have f1 := HQ6.out.free 1
        simp only [aZ, aS] at a0 a1 b0 b1
        have HK6 := aP (((HKr.out.trans hkr2).trans hk5).trans hk6)
        clear hfr hW6
        go_region
        go_wp2
        refine ret_3 Tryz.results17 rfl (resVal.tmp rfl) (resVal.box rfl (((HQ6.out.put 0 _).put 1 _).drew) Tryz.underlying25 rfl krf) (resVal.tmp rfl) ⟨_, HI2.out, rfl, ?_⟩
        exact ((HK6.out.setCell (fun h => by dsimp only at h; omega) _).setCell (fun h => by dsimp only at h; omega) _).drew
       | none =>
        simp only [Option.getD_none, Option.isSome_none]
        go_wp2
        go_roundw
        case rel => exact ⟨k + 1, by omega, by go_num, htd.symm, (hkr2.trans hk5).alloc _⟩
        case measure => simp [intOf]; omega
      ·have hdl : decide ((k : Int) < (ds.length : Int)) = false := by simpa using hlt2
       have hk2 : k = ds.length := by omega
       have HI2 := aP (parse_fine HG.out.1 HG.out.2 HS2.out (by rw [← hf, hk2, List.drop_length] <;> rfl))
       have b0 := HQ.out.cell 0; have b1 := HQ.out.cell 1; have f0 := HQ.out.free 0; have f1 := HQ.out.free 1
       simp only [aZ, aS] at b0 b1
       go_wp2
       have hkP : ∀ u u2 : Value, ∀ W : World, Kept (· = P) W ((W.setCell ⟨P, 0, none⟩ u).setCell ⟨P, 1, none⟩ u2) := fun u u2 W => ((Kept.refl _ _).setCell (fun _ => by rfl) _).setCell (fun _ => by rfl) _
       refine ret_3 Tryz.results17 rfl (resVal.tmp rfl) (resVal.box rfl ((HQ.out.put 0 _).put 1 _) Tryz.underlying25 rfl krf) (resVal.tmp rfl) ⟨_, HI2.out, ⟨_, rfl, ?_⟩, ?_⟩
       ·exact ((HROW2.out.keep hkr2).kept (hkP _ _ _) (fun g _ h => by have h : g = P := h; show g < W2.heap.size; omega)).mono (fun g _ h => by have h : g < w.heap.size := h; show g < W2.heap.size; omega)
       ·exact ((HKr.out.trans hkr2).setCell (fun h => by dsimp only at h; omega) _).setCell (fun h => by dsimp only at h; omega) _
 ·have HI : Hid (IsParse s (.error (((plOf s.data.toList (posW s.data.toList n)).1 : Nat), ((plOf s.data.toList (posW s.data.toList n)).2 : Nat), errW s.data.toList (posW s.data.toList n)))) := aP (.inr ⟨n, hg, hlt, hbad, rfl⟩)
  generalize ((plOf s.data.toList (posW s.data.toList n)).1 : Int) = li at *
  generalize ((plOf s.data.toList (posW s.data.toList n)).2 : Int) = co at *
  generalize errW s.data.toList (posW s.data.toList n) = er at *
  have hne : (er != 0) = true := by simpa using hbad
  have D0 := aP (C0.out.keep hk1)
  clear hg hlt hbad
  have s1 := hk1.size
  go_wp2_with fail
  obtain ⟨W2, hW2⟩ : ∃ W2, W2 = W1.alloc (.cells #[.int .i64 li, .int .i64 co] 25) := ⟨_, rfl⟩
  have hfr : Cells W2 W1.heap.size 25 [.int .i64 li, .int .i64 co] := by rw [hW2]; exact Cells.fresh W1 25 [.int .i64 li, .int .i64 co]
  have hk2 : Kept noX W1 W2 := by rw [hW2]; exact (Kept.refl _ _).alloc _
  have F0 := D0.out.keep hk2
  rw [← hW2]
  obtain ⟨Q, hQ⟩ : ∃ Q, Q = W1.heap.size := ⟨_, rfl⟩
  rw [← hQ] at hfr ⊢
  have hPne : P ≠ Q := by omega
  have a0 := hfr.cell 0; have a1 := hfr.cell 1
  have p0 := F0.cell 0; have p3 := F0.cell 1; have p1 := F0.free 0; have p2 := F0.free 1
  simp only [aZ, aS] at a0 a1 p0 p3
  have HF := aP F0
  have HK := aP ((hk0.trans hk1).trans hk2)
  clear F0 hfr hW2 hk0 hk1 hk2 hQ C0
  go_region
  go_wp2
  exact ret_3 Tryz.results17 rfl (resVal.tmp rfl) (resVal.box rfl (((HF.out.put 0 _).put 1 _).drew) Tryz.underlying25 rfl krf) (resVal.tmp rfl) ⟨_, HI.out, rfl, ((HK.out.setCell (fun h => by dsimp only at h; omega) _).setCell (fun h => by dsimp only at h; omega) _).drew⟩
end Go.Proofs.YtjkgepppoopheaaGreatDoor
