/- The document's reader of layer 2 at a statement, a block, whole (conditions: at most 1000000 words). -/
import Derived.Test.YtjkgepppoopheaaGreatDoorAbb
import Derived.Test.YtjkgepppoopheaaGreatDoorQ6
import Derived.Test.YtjkgepppoopheaaGreatDoorQ12
import Derived.Test.YtjkgepppoopheaaGreatDoorQ14
import Derived.Test.YtjkgepppoopheaaGreatDoorQ7
import Derived.Test.YtjkgepppoopheaaGreatDoorQ8
import Derived.Test.YtjkgepppoopheaaGreatDoorQ9
import Derived.Test.YtjkgepppoopheaaGreatDoorQ10
import Derived.Test.YtjkgepppoopheaaGreatDoorQ11
set_option maxRecDepth 100000
set_option maxHeartbeats 1000000
namespace Go.Proofs.YtjkgepppoopheaaGreatDoor
open Go.RowKit Go.Shelf
section
variable {R : Nat} {u : Value} {n : Nat} {T : Nat → TokD} {st : RS} {w : World} {f : Nat}
def RbkI (R : Nat) (u : Value) (n : Nat) (T : Nat → TokD) (f : Nat) (w : World) (r : List ST × RS) (m : Nat) (v : Value) (wr : World) : Prop :=
 ∃ (ds : List ST) (k : Nat) (b : Bool) (g : Nat), Grows wr w.heap.size 63 25 v (ST.ds ds) ∧ RAt wr R u n T (k, b) ∧ Kept (· = R) w wr ∧ k ≤ n ∧ m = (n - k) * 2 + (if b then 0 else 1) ∧ (b = true ∨ (n - k) * 3 + 2 ≤ g) ∧ 1 ≤ g ∧ g ≤ f ∧
  ds.length ≤ k + (if b then 1 else 0) ∧ (ds ++ (restR n T g (k, b)).1, (restR n T g (k, b)).2) = r
theorem rblock_step (hSt : ∀ g, g < f → StmC n T g) : BlkC n T (f + 1) := by
 intro R u st w h hkn hf
 have hfew := h.few
 have hRl := h.is.lt
 have HVB := aP h.own_lt
 have HST := aP hSt
 have HM := aP (muR_any h ⟨#[123]⟩)
 have hon := (muR_on (T := T) st ⟨#[123]⟩).2 hkn
 have hon1 := (muR_on (n := n) (T := T) st ⟨#[123]⟩).1
 have HBR : Hid (blockR n T (f + 1) st = ((restR n T f (muR n T st ⟨#[123]⟩)).1, muR n T (restR n T f (muR n T st ⟨#[123]⟩)).2 ⟨#[125]⟩)) := aP (by rw [blockR])
 generalize muR n T st ⟨#[123]⟩ = st1 at HM HBR hon hon1
 obtain ⟨k1, b1⟩ := st1
 dsimp only at hon hon1
 generalize hrr : restR n T f (k1, b1) = rr at HBR
 clear h hSt
 go_enter Tryz.func87, Tryz.ntmps87
 go_wp2_with fail
 refine HM.out.mono ?_
 rintro e W1 ⟨rfl, hr1, hk1⟩
 have hz1 := hk1.size
 have HI := aP (show RbkI R u n T f w rr ((n - k1) * 2 + (if b1 then 0 else 1)) (.slice none 0 0) W1 from ⟨[], k1, b1, f, Grows.nil _ _ _ _, hr1, hk1, hon, rfl, .inr kom, by omega, Nat.le_refl _, Nat.zero_le _, hrr⟩)
 clear hr1 hk1 HM hrr
 go_wp2_with fail
 go_loopg [3] ((n - k1) * 2 + (if b1 then 0 else 1)) (fun m v3 wr => RbkI R u n T f w rr m v3 wr)
 case atStart => exact HI.out
 case round =>
  obtain ⟨ds, kk, bb, g, hgr, hdr, hkr, hkkn, rfl, hg0, hg1, hg2, hdl, hrr⟩ := hrel
  obtain ⟨g', rfl⟩ : ∃ g', g = g' + 1 := ⟨g - 1, by omega⟩
  have hsr := hkr.size
  have HGR := aP hgr
  have HKR := aP hkr
  have HDR := aP hdr
  have HRR := aP hrr
  have c2 := hdr.is.cell 2
  simp only [aZ, aS] at c2
  clear hgr hkr hdr hrr
  cases bb with
  | true =>
   have HL := aP (show rr = (ds, (kk, true)) from by rw [← HRR.out, rest_stuck]; simp)
   have HMU := aP (muR_any HDR.out ⟨#[125]⟩)
   clear HRR hg0 hdl
   go_wp2_with fail
   refine HMU.out.mono ?_
   rintro e W2 ⟨rfl, hr2, hk2⟩
   have hg2 := HGR.out.kept hk2 (fun b hb => by have hb : b = R := hb; omega)
   have HRW := aP (hg2.row (by decide))
   have HK2 := aP (HKR.out.trans hk2)
   have HR2 := aP hr2
   clear hg2 hk2 hr2 HGR HKR HDR HMU c2
   go_wp2
   go_ret
   refine ⟨_, rfl, ?_, ?_, HK2.out⟩
   ·rw [HBR.out, HL.out]; exact HRW.out
   ·rw [HBR.out, HL.out]; exact HR2.out
  | false =>
   have hg0 : (n - kk) * 3 + 2 ≤ g' + 1 := by
    rcases hg0 with h | h
    ·cases h
    ·exact h
   have hdl : ds.length ≤ kk := hdl
   have hrs : restR n T (g' + 1) (kk, false) = if isR n T (kk, false) ⟨#[125]⟩ then ([], (kk, false)) else ((stmtR n T g' (kk, false)).1 :: (restR n T g' (stmtR n T g' (kk, false)).2).1, (restR n T g' (stmtR n T g' (kk, false)).2).2) := by rw [restR] <;> rfl
   have hrr := HRR.out
   rw [hrs] at hrr
   have HIS := aP (isR_any HDR.out ⟨#[125]⟩)
   clear HRR hrs
   cases hi : isR n T (kk, false) ⟨#[125]⟩ with
   | true =>
    rw [hi, if_pos rfl, List.append_nil] at hrr
    rw [hi] at HIS
    have HL := aP hrr.symm
    clear hrr hi
    go_wp2_with fail
    refine HIS.out.mono ?_
    rintro e W2 ⟨rfl, hk2⟩
    have HMU := aP (muR_any (HDR.out.keep hk2) ⟨#[125]⟩)
    have hz2 := hk2.size
    have HG2 := aP (HGR.out.kept hk2 (fun b hb => hb.elim))
    have HK2 := aP (HKR.out.trans hk2.any)
    clear hk2 HGR HKR HDR HIS c2
    go_wp2_with fail
    refine HMU.out.mono ?_
    rintro e W3 ⟨rfl, hr3, hk3⟩
    have hg3 := HG2.out.kept hk3 (fun b hb => by have hb : b = R := hb; omega)
    have HRW := aP (hg3.row (by decide))
    have HK3 := aP (HK2.out.trans hk3)
    have HR3 := aP hr3
    clear hg3 hk3 hr3 HG2 HK2 HMU
    go_wp2
    go_ret
    refine ⟨_, rfl, ?_, ?_, HK3.out⟩
    ·rw [HBR.out, HL.out]; exact HRW.out
    ·rw [HBR.out, HL.out]; exact HR3.out
   | false =>
    rw [hi, if_neg Bool.false_ne_true] at hrr
    rw [hi] at HIS
    obtain ⟨g2', rfl⟩ : ∃ g2', g' = g2' + 1 := ⟨g' - 1, by omega⟩
    have hpr := stmt_prog (n := n) (T := T) g2' kk
    have hin := ((stmts_on (n := n) (T := T) (g2' + 1)).1 (kk, false)).2 hkkn
    have hon3 := ((stmts_on (n := n) (T := T) (g2' + 1)).1 (kk, false)).1
    have HSC := aP (HST.out (g2' + 1) kom R u (kk, false))
    generalize stmtR n T (g2' + 1) (kk, false) = sr at hrr hpr hin hon3 HSC
    obtain ⟨s3, k3, b3⟩ := sr
    dsimp only at hrr hpr hin hon3 HSC
    have HRX := aP (show ((ds ++ [s3]) ++ (restR n T (g2' + 1) (k3, b3)).1, (restR n T (g2' + 1) (k3, b3)).2) = rr from by rw [← hrr, List.append_assoc] <;> rfl)
    clear hrr hi
    go_wp2_with fail
    refine HIS.out.mono ?_
    rintro e W2 ⟨rfl, hk2⟩
    have hz2 := hk2.size
    have HG2 := aP (HGR.out.kept hk2 (fun b hb => hb.elim))
    have HK2 := aP (HKR.out.trans hk2.any)
    have HR2 := aP (HDR.out.keep hk2)
    clear hk2 HGR HKR HDR HIS c2
    go_wp2_with fail
    refine (HSC.out W2 HR2.out hkkn kom).mono ?_
    rintro e W3 ⟨cs, rfl, hsv, hr3, hk3⟩
    have hz3 := hk3.size
    have hG3 := HG2.out.kept hk3 (fun b hb => by have hb : b = R := hb; omega)
    have hsv2 : Rep W3 (fun b => b < w.heap.size ∨ some b = u3.ownBlock) cs s3.d := Rep.mono hsv (fun b _ hb => by
      show b < W2.heap.size
      rcases hb with hb | hb
      · omega
      · exact block_own HG2.out hb.symm)
    have HSV := aP hsv2
    have HG3 := aP hG3
    have HL := aP (SV.len hsv)
    have HK3 := aP (HK2.out.trans hk3)
    have HR3 := aP hr3
    obtain ⟨i0, hi0, hz0, hzz1, hzz2⟩ := info_cut infoSt
    clear hsv hsv2 hG3 hk3 hr3 HR2 HK2 HG2 HSC
    go_wp2_with (first | ((with_reducible show wpList _ _ _ (Oper.mk _ (Op.buildSlice _ _ _) _ _ _ _ :: _) _ _); refine wpList_append_struct rfl rfl 52 63 (.tmp 18) (.tmp 16) 19 rfl rfl rfl i0 (.agg zeroSt.toArray) i0.bytes Tryz.underlying52 hi0 hz0 hzz1 rfl rfl (by decide) kle HG3.out rfl rfl rfl HL.out HSV.out kom (by rw [ST.ds_length]; unfold maxLen; omega) (by rw [ST.ds_length]; exact Nat.le_trans (Nat.mul_le_mul (show ds.length + 1 ≤ 1000001 by omega) hzz2) (by decide)) ?_; intro v4 W4 hG4 hk4; have HG4 := aP hG4; clear hG4))
    have ho := fun g (hg : some g = u3.ownBlock) => HG3.out.own_ge hg.symm
    go_roundg ((n - k3) * 2 + (if b3 then 0 else 1))
    case measure =>
     rcases hpr with hp | hp
     ·cases b3 <;> simp <;> omega
     ·rw [hp]; simp; omega
    case rel =>
     refine ⟨ds ++ [s3], k3, b3, g2' + 1, (show Grows W4 w.heap.size 63 25 v4 (ST.ds (ds ++ [s3])) from by (have h4 := HG4.out; rw [ST.ds_eq] at h4 ⊢; simpa using h4)),
       R2.kept HR3.out hk4 (fun hb => by have := ho R hb; omega) (fun b hb hx => by have := ho b hx; have := HVB.out b hb; omega), HK3.out.join hk4 (fun i hi hlt => by have := ho i hi; omega), hin, rfl, ?_, by omega, by omega, ?_, HRX.out⟩
     ·exact k_30
     ·rw [List.length_append, List.length_singleton]
      rcases hpr with hp | hp
      ·omega
      ·rw [hp]; simp; omega
end
section
variable {n : Nat} {T : Nat → TokD} {f : Nat}
theorem stm_step (hB : BlkC n T f) : StmC n T (f + 1) := by
 intro R v st w h hkn hf
 have hle := kindUp_le (n := n) (T := T) (st := st) 15
 have hK : kindR n T st = 0 ∨ kindR n T st = 1 ∨ kindR n T st = 4 ∨ kindR n T st = 5 ∨ kindR n T st = 6 ∨ kindR n T st = 7 ∨ kindR n T st = 8 ∨ kindR n T st = 9 ∨ kindR n T st = 10 ∨ kindR n T st = 11 ∨ kindR n T st = 12 ∨ kindR n T st = 13 ∨ kindR n T st = 14 ∨ kindR n T st = 15 ∨ kindR n T st = 2 ∨ kindR n T st = 3 := by
  have : kindR n T st ≤ 15 := hle
  omega
 have hno : ∀ j, (j = 2 ∨ j = 3) → ∀ m, m ≤ 15 → kindUp n T st m ≠ j := by
  intro j hj m
  induction m with
  | zero => intro _; rw [kindUp]; omega
  | succ m ih =>
   intro hm
   rw [kindUp]
   split
   ·rename_i hc
    intro e
    have : m + 1 = 2 ∨ m + 1 = 3 := by omega
    rcases this with e2 | e2 <;> (rw [e2] at hc; simp [kindsL] at hc)
   ·exact ih kom
 rcases hK with hK | hK | hK | hK | hK | hK | hK | hK | hK | hK | hK | hK | hK | hK | hK | hK
 ·rw [stmtR, if_pos hK]
  cases h2 : isR n T (naR n T st).2 ⟨#[91]⟩ with
  | true => rw [if_pos rfl]; exact stmt_put h hK h2
  | false => rw [if_neg Bool.false_ne_true]; exact stmt_set h hkn hK h2
 ·rw [stmtR, hK, if_neg (by decide), if_pos rfl]
  exact stmt_let h hK
 ·rw [stmtR, hK, if_neg (by decide), if_neg (by decide), if_pos rfl]
  cases h2 : isR n T (blockR n T f (exR n T (nextR st)).2).2 kElse with
  | true => rw [if_pos rfl]; exact stmt_else h hK hB kom h2
  | false => rw [if_neg Bool.false_ne_true]; exact stmt_if h hK hB kom h2
 ·rw [stmtR, hK, if_neg (by decide), if_neg (by decide), if_neg (by decide), if_pos rfl]
  exact stmt_while h hK hB kom
 ·rw [stmtR, hK, if_neg (by decide), if_neg (by decide), if_neg (by decide), if_neg (by decide), if_neg (by decide), if_neg (by decide), if_neg (by decide), if_neg (by decide)]
  exact stmt_lock h hK
 ·rw [stmtR, hK, if_neg (by decide), if_neg (by decide), if_neg (by decide), if_neg (by decide), if_neg (by decide), if_neg (by decide), if_neg (by decide), if_neg (by decide)]
  exact stmt_unlock h hK
 ·rw [stmtR, hK, if_neg (by decide), if_neg (by decide), if_neg (by decide), if_neg (by decide), if_pos (by decide)]
  exact stmt_wait h hK
 ·rw [stmtR, hK, if_neg (by decide), if_neg (by decide), if_neg (by decide), if_neg (by decide), if_neg (by decide), if_neg (by decide), if_neg (by decide), if_neg (by decide)]
  exact stmt_signal h hK
 ·rw [stmtR, hK, if_neg (by decide), if_neg (by decide), if_neg (by decide), if_neg (by decide), if_neg (by decide), if_neg (by decide), if_neg (by decide), if_neg (by decide)]
  exact stmt_all h hK
 ·rw [stmtR, hK, if_neg (by decide), if_neg (by decide), if_neg (by decide), if_neg (by decide), if_neg (by decide), if_pos (by decide)]
  exact stmt_send h hK
 ·rw [stmtR, hK, if_neg (by decide), if_neg (by decide), if_neg (by decide), if_neg (by decide), if_pos (by decide)]
  exact stmt_recv h hK
 ·rw [stmtR, hK, if_neg (by decide), if_neg (by decide), if_neg (by decide), if_neg (by decide), if_neg (by decide), if_neg (by decide), if_neg (by decide), if_neg (by decide)]
  exact stmt_spawn h hK
 ·rw [stmtR, hK, if_neg (by decide), if_neg (by decide), if_neg (by decide), if_neg (by decide), if_neg (by decide), if_neg (by decide), if_pos (by decide)]
  exact stmt_join h hK
 ·rw [stmtR, hK, if_neg (by decide), if_neg (by decide), if_neg (by decide), if_neg (by decide), if_neg (by decide), if_neg (by decide), if_neg (by decide), if_pos (by decide)]
  exact stmt_print h hK
 ·exact absurd hK (hno 2 (.inl rfl) 15 (Nat.le_refl _))
 ·exact absurd hK (hno 3 (.inr rfl) 15 (Nat.le_refl _))
end
theorem rstmts_all (n : Nat) (T : Nat → TokD) : ∀ f, StmC n T f ∧ BlkC n T f := by
 intro f
 induction f using Nat.strongRecOn with
 | _ f ih =>
  cases f with
  | zero => exact ⟨fun R v st w h hkn hf => absurd hf kom, fun R v st w h hkn hf => absurd hf kom⟩
  | succ f => exact ⟨stm_step (ih f (Nat.lt_succ_self f)).2, rblock_step (fun g hg => (ih g kom).1)⟩
end Go.Proofs.YtjkgepppoopheaaGreatDoor
