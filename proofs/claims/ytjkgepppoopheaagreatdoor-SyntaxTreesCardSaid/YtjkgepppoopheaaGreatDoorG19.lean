/- The project's reader of statements: one more word of fuel (conditions: at most 1000000 words; the variables and the map of forms stand). -/
import Derived.Test.YtjkgepppoopheaaGreatDoorG18
namespace Go.Proofs.YtjkgepppoopheaaGreatDoor
open Go.RowKit Go.Shelf

section
variable {S : Src} {f R k : Nat} {w : World}

theorem SV.one1 {W : World} {Z : Nat → Prop} {cs : List Value} {s : ST} (h : SV W Z cs s) : ∀ u ∈ cs, u.oneCell' = true := Rep.one h

theorem cells_sub {W W' : World} {b t : Nat} {X : Nat → Prop} {x0 x1 x2 x3 x4 : Value} (h : Cells W b t [x0, x1, x2, x3, x4]) (hk : Kept X (W.alloc (.cells zeroSt.toArray 63)) W') (hx : ¬ X b) :
    ∀ j v, [x3, x4][j]? = some v → W'.cell? ⟨b, 3 + j, none⟩ = some v := by
  intro j v hj
  have hc := (h.alloc (.cells zeroSt.toArray 63)).kept hk hx
  rcases j with _ | _ | j
  · exact (hc.cell 3).trans hj
  · exact (hc.cell 4).trans hj
  · simp at hj

@[go_sem] theorem run_eql_fn (fn : Fn) (a b : Array Value) (w : World) : (binOp .eql 126 (.func fn a b) .nilFunc).run Tryz.prog w = .ok (.bool false) w := by kernel_rfl
@[go_sem] theorem run_eql_nofn (w : World) : (binOp .eql 126 .nilFunc .nilFunc).run Tryz.prog w = .ok (.bool true) w := by kernel_rfl

set_option maxRecDepth 100000 in
set_option maxHeartbeats 1000000 in
theorem stmt_step (hS : SrcOk S) (hBm : ∀ k p, blockS S f k = .ok p → k < p.2) (hB : BlockC S f) : StmtC S (f + 1) := by
  intro R k w h hf
  have HS : Hid (stmtS S (f + 1) k = if kindB S k 3 then
      match formS S (blockS S f) (S.tok k).text with
      | some r => thn (r (k + 1)) fun s k' => .ok (atS (S.tok k).line (S.tok k).col s, k')
      | none => .error k
    else thn (assignS S k) fun s k' => .ok (atS (S.tok k).line (S.tok k).col s, k')) := Lib.hid (by rw [stmtS]; rfl)
  have HF : Hid (FRel (Reader S R k) (formsV S.fb) (formsL S (blockS S f))) := Lib.hid (forms_rel hS hBm h.loR (fun k' W hk hd => hB R k' W hd (by omega)))
  have HA := Lib.hid (fun W k (h : DR W R S k) => assign_calls hS.ops h)
  have HFO := Lib.hid hS.forms
  clear hS hBm hB
  have hRl := h.lt
  have hB := Cells.fresh w 63 zeroSt
  have HB := Lib.hid hB
  have hsz : (w.alloc (.cells zeroSt.toArray 63)).heap.size = w.heap.size + 1 := by simp
  clear hB
  have HT : Hid (kindB S k 3 = decide ((S.tok k).kind = 3)) := Lib.hid rfl
  go_enter Tryz.func170, Tryz.ntmps170
  go_wp2_with fail
  refine (next_any (S := S) (k := k) (by repeat (first | assumption | (with_reducible refine DR.alloc ?_ _) | (with_reducible refine DR.drewN ?_ _) | (with_reducible refine DR.drew ?_) | (with_reducible refine DR.set ?_ (by first | omega | (simp; omega)) _) | (with_reducible refine DR.kept ?_ (by assumption) (fun g hg => by first | exact hg.elim | ((try dsimp only at hg); omega)))))).mono ?_
  rintro e W1 ⟨rfl, hk1⟩
  have hd1 : DR W1 R S k := (h.alloc _).keep hk1
  have lb1 := hk1.size
  rw [World.size_alloc] at lb1
  generalize htok : S.tok k = tk at HS HT ⊢
  obtain ⟨q, txt, nu, li, co⟩ := tk
  simp only [TokD.cells]
  dsimp only at HS HT
  have HTOK := Lib.hid htok
  clear htok
  cases hq3 : kindB S k 3 with
  | false =>
    have hne : (q == 3) = false := by rw [← hq3, HT.out]; rfl
    rw [hq3, if_neg Bool.false_ne_true] at HS
    have hd2 := hd1.alloc (.cells #[.int .i64 q, .string txt, .int .i64 nu, .int .i64 li, .int .i64 co] 92)
    have HTK := Lib.hid (Cells.fresh W1 92 [.int .i64 q, .string txt, .int .i64 nu, .int .i64 li, .int .i64 co])
    go_wp2_with fail
    obtain ⟨W2, hW2⟩ : ∃ W2, W2 = W1.alloc (.cells #[.int .i64 q, .string txt, .int .i64 nu, .int .i64 li, .int .i64 co] 92) := ⟨_, rfl⟩
    have hk2 : Kept noX W1 W2 := hW2 ▸ (Kept.refl _ _).alloc _
    rw [← hW2] at hd2 HTK ⊢
    clear hW2
    have lb2 := hk2.size
    refine (HA.out _ k hd2).mono ?_
    intro e W4 hq
    rcases hq.cases with ⟨kx, hr, hm, hk4⟩ | ⟨a4, k4, hr, hret, hd4, hk4⟩
    · unfold Misfit at hm
      subst hm
      have HX := Lib.hid hr
      clear hr
      go_wp2
      exact ⟨rfl, Parsed.err (HS.out.trans (by rw [HX.out]; rfl)) rfl (by repeat (first | assumption | (with_reducible exact Kept.refl _ _) | (with_reducible refine Kept.alloc ?_ _) | (with_reducible refine Kept.drew ?_) | (with_reducible refine Kept.drewN ?_ _) | (with_reducible refine Kept.setCell ?_ ?_ _) | (with_reducible refine Kept.trans ?_ (by assumption)) | (with_reducible refine Kept.trans ?_ (Kept.any (by assumption))) | (with_reducible refine Kept.own ?_ (by assumption) (by omega)) | (intro hxx; first | rfl | ((try dsimp only at hxx ⊢); omega))))⟩
    replace HS := Lib.hid (HS.out.trans (by rw [hr, thn_ok]))
    clear hr hq
    have lb4 := hk4.size
    obtain ⟨cs, rfl, hsv⟩ := hret
    have HL := Lib.hid hsv.len
    have HO := Lib.hid hsv.one1
    obtain ⟨c2, hc2⟩ : ∃ c2, c2 = cs.take 1 ++ [.int .i64 li, .int .i64 co] ++ cs.drop 3 := ⟨_, rfl⟩
    have HSV := Lib.hid (show SV W4 (· < W2.heap.size) c2 (atS li co a4) from hc2 ▸ hsv.at li co)
    have HL2 := Lib.hid HSV.out.len
    have HO2 := Lib.hid HSV.out.one1
    have HC2 := Lib.hid hc2
    have HKW : Hid (Kept (· = R) w W4) := Lib.hid (by repeat (first | assumption | (with_reducible exact Kept.refl _ _) | (with_reducible refine Kept.alloc ?_ _) | (with_reducible refine Kept.drew ?_) | (with_reducible refine Kept.drewN ?_ _) | (with_reducible refine Kept.setCell ?_ ?_ _) | (with_reducible refine Kept.trans ?_ (by assumption)) | (with_reducible refine Kept.trans ?_ (Kept.any (by assumption))) | (with_reducible refine Kept.own ?_ (by assumption) (by omega)) | (intro hxx; first | rfl | ((try dsimp only at hxx ⊢); omega))))
    have HTK4 := Lib.hid (show Cells W4 W1.heap.size 92 [.int .i64 q, .string txt, .int .i64 nu, .int .i64 li, .int .i64 co] from (by repeat (first | (with_reducible exact HTK.out) | (with_reducible refine Cells.alloc ?_ _) | (with_reducible refine Cells.drew ?_) | (with_reducible refine Cells.drewN ?_ _) | (with_reducible refine Cells.keep ?_ (by assumption)) | (with_reducible refine Cells.kept ?_ (by assumption) (by omega)) | (with_reducible refine Cells.far ?_ (by dsimp only; omega) _))))
    have HBW := Lib.hid (show Cells W4 w.heap.size 63 zeroSt from (by repeat (first | (with_reducible exact HB.out) | (with_reducible refine Cells.alloc ?_ _) | (with_reducible refine Cells.drew ?_) | (with_reducible refine Cells.drewN ?_ _) | (with_reducible refine Cells.keep ?_ (by assumption)) | (with_reducible refine Cells.kept ?_ (by assumption) (by omega)) | (with_reducible refine Cells.far ?_ (by dsimp only; omega) _))))
    have hbl := HTK4.out.lt
    clear hsv hc2
    go_wp2_with (first
      | ((with_reducible show wpList _ _ _ (Oper.mk none (Op.store _ _ _) _ _ _ _ :: _) _ _); refine wpList_store_part rfl rfl 63 (.tmp 5) (.tmp 34) rfl (W4.heap.size) 0 rfl cs rfl (Cells.fresh W4 63 zeroSt) (by rw [HL.out]; exact Nat.le_of_ble_eq_true rfl) (by rw [HL.out]; kernel_rfl) HO.out ?_; intro W5 hB5 hk5; have HB5 := Lib.hid (show Cells W5 W4.heap.size 63 cs from by (rw [HL.out, show zeroSt.take 0 ++ cs ++ zeroSt.drop (0 + 25) = cs from by simp [zeroSt]] at hB5; exact hB5)); clear hB5)
      | ((with_reducible show wpList _ _ _ (Oper.mk _ (Op.load _ _) _ _ _ _ :: _) _ _); refine wpList_load_part rfl 25 (.tmp 35) rfl (W1.heap.size) 3 rfl _ Tryz.underlying25 rfl [.int .i64 li, .int .i64 co] (by kernel_rfl) (cells_sub HTK4.out hk5 (by omega)) ?_)
      | ((with_reducible show wpList _ _ _ (Oper.mk none (Op.store _ _ _) _ _ _ _ :: _) _ _); refine wpList_store_part rfl rfl 25 (.tmp 37) (.tmp 36) rfl (W4.heap.size) 1 rfl [.int .i64 li, .int .i64 co] rfl HB5.out (by rw [HL.out]; exact Nat.le_of_ble_eq_true rfl) (by kernel_rfl) (by simp [Value.oneCell']) ?_; intro W6 hB6 hk6; have HB6 := Lib.hid (show Cells W6 W4.heap.size 63 c2 from by (rw [HC2.out]; exact hB6)); clear hB6)
      | ((with_reducible show wpList _ _ _ (Oper.mk _ (Op.load _ _) _ _ _ _ :: _) _ _); refine wpList_load_cells rfl 63 (.tmp 5) rfl (W4.heap.size) rfl _ Tryz.underlying63 rfl HB6.out (by rw [HL2.out]; kernel_rfl) ?_)
      | ((with_reducible show wpList _ _ _ (Oper.mk none (Op.store _ _ _) _ _ _ _ :: _) _ _); refine wpList_store_part rfl rfl 63 (.tmp 2) (.tmp 38) rfl (w.heap.size) 0 rfl c2 rfl (((HBW.out.alloc _).kept hk5 (by omega)).kept hk6 (by omega)) (by rw [HL2.out]; exact Nat.le_of_ble_eq_true rfl) (by rw [HL2.out]; kernel_rfl) HO2.out ?_; intro W7 hB7 hk7; have HB7 := Lib.hid (show Cells W7 w.heap.size 63 c2 from by (rw [HL2.out, show zeroSt.take 0 ++ c2 ++ zeroSt.drop (0 + 25) = c2 from by simp [zeroSt]] at hB7; exact hB7)); clear hB7))
    have lb5 := hk5.size
    rw [World.size_alloc] at lb5
    have lb6 := hk6.size
    refine ret_box Tryz.results170 rfl HB7.out Tryz.underlying63 rfl (by rw [HL2.out]; kernel_rfl) rfl (Parsed.ok HS.out ⟨_, rfl, ?_⟩ (by repeat (first | assumption | (with_reducible refine DR.alloc ?_ _) | (with_reducible refine DR.drewN ?_ _) | (with_reducible refine DR.drew ?_) | (with_reducible refine DR.set ?_ (by first | omega | (simp; omega)) _) | (with_reducible refine DR.kept ?_ (by assumption) (fun g hg => by first | exact hg.elim | ((try dsimp only at hg); omega))))) ((((HKW.out.alloc _).own hk5 (by omega)).own hk6 (by omega)).own hk7 (by omega)))
    exact (((((HSV.out.mono (Z' := fun g => g < W2.heap.size ∨ W4.heap.size ≤ g) (fun g hg h => by have h : g < W2.heap.size ∨ W4.heap.size ≤ g := h; show g < _; omega)).keep ((Kept.refl _ _).alloc _)).kept hk5 (fun g _ h => by have h : g = W4.heap.size := h; show _ ∨ _; omega)).kept hk6 (fun g _ h => by have h : g = W4.heap.size := h; show _ ∨ _; omega)).kept hk7 (fun g _ h => by have h : g = w.heap.size := h; show _ ∨ _; omega)).mono (fun g _ h => by have h : g < w.heap.size := h; show _ ∨ _; omega)
  | true =>
    have hne : (q == 3) = true := by rw [← hq3, HT.out]; rfl
    rw [hq3, if_pos rfl] at HS
    have hd2 := hd1.alloc (.cells #[.int .i64 q, .string txt, .int .i64 nu, .int .i64 li, .int .i64 co] 92)
    have HTK := Lib.hid (Cells.fresh W1 92 [.int .i64 q, .string txt, .int .i64 nu, .int .i64 li, .int .i64 co])
    go_wp2_with fail
    obtain ⟨W2, hW2⟩ : ∃ W2, W2 = W1.alloc (.cells #[.int .i64 q, .string txt, .int .i64 nu, .int .i64 li, .int .i64 co] 92) := ⟨_, rfl⟩
    have hk2 : Kept noX W1 W2 := hW2 ▸ (Kept.refl _ _).alloc _
    rw [← hW2] at hd2 HTK ⊢
    clear hW2
    have lb2 := hk2.size
    have hft := HFO.out W2 hd2.inv
    have c3 : W2.cell? ⟨R, 3, none⟩ = some (.map (some S.forms)) := by
      obtain ⟨A, C, hc, _⟩ := hd2.is
      exact hc.cell 3
    have c1 : W2.cell? ⟨W1.heap.size, 1, none⟩ = some (.string txt) := HTK.out.cell 1
    have hlk : ∀ n, (Instr.lookup 77 (.map (some S.forms)) (.string txt) false).run Tryz.prog (W2.drewN n) = .ok ((lookV (formsV S.fb) txt).getD .nilFunc) (W2.drewN n) := fun n => run_flook (hft.map.kept ((Kept.refl noX W2).drewN n) (fun h => h)) txt Tryz.underlying77 Tryz.underlying9 (by kernel_rfl)
    have HFT := Lib.hid hft
    clear hft
    rcases HF.out.find txt with ⟨h1, h2⟩ | ⟨v, r, h1, h2, h3⟩
    · rw [h1] at hlk
      have hX : stmtS S (f + 1) k = .error k := by rw [HS.out]; unfold formS; rw [h2]
      clear HS
      have HS := Lib.hid hX
      clear hX h1 h2
      go_quiet (fail)
      have hdq := hd2.drewN nq
      have hkq : Kept noX W2 (W2.drewN nq) := (Kept.refl _ _).drewN nq
      go_wp2_with fail
      refine (refuse_any (S := S) (k := k) (by repeat (first | assumption | (with_reducible refine DR.alloc ?_ _) | (with_reducible refine DR.drewN ?_ _) | (with_reducible refine DR.drew ?_) | (with_reducible refine DR.set ?_ (by first | omega | (simp; omega)) _) | (with_reducible refine DR.kept ?_ (by assumption) (fun g hg => by first | exact hg.elim | ((try dsimp only at hg); omega)))))).mono ?_
      rintro e W3 ⟨hm, hk3⟩
      unfold Misfit at hm
      subst hm
      go_wp2
      exact ⟨rfl, Parsed.err HS.out rfl (by repeat (first | assumption | (with_reducible exact Kept.refl _ _) | (with_reducible refine Kept.alloc ?_ _) | (with_reducible refine Kept.drew ?_) | (with_reducible refine Kept.drewN ?_ _) | (with_reducible refine Kept.setCell ?_ ?_ _) | (with_reducible refine Kept.trans ?_ (by assumption)) | (with_reducible refine Kept.trans ?_ (Kept.any (by assumption))) | (with_reducible refine Kept.own ?_ (by assumption) (by omega)) | (intro hxx; first | rfl | ((try dsimp only at hxx ⊢); omega))))⟩
    · rw [h1] at hlk
      have hX : stmtS S (f + 1) k = thn (r (k + 1)) fun s k' => .ok (atS li co s, k') := by rw [HS.out]; unfold formS; rw [h2]
      have htx : txt ≠ ⟨#[]⟩ := by
        rintro rfl
        have hh : lookV (formsV S.fb) ⟨#[]⟩ = none := by simp [lookV, formsV, kLet, kIf, kWhile, kLock, kUnlock, kWait, kSignal, kAll, kSend, kRecv, kSpawn, kJoin, kPrint]
        rw [hh] at h1
        cases h1
      have htk : takeB S k txt = true := by unfold takeB; rw [HTOK.out]; simp
      have HTX := Lib.hid htx
      have HTKB := Lib.hid htk
      clear HS
      have HS := Lib.hid hX
      obtain ⟨g, caps, rfl, eg, hg⟩ := h3
      have HG := Lib.hid hg
      clear hX h1 h2 hg htx htk
      go_quiet (fail)
      obtain ⟨W3, hW3⟩ : ∃ W3, W3 = W2.drewN nq := ⟨_, rfl⟩
      have hk3 : Kept noX W2 W3 := hW3 ▸ (Kept.refl _ _).drewN nq
      have c1' : W3.cell? ⟨W1.heap.size, 1, none⟩ = some (.string txt) := (HTK.out.keep hk3).cell 1
      rw [← hW3]
      clear hW3 c1 hlk c3
      have lb3 := hk3.size
      go_wp2_with fail
      go_still_tail 5, (by kernel_rfl)
      go_wp2_with fail
      have hd3 := hd2.keep hk3
      refine (take_any (S := S) (k := k) HTX.out hd3.drew).mono ?_
      rintro e W8 ⟨rfl, hd8, hk8'⟩
      have hk8 : Kept (· = R) W3 W8 := ((Kept.refl _ _).drew).trans hk8'
      clear hk8'
      rw [HTKB.out] at hd8 ⊢
      replace hd8 : DR W8 R S (k + 1) := hd8
      have lb8 := hk8.size
      have HTK3 := Lib.hid (HTK.out.keep hk3)
      have hk28 : Kept (· = R) W2 W8 := hk3.any.trans hk8
      clear HTK
      have HTK := Lib.hid (show Cells W8 W1.heap.size 92 [.int .i64 q, .string txt, .int .i64 nu, .int .i64 li, .int .i64 co] from HTK3.out.kept hk8 (by omega))
      clear HTK3
      go_wp2_with fail
      refine (HG.out _ (k + 1) (by omega) hd8).mono ?_
      intro e W4 hq
      rcases hq.cases with ⟨kx, hr, hm, hk4⟩ | ⟨a4, k4, hr, hret, hd4, hk4⟩
      · unfold Misfit at hm
        subst hm
        have HX := Lib.hid hr
        clear hr
        go_wp2
        exact ⟨rfl, Parsed.err (HS.out.trans (by rw [HX.out]; rfl)) rfl (by repeat (first | assumption | (with_reducible exact Kept.refl _ _) | (with_reducible refine Kept.alloc ?_ _) | (with_reducible refine Kept.drew ?_) | (with_reducible refine Kept.drewN ?_ _) | (with_reducible refine Kept.setCell ?_ ?_ _) | (with_reducible refine Kept.trans ?_ (by assumption)) | (with_reducible refine Kept.trans ?_ (Kept.any (by assumption))) | (with_reducible refine Kept.own ?_ (by assumption) (by omega)) | (intro hxx; first | rfl | ((try dsimp only at hxx ⊢); omega))))⟩
      replace HS := Lib.hid (HS.out.trans (by rw [hr, thn_ok]))
      clear hr hq
      have lb4 := hk4.size
      obtain ⟨cs, rfl, hsv⟩ := hret
      have HL := Lib.hid hsv.len
      have HO := Lib.hid hsv.one1
      obtain ⟨c2, hc2⟩ : ∃ c2, c2 = cs.take 1 ++ [.int .i64 li, .int .i64 co] ++ cs.drop 3 := ⟨_, rfl⟩
      have HSV := Lib.hid (show SV W4 (· < W8.heap.size) c2 (atS li co a4) from hc2 ▸ hsv.at li co)
      have HL2 := Lib.hid HSV.out.len
      have HO2 := Lib.hid HSV.out.one1
      have HC2 := Lib.hid hc2
      have HKW : Hid (Kept (· = R) w W4) := Lib.hid (by repeat (first | assumption | (with_reducible exact Kept.refl _ _) | (with_reducible refine Kept.alloc ?_ _) | (with_reducible refine Kept.drew ?_) | (with_reducible refine Kept.drewN ?_ _) | (with_reducible refine Kept.setCell ?_ ?_ _) | (with_reducible refine Kept.trans ?_ (by assumption)) | (with_reducible refine Kept.trans ?_ (Kept.any (by assumption))) | (with_reducible refine Kept.own ?_ (by assumption) (by omega)) | (intro hxx; first | rfl | ((try dsimp only at hxx ⊢); omega))))
      have HTK4 := Lib.hid (show Cells W4 W1.heap.size 92 [.int .i64 q, .string txt, .int .i64 nu, .int .i64 li, .int .i64 co] from (by repeat (first | (with_reducible exact HTK.out) | (with_reducible refine Cells.alloc ?_ _) | (with_reducible refine Cells.drew ?_) | (with_reducible refine Cells.drewN ?_ _) | (with_reducible refine Cells.keep ?_ (by assumption)) | (with_reducible refine Cells.kept ?_ (by assumption) (by omega)) | (with_reducible refine Cells.far ?_ (by dsimp only; omega) _))))
      have HBW := Lib.hid (show Cells W4 w.heap.size 63 zeroSt from (by repeat (first | (with_reducible exact HB.out) | (with_reducible refine Cells.alloc ?_ _) | (with_reducible refine Cells.drew ?_) | (with_reducible refine Cells.drewN ?_ _) | (with_reducible refine Cells.keep ?_ (by assumption)) | (with_reducible refine Cells.kept ?_ (by assumption) (by omega)) | (with_reducible refine Cells.far ?_ (by dsimp only; omega) _))))
      have hbl := HTK4.out.lt
      clear hsv hc2
      go_wp2_with (first
        | ((with_reducible show wpList _ _ _ (Oper.mk none (Op.store _ _ _) _ _ _ _ :: _) _ _); refine wpList_store_part rfl rfl 63 (.tmp 5) (.tmp 34) rfl (W4.heap.size) 0 rfl cs rfl (Cells.fresh W4 63 zeroSt) (by rw [HL.out]; exact Nat.le_of_ble_eq_true rfl) (by rw [HL.out]; kernel_rfl) HO.out ?_; intro W5 hB5 hk5; have HB5 := Lib.hid (show Cells W5 W4.heap.size 63 cs from by (rw [HL.out, show zeroSt.take 0 ++ cs ++ zeroSt.drop (0 + 25) = cs from by simp [zeroSt]] at hB5; exact hB5)); clear hB5)
        | ((with_reducible show wpList _ _ _ (Oper.mk _ (Op.load _ _) _ _ _ _ :: _) _ _); refine wpList_load_part rfl 25 (.tmp 35) rfl (W1.heap.size) 3 rfl _ Tryz.underlying25 rfl [.int .i64 li, .int .i64 co] (by kernel_rfl) (cells_sub HTK4.out hk5 (by omega)) ?_)
        | ((with_reducible show wpList _ _ _ (Oper.mk none (Op.store _ _ _) _ _ _ _ :: _) _ _); refine wpList_store_part rfl rfl 25 (.tmp 37) (.tmp 36) rfl (W4.heap.size) 1 rfl [.int .i64 li, .int .i64 co] rfl HB5.out (by rw [HL.out]; exact Nat.le_of_ble_eq_true rfl) (by kernel_rfl) (by simp [Value.oneCell']) ?_; intro W6 hB6 hk6; have HB6 := Lib.hid (show Cells W6 W4.heap.size 63 c2 from by (rw [HC2.out]; exact hB6)); clear hB6)
        | ((with_reducible show wpList _ _ _ (Oper.mk _ (Op.load _ _) _ _ _ _ :: _) _ _); refine wpList_load_cells rfl 63 (.tmp 5) rfl (W4.heap.size) rfl _ Tryz.underlying63 rfl HB6.out (by rw [HL2.out]; kernel_rfl) ?_)
        | ((with_reducible show wpList _ _ _ (Oper.mk none (Op.store _ _ _) _ _ _ _ :: _) _ _); refine wpList_store_part rfl rfl 63 (.tmp 2) (.tmp 38) rfl (w.heap.size) 0 rfl c2 rfl (((HBW.out.alloc _).kept hk5 (by omega)).kept hk6 (by omega)) (by rw [HL2.out]; exact Nat.le_of_ble_eq_true rfl) (by rw [HL2.out]; kernel_rfl) HO2.out ?_; intro W7 hB7 hk7; have HB7 := Lib.hid (show Cells W7 w.heap.size 63 c2 from by (rw [HL2.out, show zeroSt.take 0 ++ c2 ++ zeroSt.drop (0 + 25) = c2 from by simp [zeroSt]] at hB7; exact hB7)); clear hB7))
      have lb5 := hk5.size
      rw [World.size_alloc] at lb5
      have lb6 := hk6.size
      refine ret_box Tryz.results170 rfl HB7.out Tryz.underlying63 rfl (by rw [HL2.out]; kernel_rfl) rfl (Parsed.ok HS.out ⟨_, rfl, ?_⟩ (by repeat (first | assumption | (with_reducible refine DR.alloc ?_ _) | (with_reducible refine DR.drewN ?_ _) | (with_reducible refine DR.drew ?_) | (with_reducible refine DR.set ?_ (by first | omega | (simp; omega)) _) | (with_reducible refine DR.kept ?_ (by assumption) (fun g hg => by first | exact hg.elim | ((try dsimp only at hg); omega))))) ((((HKW.out.alloc _).own hk5 (by omega)).own hk6 (by omega)).own hk7 (by omega)))
      exact (((((HSV.out.mono (Z' := fun g => g < W8.heap.size ∨ W4.heap.size ≤ g) (fun g hg h => by have h : g < W8.heap.size ∨ W4.heap.size ≤ g := h; show g < _; omega)).keep ((Kept.refl _ _).alloc _)).kept hk5 (fun g _ h => by have h : g = W4.heap.size := h; show _ ∨ _; omega)).kept hk6 (fun g _ h => by have h : g = W4.heap.size := h; show _ ∨ _; omega)).kept hk7 (fun g _ h => by have h : g = w.heap.size := h; show _ ∨ _; omega)).mono (fun g _ h => by have h : g < w.heap.size := h; show _ ∨ _; omega)
end
end Go.Proofs.YtjkgepppoopheaaGreatDoor
