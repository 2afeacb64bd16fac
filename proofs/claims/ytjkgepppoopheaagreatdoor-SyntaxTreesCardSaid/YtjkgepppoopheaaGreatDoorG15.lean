/- The project's question whether an expression is deeper than so much (conditions: so much is at most 1000). -/
import Derived.Test.YtjkgepppoopheaaGreatDoorG8
namespace Go.Proofs.YtjkgepppoopheaaGreatDoor
open Go.RowKit Go.Shelf

/-- Is an expression deeper than so much? -/
def deepE : Nat → ET → Bool
  | 0, _ => true
  | d + 1, .node _ _ _ _ _ _ l => l.any (deepE d)

theorem any_take {α : Type} {f : α → Bool} {l : List α} {k : Nat} (hk : k < l.length) : (l.take (k + 1)).any f = ((l.take k).any f || f l[k]) := by
  rw [List.take_succ_eq_append_getElem hk, List.any_append]; simp

set_option maxRecDepth 100000 in
set_option maxHeartbeats 1000000 in
theorem deeper_any : ∀ (d : Nat), d ≤ 1000 → ∀ (e : ET) (cs : List Value) (w : World), EV w noX cs e → Calls Tryz.prog 79 #[.agg cs.toArray, .int .i64 (d : Nat)] w fun o w' => o = .returned (.bool (deepE d e)) ∧ Kept noX w w' := by
  intro d
  induction d with
  | zero =>
    intro _ e cs w h
    obtain ⟨k, m, s, sl, lo, o, A, N, C, rfl⟩ := h.form
    clear h
    go_enter Tryz.func79, Tryz.ntmps79
    go_wp2
    go_ret
    exact ⟨by rw [deepE]; rfl, (Kept.refl _ _).alloc _⟩
  | succ d ih =>
    intro hd e cs w h
    obtain ⟨q, m, s, sl, lo, o, l⟩ := e
    obtain ⟨v, rfl, hv⟩ := EV.iff.1 h
    obtain ⟨A, n, c, rfl, hn, hnc, hcm⟩ := hv.form
    rw [ET.ds_length] at hn
    subst hn
    unfold maxLen at hcm
    obtain ⟨D, hD⟩ : ∃ D : Int, D = ((d + 1 : Nat) : Int) := ⟨_, rfl⟩
    have hd0 : (D == 0) = false := by simp; omega
    have hd1 : wrap64 (D - 1) = (d : Nat) := by unfold wrap64; omega
    rw [← hD]
    have HD := Lib.hid hD
    clear hD
    have HV := Lib.hid hv
    have HIH := Lib.hid (ih (by omega))
    clear h hv ih
    go_enter Tryz.func79, Tryz.ntmps79
    go_wp2
    obtain ⟨w0, hw0⟩ : ∃ w0, w0 = w.alloc (.cells #[.int .i64 q, .int .i64 m, .string s, .int .i64 sl, .bool lo, .int .i64 o, .slice A l.length c] 44) := ⟨_, rfl⟩
    have hkw : Kept noX w w0 := by rw [hw0]; exact (Kept.refl _ _).alloc _
    rw [← hw0]
    clear hw0
    go_loopw [12] (fun i wr => ∃ k : Nat, k ≤ l.length ∧ i = .int .i64 k ∧ (l.take k).any (deepE d) = false ∧ Kept noX w0 wr) (fun i _ => l.length - (intOf i).toNat)
    case atStart => exact ⟨0, Nat.zero_le _, rfl, rfl, Kept.refl _ _⟩
    case round =>
      obtain ⟨k, hk, rfl, hf, hkr⟩ := hrel
      by_cases hlt : k < l.length
      · have hdl : decide ((k : Int) < (l.length : Int)) = true := by simpa using hlt
        have hvr := HV.out.keep (hkw.trans hkr)
        obtain ⟨g, o', c2, size, cs, hveq, hcl, hrep, hcell⟩ := hvr.at_ (i := k) (by simpa using hlt)
        rw [ET.ds_get] at hrep
        have hev : EV wr noX cs l[k] := hrep
        have hlen := hev.len
        rw [hlen] at hcl
        subst hcl
        injection hveq with hA hlen2 hc2
        subst hA hc2
        clear hlen2
        have hcr : ∀ j u, cs[j]? = some u → wr.cell? ⟨g, (o' + k * 7) + j, none⟩ = some u := fun j u hu => by
          have hj : j < 7 := by rw [← hlen]; exact (List.getElem?_eq_some_iff.1 hu).1
          rw [Nat.add_assoc, hcell j hj, hu]
        have HCR := Lib.hid hcr
        have HL := Lib.hid hlen
        have HEV := Lib.hid hev
        have HO := Lib.hid (Rep.one hev)
        have HF := Lib.hid (any_take (f := deepE d) hlt)
        have HF0 := Lib.hid hf
        clear hcell hcr hlen hrep hev hvr hf
        go_wp2_with (first
          | ((with_reducible show wpList _ _ _ (Oper.mk _ (Op.load _ _) _ _ _ _ :: _) _ _); refine wpList_load_part rfl 44 (.tmp 14) rfl g (o' + k * 7) rfl _ Tryz.underlying44 rfl cs (by rw [HL.out]; kernel_rfl) HCR.out ?_)
          | ((with_reducible show wpList _ _ _ (Oper.mk none (Op.store _ _ _) _ _ _ _ :: _) _ _); refine wpList_store_part rfl rfl 44 (.tmp 6) (.tmp 15) rfl (wr.heap.size) 0 rfl cs rfl (Cells.fresh wr 44 zeroE) (by rw [HL.out]; exact Nat.le_of_ble_eq_true rfl) (by rw [HL.out]; kernel_rfl) HO.out ?_; intro W5 hB5 hk5a
             have hB5 : Cells W5 wr.heap.size 44 cs := by
               rw [HL.out, show zeroE.take 0 ++ cs ++ zeroE.drop (0 + 7) = cs from by simp [zeroE]] at hB5
               exact hB5
             have hk5 : Kept noX wr W5 := ((Kept.refl noX wr).alloc _).own hk5a (Nat.le_refl _)
             have HB5 := Lib.hid hB5
             clear hB5 hk5a)
          | ((with_reducible show wpList _ _ _ (Oper.mk _ (Op.load _ _) _ _ _ _ :: _) _ _); refine wpList_load_cells rfl 44 (.tmp 6) rfl (wr.heap.size) rfl _ Tryz.underlying44 rfl HB5.out (by rw [HL.out]; kernel_rfl) ?_))
        refine (HIH.out l[k] cs W5 (HEV.out.keep hk5)).mono ?_
        rintro e W6 ⟨rfl, hk6⟩
        cases hq : deepE d l[k] with
        | true =>
          have HQ := Lib.hid hq
          clear hq
          go_wp2
          go_ret
          refine ⟨?_, ((hkw.trans hkr).trans hk5).trans hk6⟩
          have : l.any (deepE d) = true := List.any_eq_true.2 ⟨l[k], List.getElem_mem hlt, HQ.out⟩
          rw [deepE, this]; rfl
        | false =>
          have HQ := Lib.hid hq
          clear hq
          go_wp2
          go_roundw
          case rel => exact ⟨k + 1, by omega, by go_num, by rw [HF.out, HF0.out, HQ.out]; rfl, (hkr.trans hk5).trans hk6⟩
          case measure => simp [intOf]; omega
      · have hdl : decide ((k : Int) < (l.length : Int)) = false := by simpa using hlt
        have hk2 : k = l.length := by omega
        have HF0 := Lib.hid hf
        clear hf
        go_wp2
        go_ret
        refine ⟨?_, hkw.trans hkr⟩
        have := HF0.out
        rw [hk2, List.take_length] at this
        rw [deepE, this]; rfl
end Go.Proofs.YtjkgepppoopheaaGreatDoor
