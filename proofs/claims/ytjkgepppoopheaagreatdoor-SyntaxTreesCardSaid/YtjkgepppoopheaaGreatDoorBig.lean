/- How many parts an expression has, up to a bound, as the laws count them: a number, and nothing turns (conditions: names fit an int). -/
import Derived.Test.YtjkgepppoopheaaGreatDoorLift0
namespace Go.Proofs.YtjkgepppoopheaaGreatDoor
open Go.RowKit Go.Shelf

/-- A call answers a number, and turns nothing. -/
def Counts (w : World) (e : Ending) (w' : World) : Prop := (∃ m, e = .returned (.int .i64 m)) ∧ Kept noX w w'

theorem ET.arg_lt {k m : Int} {s : ByteArray} {sl : Int} {lo : Bool} {o : Int} {l : List ET} {x : ET} (h : x ∈ l) : SizeOf.sizeOf x < SizeOf.sizeOf (ET.node k m s sl lo o l) := by
  have := List.sizeOf_lt_of_mem h
  simp
  omega

set_option maxRecDepth 100000 in
set_option maxHeartbeats 1000000 in
theorem big_any (M : Int) : ∀ (z : Nat) (e : ET), SizeOf.sizeOf e ≤ z → ∀ (cs : List Value) (w : World), EV w noX cs e → SmE e → Calls Tryz.prog 25 #[.agg cs.toArray, .int .i64 M] w (Counts w) := by
  intro z
  induction z with
  | zero => intro e hz; cases e; simp at hz
  | succ z ih =>
    intro e hz cs w h hsm
    obtain ⟨q, m, s, sl, lo, o, l⟩ := e
    obtain ⟨v, rfl, hv⟩ := EV.iff.1 h
    obtain ⟨A, n, c, rfl, hn, hnc, hcm⟩ := hv.form
    rw [ET.ds_length] at hn
    subst hn
    unfold maxLen at hcm
    have hs := hsm.name
    have HSM := Lib.hid (fun e he => hsm.arg (e := e) he)
    have HZ := Lib.hid (fun (x : ET) (hx : x ∈ l) => (show SizeOf.sizeOf x ≤ z from by have := ET.arg_lt (k := q) (m := m) (s := s) (sl := sl) (lo := lo) (o := o) hx; omega))
    have HV := Lib.hid hv
    have HIH := Lib.hid ih
    clear h hv ih hsm hz
    obtain ⟨w0, hw0⟩ : ∃ w0, w0 = w.alloc (.cells #[.int .i64 q, .int .i64 m, .string s, .int .i64 sl, .bool lo, .int .i64 o, .slice A l.length c] 44) := ⟨_, rfl⟩
    have hkw : Kept noX w w0 := by rw [hw0]; exact (Kept.refl _ _).alloc _
    have HB := Lib.hid (show Cells w0 w.heap.size 44 [.int .i64 q, .int .i64 m, .string s, .int .i64 sl, .bool lo, .int .i64 o, .slice A l.length c] from by rw [hw0]; exact Cells.fresh w 44 _)
    have e2 := HB.out.cell 2
    simp only [List.getElem?_cons_zero, List.getElem?_cons_succ] at e2
    go_enter Tryz.func25, Tryz.ntmps25
    go_wp2_with fail
    rw [← hw0]
    clear hw0 e2
    go_loopw [6, 5] (fun i b wr => ∃ (k : Nat) (x : Int), k ≤ l.length ∧ i = .int .i64 k ∧ b = .int .i64 x ∧ Kept noX w0 wr) (fun i _ _ => l.length - (intOf i).toNat)
    case atStart => exact ⟨0, _, Nat.zero_le _, rfl, rfl, Kept.refl _ _⟩
    case round =>
      obtain ⟨k, x, hk, rfl, rfl, hkr⟩ := hrel
      have hb := HB.out.keep hkr
      have e6 := hb.cell 6
      simp only [List.getElem?_cons_zero, List.getElem?_cons_succ] at e6
      clear hb
      by_cases hlt : k < l.length
      · have hdl : decide ((k : Int) < (l.length : Int)) = true := by simpa using hlt
        cases hxm : decide (x ≤ M) with
        | false =>
          go_wp2
          go_ret
          exact ⟨⟨_, rfl⟩, hkw.trans hkr⟩
        | true =>
        have hvr := HV.out.keep (hkw.trans hkr)
        obtain ⟨g, o', c2, size, cs, hveq, hcl, hrep, hcell⟩ := hvr.at_ (i := k) (by simpa using hlt)
        rw [ET.ds_get] at hrep
        have hev : EV wr noX cs l[k] := hrep
        have hlen := hev.len
        rw [hlen] at hcl
        subst hcl
        injection hveq with hA hlen2 hc2
        subst hA hc2
        clear hlen2
        have hcr : ∀ j u, cs[j]? = some u → wr.cell? ⟨g, (o' + k * 7) + j, none⟩ = some u := fun j u hu => by
          have hj : j < 7 := by rw [← hlen]; exact (List.getElem?_eq_some_iff.1 hu).1
          rw [Nat.add_assoc, hcell j hj, hu]
        have HCR := Lib.hid hcr
        have HL := Lib.hid hlen
        have HEV := Lib.hid hev
        clear hcell hcr hlen hrep hev hvr
        go_wp2_with (first
          | ((with_reducible show wpList _ _ _ (Oper.mk _ (Op.load _ _) _ _ _ _ :: _) _ _); refine wpList_load_part rfl 44 (.tmp 27) rfl g (o' + k * 7) rfl _ Tryz.underlying44 rfl cs (by rw [HL.out]; kernel_rfl) HCR.out ?_))
        refine (HIH.out l[k] (HZ.out _ (List.getElem_mem hlt)) cs _ HEV.out (HSM.out _ (List.getElem_mem hlt))).mono ?_
        rintro e W10 ⟨⟨m2, rfl⟩, hk10⟩
        go_wp2
        go_roundw
        case rel => exact ⟨k + 1, _, by omega, by go_num, rfl, hkr.trans hk10⟩
        case measure => simp [intOf]; omega
      · have hdl : decide ((k : Int) < (l.length : Int)) = false := by simpa using hlt
        go_wp2
        go_ret
        exact ⟨⟨_, rfl⟩, hkw.trans hkr⟩
end Go.Proofs.YtjkgepppoopheaaGreatDoor
