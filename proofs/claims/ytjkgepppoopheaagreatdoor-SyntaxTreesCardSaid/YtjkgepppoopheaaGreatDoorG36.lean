/- Which operator stands next for the document's reader of layer 2 (conditions: at most 1000000 words). -/
import Derived.Test.YtjkgepppoopheaaGreatDoorG4
namespace Go.Proofs.YtjkgepppoopheaaGreatDoor
open Go.RowKit Go.Shelf

def rankL : List Int := [0, 1, 2, 3, 3, 3, 3, 4, 4, 5, 5, 5]
def signB : List ByteArray := [⟨#[]⟩, ⟨#[124, 124]⟩, ⟨#[38, 38]⟩, ⟨#[61, 61]⟩, ⟨#[33, 61]⟩, ⟨#[60]⟩, ⟨#[60, 61]⟩, ⟨#[43]⟩, ⟨#[45]⟩, ⟨#[42]⟩, ⟨#[47]⟩, ⟨#[37]⟩]
def rankOf (o : Nat) : Int := rankL.getD o 0
def signOf (o : Nat) : ByteArray := signB.getD o ⟨#[]⟩

set_option maxRecDepth 100000 in
set_option maxHeartbeats 1000000 in
theorem rank_any (o : Nat) (ho : o < 12) (w : World) : Calls Tryz.prog 55 #[.int .i64 (o : Nat)] w fun e w' => e = .returned (.int .i64 (rankOf o)) ∧ Kept noX w w' := by
  have hc := (Cells.fresh w 3 (rankL.map (Value.int .i64))).cell o
  have hk := (Kept.refl noX w).alloc (.cells (rankL.map (Value.int .i64)).toArray 3)
  have hl : o < rankL.length := ho
  have e : (rankL.map (Value.int .i64))[o]? = some (.int .i64 (rankOf o)) := by
    rw [List.getElem?_map, rankOf, List.getD_eq_getElem?_getD, List.getElem?_eq_getElem hl]
    rfl
  rw [e] at hc
  have HK := Lib.hid hk
  clear e hl hk
  generalize rankOf o = r at hc ⊢
  simp only [rankL, List.map_cons, List.map_nil] at hc HK
  go_enter Tryz.func55, Tryz.ntmps55
  go_wp2
  go_ret
  exact ⟨rfl, HK.out⟩

set_option maxRecDepth 100000 in
set_option maxHeartbeats 1000000 in
theorem rsign_any (o : Nat) (ho : o < 12) (w : World) : Calls Tryz.prog 56 #[.int .i64 (o : Nat)] w fun e w' => e = .returned (.string (signOf o)) ∧ Kept noX w w' := by
  have hc := (Cells.fresh w 9 (signB.map Value.string)).cell o
  have hk := (Kept.refl noX w).alloc (.cells (signB.map Value.string).toArray 9)
  have hl : o < signB.length := ho
  have e : (signB.map Value.string)[o]? = some (.string (signOf o)) := by
    rw [List.getElem?_map, signOf, List.getD_eq_getElem?_getD, List.getElem?_eq_getElem hl]
    rfl
  rw [e] at hc
  have HK := Lib.hid hk
  clear e hl hk
  generalize signOf o = r at hc ⊢
  simp only [signB, List.map_cons, List.map_nil] at hc HK
  go_enter Tryz.func56, Tryz.ntmps56
  go_wp2
  go_ret
  exact ⟨rfl, HK.out⟩

def firstOf (f : Nat → Bool) : Nat → Nat → Nat
  | _, 0 => 0
  | o, c + 1 => if f o then o else firstOf f (o + 1) c
def opOk (n : Nat) (T : Nat → TokD) (k : Nat) (bad : Bool) (q : Int) (o : Nat) : Bool := decide (rankOf o = q) && isP n T k bad (signOf o)
/-- The operator of rank q that stands next; 0: none. -/
def nextP (n : Nat) (T : Nat → TokD) (k : Nat) (bad : Bool) (q : Int) : Nat := firstOf (opOk n T k bad q) 1 11

set_option maxRecDepth 100000 in
set_option maxHeartbeats 1000000 in
theorem rdnext_any (R : Nat) (v : Value) (n : Nat) (T : Nat → TokD) (k : Nat) (bad : Bool) (q : Int) (w : World) (h : R2 w R v n T k bad) :
    Calls Tryz.prog 189 #[.pointer (some ⟨R, 0, none⟩), .int .i64 q] w fun e w' => e = .returned (.int .i64 (nextP n T k bad q : Nat)) ∧ Kept noX w w' := by
  go_enter Tryz.func189, Tryz.ntmps189
  go_wp2
  go_loopw [5] (fun i wr => ∃ o c : Nat, i = .int .i64 o ∧ 1 ≤ o ∧ o + c = 12 ∧ firstOf (opOk n T k bad q) o c = nextP n T k bad q ∧ Kept noX w wr) (fun i _ => 12 - (intOf i).toNat)
  case atStart => exact ⟨1, 11, rfl, Nat.le_refl _, rfl, rfl, Kept.refl _ _⟩
  case round =>
    obtain ⟨o, c, rfl, ho, hoc, hf, hkr⟩ := hrel
    cases c with
    | zero =>
      obtain rfl : o = 12 := by omega
      have HF : Hid (nextP n T k bad q = 0) := Lib.hid (by rw [← hf]; rfl)
      clear hf
      go_wp2
      go_ret
      exact ⟨by rw [HF.out]; rfl, hkr⟩
    | succ c =>
      have hlt : o < 12 := by omega
      have hle : (o : Int) ≤ 11 := by omega
      have HR := Lib.hid (rank_any o hlt wr)
      have HG := Lib.hid (fun W => rsign_any o hlt W)
      have HI := Lib.hid (fun W (hk : Kept noX wr W) => rdis_any R v n T k bad (signOf o) W (h.keep (hkr.trans hk)))
      have hfe : firstOf (opOk n T k bad q) o (c + 1) = if opOk n T k bad q o then o else firstOf (opOk n T k bad q) (o + 1) c := rfl
      rw [hfe] at hf
      by_cases hrk : rankOf o = q
      · have hq : ((rankOf o : Int) == q) = true := by simpa using hrk
        cases hp : isP n T k bad (signOf o) with
        | true =>
          have HF : Hid (nextP n T k bad q = o) := Lib.hid (by rw [← hf]; simp [opOk, hrk, hp])
          rw [hp] at HI
          clear hf hfe hp hrk
          go_wp2_with fail
          refine HR.out.mono ?_
          rintro e W1 ⟨rfl, hk1⟩
          go_wp2_with fail
          refine (HG.out _).mono ?_
          rintro e W2 ⟨rfl, hk2⟩
          go_wp2_with fail
          refine (HI.out _ (hk1.trans hk2)).mono ?_
          rintro e W3 ⟨rfl, hk3⟩
          go_wp2
          go_ret
          exact ⟨by rw [HF.out]; rfl, ((hkr.trans hk1).trans hk2).trans hk3⟩
        | false =>
          have HF : Hid (firstOf (opOk n T k bad q) (o + 1) c = nextP n T k bad q) := Lib.hid (by rw [← hf]; simp [opOk, hp])
          rw [hp] at HI
          clear hf hfe hp hrk
          go_wp2_with fail
          refine HR.out.mono ?_
          rintro e W1 ⟨rfl, hk1⟩
          go_wp2_with fail
          refine (HG.out _).mono ?_
          rintro e W2 ⟨rfl, hk2⟩
          go_wp2_with fail
          refine (HI.out _ (hk1.trans hk2)).mono ?_
          rintro e W3 ⟨rfl, hk3⟩
          go_wp2
          go_roundw
          case rel => exact ⟨o + 1, c, by go_num, by omega, by omega, HF.out, ((hkr.trans hk1).trans hk2).trans hk3⟩
          case measure => simp [intOf]; omega
      · have hq : ((rankOf o : Int) == q) = false := by simpa using hrk
        have HF : Hid (firstOf (opOk n T k bad q) (o + 1) c = nextP n T k bad q) := Lib.hid (by rw [← hf]; simp [opOk, hrk])
        clear hf hfe hrk
        go_wp2_with fail
        refine HR.out.mono ?_
        rintro e W1 ⟨rfl, hk1⟩
        go_wp2
        go_roundw
        case rel => exact ⟨o + 1, c, by go_num, by omega, by omega, HF.out, hkr.trans hk1⟩
        case measure => simp [intOf]; omega
end Go.Proofs.YtjkgepppoopheaaGreatDoor
