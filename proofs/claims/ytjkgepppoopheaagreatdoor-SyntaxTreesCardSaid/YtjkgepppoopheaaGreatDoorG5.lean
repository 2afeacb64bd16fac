/- The project's operators: found by whatever is asked of them (conditions: none). -/
import Derived.Test.YtjkgepppoopheaaGreatDoorG4
namespace Go.Proofs.YtjkgepppoopheaaGreatDoor
open Go.RowKit Go.Shelf

def opsL : List (List (ByteArray × Int)) := [[(⟨#[124, 124]⟩, 1)], [(⟨#[38, 38]⟩, 2)], [(⟨#[61, 61]⟩, 3), (⟨#[33, 61]⟩, 4), (⟨#[60]⟩, 5), (⟨#[60, 61]⟩, 6)], [(⟨#[43]⟩, 7), (⟨#[45]⟩, 8)], [(⟨#[42]⟩, 9), (⟨#[47]⟩, 10), (⟨#[37]⟩, 11)]]
def opD (x : ByteArray × Int) : D := .agg [.str x.1, .int .i64 x.2]

/-- The table of operators stands in its variable. -/
def OpsAt (W : World) : Prop := ∃ v0 v1 v2 v3 v4 : Value, (∀ j v, [v0, v1, v2, v3, v4][j]? = some v → W.cell? ⟨5, 0 + j, none⟩ = some v) ∧
  ∀ i (hi : i < 5), RowV W noX ([v0, v1, v2, v3, v4][i]) ((opsL[i]'hi).map opD)
theorem OpsAt.keep {W W' : World} (h : OpsAt W) (hk : Kept noX W W') : OpsAt W' := by
  obtain ⟨v0, v1, v2, v3, v4, h1, h2⟩ := h
  refine ⟨v0, v1, v2, v3, v4, fun j v hv => ?_, fun i hi => (h2 i hi).keep hk⟩
  have := h1 j v hv
  rw [← this]
  exact World.cell?_of_block (hk.block _ (block_lt_of this) (fun h => h))

def rowFind (p : ByteArray → Int → Bool) (l : List (ByteArray × Int)) : Option (ByteArray × Int) := l.find? fun x => p x.1 x.2
def rankFrom (p : ByteArray → Int → Bool) : List (List (ByteArray × Int)) → Nat → (ByteArray × Int) × Nat × Bool
  | [], _ => ((⟨#[]⟩, 0), 0, false)
  | l :: t, r => match rowFind p l with
    | some x => (x, r, true)
    | none => rankFrom p t (r + 1)
def rankedP (p : ByteArray → Int → Bool) : (ByteArray × Int) × Nat × Bool := rankFrom p opsL 0
def rankedV (r : (ByteArray × Int) × Nat × Bool) : Value := .tuple #[.agg #[.string r.1.1, .int .i64 r.1.2], .int .i64 (r.2.1 : Nat), .bool r.2.2]

theorem rowFind_drop {p : ByteArray → Int → Bool} {l : List (ByteArray × Int)} {j : Nat} (hj : j < l.length) : rowFind p (l.drop j) = if p (l[j]).1 (l[j]).2 then some l[j] else rowFind p (l.drop (j + 1)) := by
  rw [rowFind, List.drop_eq_getElem_cons hj, List.find?_cons]
  split <;> simp_all [rowFind]
theorem rankFrom_drop {p : ByteArray → Int → Bool} {l : List (List (ByteArray × Int))} {i r : Nat} (hi : i < l.length) : rankFrom p (l.drop i) r = match rowFind p l[i] with | some x => (x, r, true) | none => rankFrom p (l.drop (i + 1)) (r + 1) := by
  rw [List.drop_eq_getElem_cons hi, rankFrom]

def leftS (r : Nat) : Nat := if r = 2 then 3 else r
set_option maxRecDepth 100000 in
set_option maxHeartbeats 1000000 in
theorem lefts_any (r : Nat) (hr : r ≤ 5) (w : World) : Calls Tryz.prog 155 #[.int .i64 (r : Nat)] w fun e w' => e = .returned (.int .i64 (leftS r : Nat)) ∧ w = w' := by
  unfold leftS
  by_cases h : r = 2
  · subst h
    have e : ((2 : Nat) : Int) = 2 := rfl
    rw [e]
    go_enter Tryz.func155, Tryz.ntmps155
    go_wp2
    go_ret
    exact ⟨rfl, rfl⟩
  · rw [if_neg h]
    go_enter Tryz.func155, Tryz.ntmps155
    go_wp2
    go_ret
    exact ⟨rfl, rfl⟩

theorem oper_at {W : World} {v : Value} {l : List (ByteArray × Int)} (h : RowV W noX v (l.map opD)) {j : Nat} (hj : j < l.length) :
    ∃ b o c, v = .slice (some ⟨b, o, none⟩) l.length c ∧ W.cell? ⟨b, o + j * 2, none⟩ = some (.string (l[j]).1) ∧ W.cell? ⟨b, o + j * 2 + 1, none⟩ = some (.int .i64 (l[j]).2) := by
  obtain ⟨b, o, c, size, cs, rfl, hsz, hr, hc⟩ := h.at_ (i := j) (by simpa using hj)
  rw [List.getElem_map] at hr
  simp only [opD, Rep.agg_cons, Rep.agg_nil, Rep.str_iff, Rep.int_iff] at hr
  obtain ⟨_, _, rfl, rfl, _, _, rfl, rfl, rfl⟩ := hr
  have h2 : size = 2 := by simpa using hsz.symm
  subst h2
  exact ⟨b, o, c, by rw [List.length_map], by simpa using hc 0 (by decide), by simpa [Nat.add_assoc] using hc 1 (by decide)⟩

set_option maxRecDepth 100000 in
set_option maxHeartbeats 1000000 in
theorem ranked_gen (f : Nat) (caps : Array Value) (eg : ∀ args w, (callFunc f args).run Tryz.prog w = .ok (.enter f args) w) (p : ByteArray → Int → Bool) (w : World) (hops : OpsAt w)
    (hcall : ∀ W s o, Kept noX w W → Calls Tryz.prog f (#[.agg #[.string s, .int .i64 o]] ++ caps) W fun e W' => e = .returned (.bool (p s o)) ∧ Kept noX W W') :
    Calls Tryz.prog 153 #[.func (.func f) #[] caps] w fun e w' => e = .returned (rankedV (rankedP p)) ∧ Kept noX w w' := by
  have hops' := hops
  obtain ⟨v0, v1, v2, v3, v4, hv, hrow⟩ := hops
  have g0 := hv 0 _ rfl; have g1 := hv 1 _ rfl; have g2 := hv 2 _ rfl; have g3 := hv 3 _ rfl; have g4 := hv 4 _ rfl
  simp only [Nat.zero_add] at g0 g1 g2 g3 g4
  have hb := block_lt_of g0
  have HC := Lib.hid hcall
  have HR := Lib.hid hrow
  clear hcall hv hrow hops'
  go_enter Tryz.func153, Tryz.ntmps153
  go_wp2
  obtain ⟨w0, hw0⟩ : ∃ w0, w0 = w.alloc (.cells #[.string ⟨#[]⟩, .int .i64 0] 196) := ⟨_, rfl⟩
  have hkw : Kept noX w w0 := by rw [hw0]; exact (Kept.refl _ _).alloc _
  have hB : Cells w0 w.heap.size 196 [.string ⟨#[]⟩, .int .i64 0] := by rw [hw0]; exact Cells.fresh w 196 _
  rw [← hw0]
  clear hw0 g0 g1 g2 g3 g4
  go_loopw [10] (fun i wr => ∃ k : Nat, k ≤ 5 ∧ i = .int .i64 k ∧ rankFrom p (opsL.drop k) k = rankedP p ∧ Kept noX w0 wr) (fun i _ => 5 - (intOf i).toNat)
  case atStart => exact ⟨0, Nat.zero_le _, rfl, rfl, Kept.refl _ _⟩
  case round =>
    obtain ⟨k, hk, rfl, hf, hkr⟩ := hrel
    by_cases hlt : k < 5
    · have hix : ∃ v, (∀ W, (Instr.index 224 (.agg #[v0, v1, v2, v3, v4]) (.int .i64 (k : Nat))).run Tryz.prog W = .ok v W) ∧ RowV w noX v ((opsL[k]'hlt).map opD) ∧ (opsL[k]'hlt).length ≤ 1000 := by
        have hk' : k = 0 ∨ k = 1 ∨ k = 2 ∨ k = 3 ∨ k = 4 := by omega
        rcases hk' with rfl | rfl | rfl | rfl | rfl
        · exact ⟨v0, fun _ => by kernel_rfl, HR.out 0 hlt, Nat.le_of_ble_eq_true rfl⟩
        · exact ⟨v1, fun _ => by kernel_rfl, HR.out 1 hlt, Nat.le_of_ble_eq_true rfl⟩
        · exact ⟨v2, fun _ => by kernel_rfl, HR.out 2 hlt, Nat.le_of_ble_eq_true rfl⟩
        · exact ⟨v3, fun _ => by kernel_rfl, HR.out 3 hlt, Nat.le_of_ble_eq_true rfl⟩
        · exact ⟨v4, fun _ => by kernel_rfl, HR.out 4 hlt, Nat.le_of_ble_eq_true rfl⟩
      obtain ⟨v, hix, hv, hl5⟩ := hix
      have hfd := rankFrom_drop (p := p) (l := opsL) (i := k) (r := k) hlt
      rw [hf] at hfd
      generalize opsL[k]'hlt = row at hv hfd hl5
      obtain ⟨A, n, c, rfl, hn, hnc, hcm⟩ := hv.form
      rw [List.length_map] at hn
      have hdl : decide ((k : Int) < 5) = true := by simp; omega
      have HV := Lib.hid hv
      have HFD := Lib.hid hfd
      clear hfd hf hv
      subst hn
      unfold maxLen at hcm
      go_wp2
      obtain ⟨wo, hwo⟩ : ∃ wo : World, wo = wr := ⟨_, rfl⟩
      rw [← hwo] at hkr ⊢
      clear hwo
      go_loopw [16] (fun i wr => ∃ j : Nat, j ≤ row.length ∧ i = .int .i64 j ∧ rowFind p (row.drop j) = rowFind p row ∧ Kept noX w0 wr) (fun i _ => row.length - (intOf i).toNat)
      case atStart => exact ⟨0, Nat.zero_le _, rfl, rfl, hkr⟩
      case round =>
        obtain ⟨j, hj, rfl, hfj, hkr2⟩ := hrel
        by_cases hjl : j < row.length
        · have hdj : decide ((j : Int) < (row.length : Int)) = true := by simpa using hjl
          have hpd := rowFind_drop (p := p) hjl
          rw [hfj] at hpd
          obtain ⟨b, o, c', hvv, q0, q1⟩ := oper_at (HV.out.keep (hkw.trans hkr2)) hjl
          injection hvv with hA _ hcc
          subst hA
          subst hcc
          generalize hso : row[j] = so at q0 q1 hpd
          obtain ⟨s, op⟩ := so
          have hbl := block_lt_of q0
          have HCC := Lib.hid (fun W (hk : Kept noX wr W) => HC.out W s op ((hkw.trans hkr2).trans hk))
          have hR0 := hkw.size
          have hBl := hB.lt
          have hsz := hkr2.size
          have hBl2 : w.heap.size < wr.heap.size := by omega
          have hB2 := hB.kept hkr2 (fun h => h)
          cases hp : p s op with
          | true =>
            have HF : Hid (rankedP p = ((s, op), k, true)) := Lib.hid (by rw [HFD.out, ← hfj, rowFind_drop hjl, hso]; simp [hp])
            rw [hp] at HCC
            clear hpd hp hso hfj
            go_wp2_with fail
            refine (HCC.out _ (by repeat (first | assumption | (with_reducible exact Kept.refl _ _) | (with_reducible refine Kept.alloc ?_ _) | (with_reducible refine Kept.drew ?_) | (with_reducible refine Kept.drewN ?_ _) | (with_reducible refine Kept.setCell ?_ ?_ _) | (with_reducible refine Kept.trans ?_ (by assumption)) | (with_reducible refine Kept.trans ?_ (Kept.any (by assumption))) | (with_reducible refine Kept.own ?_ (by assumption) (by omega)) | (intro hxx; first | rfl | ((try dsimp only at hxx ⊢); omega))))).mono ?_
            rintro e W1 ⟨rfl, hk1⟩
            obtain ⟨r1, r2, r3⟩ := hk1.readsN (World.size_alloc _ _)
            have hB3 := (hB2.alloc (.cells #[.string s, .int .i64 op] 196)).kept hk1 (fun h => h)
            have d0 := hB2.cell 0; have d1 := hB2.cell 1; have f0 := hB2.free 0; have f1 := hB2.free 1
            simp only [List.getElem?_cons_zero, List.getElem?_cons_succ] at d0 d1
            have HB3 := Lib.hid hB3
            clear hB3
            go_wp2
            obtain ⟨h1, h2⟩ := putL_all [.string s, .int .i64 op] HB3.out rfl
            refine ret_3 Tryz.results153 rfl (resVal.box rfl h1 Tryz.underlying196 rfl (by kernel_rfl)) (resVal.tmp rfl) (resVal.tmp rfl) ⟨by rw [HF.out]; rfl, ?_⟩
            exact (((hkw.trans hkr2).alloc _).trans hk1).join h2 (fun i hi hlt => by omega)
          | false =>
            have HF : Hid (rowFind p (row.drop (j + 1)) = rowFind p row) := Lib.hid (by rw [← hfj, rowFind_drop hjl, hso]; simp [hp])
            rw [hp] at HCC
            clear hpd hp hso hfj
            go_wp2_with fail
            refine (HCC.out _ (by repeat (first | assumption | (with_reducible exact Kept.refl _ _) | (with_reducible refine Kept.alloc ?_ _) | (with_reducible refine Kept.drew ?_) | (with_reducible refine Kept.drewN ?_ _) | (with_reducible refine Kept.setCell ?_ ?_ _) | (with_reducible refine Kept.trans ?_ (by assumption)) | (with_reducible refine Kept.trans ?_ (Kept.any (by assumption))) | (with_reducible refine Kept.own ?_ (by assumption) (by omega)) | (intro hxx; first | rfl | ((try dsimp only at hxx ⊢); omega))))).mono ?_
            rintro e W1 ⟨rfl, hk1⟩
            go_wp2
            go_roundw
            case rel => exact ⟨j + 1, by omega, by go_num, HF.out, (hkr2.alloc _).trans hk1⟩
            case measure => simp [intOf]; omega
        · have hdj : decide ((j : Int) < (row.length : Int)) = false := by simpa using hjl
          have hj2 : j = row.length := by omega
          have HF : Hid (rankFrom p (opsL.drop (k + 1)) (k + 1) = rankedP p) := Lib.hid (by
            rw [HFD.out, ← hfj, hj2, List.drop_length]; rfl)
          clear hfj hj2
          go_wp2
          go_roundw
          case rel => exact ⟨k + 1, by omega, by go_num, HF.out, hkr2⟩
          case measure => simp [intOf]; omega
    · have hdl : decide ((k : Int) < 5) = false := by simp; omega
      have hk5 : k = 5 := by omega
      have HF : Hid (rankedP p = ((⟨#[]⟩, 0), 0, false)) := Lib.hid (by rw [← hf, hk5]; rfl)
      have hB3 := hB.kept hkr (fun h => h)
      have d0 := hB3.cell 0; have d1 := hB3.cell 1; have f0 := hB3.free 0; have f1 := hB3.free 1
      simp only [List.getElem?_cons_zero, List.getElem?_cons_succ] at d0 d1
      have HB3 := Lib.hid hB3
      clear hB3 hf hk5
      go_wp2
      obtain ⟨h1, h2⟩ := putL_all [.string ⟨#[]⟩, .int .i64 0] HB3.out rfl
      refine ret_3 Tryz.results153 rfl (resVal.box rfl h1 Tryz.underlying196 rfl (by kernel_rfl)) (resVal.tmp rfl) (resVal.tmp rfl) ⟨by rw [HF.out]; rfl, ?_⟩
      exact (hkw.trans hkr).join h2 (fun i hi hlt => by omega)

/-- The operator whose sign that is. -/
def signP (s : ByteArray) : ByteArray → Int → Bool := fun t _ => decide (t = s)
set_option maxRecDepth 100000 in
set_option maxHeartbeats 1000000 in
theorem aboveC_any (b : Nat) (s t : ByteArray) (o : Int) (w : World) (hb : w.cell? ⟨b, 0, none⟩ = some (.string s)) :
    Calls Tryz.prog 186 (#[.agg #[.string t, .int .i64 o]] ++ #[.pointer (some ⟨b, 0, none⟩)]) w fun e w' => e = .returned (.bool (signP s t o)) ∧ Kept noX w w' := by
  have hbl := block_lt_of hb
  have hbt := beq_text t s
  cases hs : signP s t o with
  | true =>
    have h1 : (t.toList == s.toList) = true := by rw [hbt]; exact hs
    clear hs hbt
    go_enter Tryz.func186, Tryz.ntmps186
    go_wp2
    go_ret
    exact ⟨rfl, (Kept.refl _ _).alloc _⟩
  | false =>
    have h1 : (t.toList == s.toList) = false := by rw [hbt]; exact hs
    clear hs hbt
    go_enter Tryz.func186, Tryz.ntmps186
    go_wp2
    go_ret
    exact ⟨rfl, (Kept.refl _ _).alloc _⟩
end Go.Proofs.YtjkgepppoopheaaGreatDoor
