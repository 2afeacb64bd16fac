/- What the document's reader of layer 2 does at a name, a cell (conditions: at most 1000000 words). -/
import Derived.Test.YtjkgepppoopheaaGreatDoorAbb
import Derived.Test.YtjkgepppoopheaaGreatDoorQ2
import Derived.Test.YtjkgepppoopheaaGreatDoorQ3
set_option maxRecDepth 100000
set_option maxHeartbeats 1000000
namespace Go.Proofs.YtjkgepppoopheaaGreatDoor
open Go.RowKit Go.Shelf
def opsL : List (List (ByteArray × Int)) := [[(⟨#[124, 124]⟩, 1)], [(⟨#[38, 38]⟩, 2)], [(⟨#[61, 61]⟩, 3), (⟨#[33, 61]⟩, 4), (⟨#[60]⟩, 5), (⟨#[60, 61]⟩, 6)], [(⟨#[43]⟩, 7), (⟨#[45]⟩, 8)], [(⟨#[42]⟩, 9), (⟨#[47]⟩, 10), (⟨#[37]⟩, 11)]]
def opD (x : ByteArray × Int) : D := .agg [.str x.1, .int .i64 x.2]
def OpsAt (W : World) : Prop := ∃ v0 v1 v2 v3 v4 : Value, (∀ j v, [v0, v1, v2, v3, v4][j]? = some v → W.cell? ⟨5, 0 + j, none⟩ = some v) ∧
 ∀ i (hi : i < 5), RowV W noX ([v0, v1, v2, v3, v4][i]) ((opsL[i]'hi).map opD)
theorem OpsAt.keep {W W' : World} (h : OpsAt W) (hk : Kept noX W W') : OpsAt W' := by
 obtain ⟨v0, v1, v2, v3, v4, h1, h2⟩ := h
 refine ⟨v0, v1, v2, v3, v4, fun j v hv => ?_, fun i hi => (h2 i hi).keep hk⟩
 have := h1 j v hv
 rw [← this]
 exact World.cell?_of_block (hk.block _ (block_lt_of this) (fun h => h))
def rowFind (p : ByteArray → Int → Bool) (l : List (ByteArray × Int)) : Option (ByteArray × Int) := l.find? fun x => p x.1 x.2
def rankFrom (p : ByteArray → Int → Bool) : List (List (ByteArray × Int)) → Nat → (ByteArray × Int) × Nat × Bool
 | [], _ => ((⟨#[]⟩, 0), 0, false)
 | l :: t, r => match rowFind p l with
  | some x => (x, r, true)
  | none => rankFrom p t (r + 1)
def rankedP (p : ByteArray → Int → Bool) : (ByteArray × Int) × Nat × Bool := rankFrom p opsL 0
def rankedV (r : (ByteArray × Int) × Nat × Bool) : Value := .tuple #[.agg #[.string r.1.1, .int .i64 r.1.2], .int .i64 (r.2.1 : Nat), .bool r.2.2]
theorem rowFind_drop {p : ByteArray → Int → Bool} {l : List (ByteArray × Int)} {j : Nat} (hj : j < l.length) : rowFind p (l.drop j) = if p (l[j]).1 (l[j]).2 then some l[j] else rowFind p (l.drop (j + 1)) := by
 rw [rowFind, List.drop_eq_getElem_cons hj, List.find?_cons]
 split <;> simp_all [rowFind]
theorem rankFrom_drop {p : ByteArray → Int → Bool} {l : List (List (ByteArray × Int))} {i r : Nat} (hi : i < l.length) : rankFrom p (l.drop i) r = match rowFind p l[i] with | some x => (x, r, true) | none => rankFrom p (l.drop (i + 1)) (r + 1) := by
 rw [List.drop_eq_getElem_cons hi, rankFrom]
def leftS (r : Nat) : Nat := if r = 2 then 3 else r
theorem lefts_any (r : Nat) (hr : r ≤ 5) (w : World) : Calls Tryz.prog 155 #[.int .i64 (r : Nat)] w fun e w' => e = .returned (.int .i64 (leftS r : Nat)) ∧ w = w' := by
 unfold leftS
 by_cases h : r = 2
 ·subst h
  have e : ((2 : Nat) : Int) = 2 := rfl
  rw [e]
  go_enter Tryz.func155, Tryz.ntmps155
  go_wp2
  go_ret
  exact ⟨rfl, rfl⟩
 ·rw [if_neg h]
  go_enter Tryz.func155, Tryz.ntmps155
  go_wp2
  go_ret
  exact ⟨rfl, rfl⟩
theorem oper_at {W : World} {v : Value} {l : List (ByteArray × Int)} (h : RowV W noX v (l.map opD)) {j : Nat} (hj : j < l.length) :
  ∃ b o c, v = .slice (some ⟨b, o, none⟩) l.length c ∧ W.cell? ⟨b, o + j * 2, none⟩ = some (.string (l[j]).1) ∧ W.cell? ⟨b, o + j * 2 + 1, none⟩ = some (.int .i64 (l[j]).2) := by
 obtain ⟨b, o, c, size, cs, rfl, hsz, hr, hc⟩ := h.at_ (i := j) (by simpa using hj)
 rw [List.getElem_map] at hr
 simp only [opD, Rep.agg_cons, Rep.agg_nil, Rep.str_iff, Rep.int_iff] at hr
 obtain ⟨_, _, rfl, rfl, _, _, rfl, rfl, rfl⟩ := hr
 have h2 : size = 2 := by simpa using hsz.symm
 subst h2
 exact ⟨b, o, c, by rw [List.length_map], by simpa using hc 0 (by decide), by simpa [Nat.add_assoc] using hc 1 (by decide)⟩
theorem ranked_gen (f : Nat) (caps : Array Value) (eg : ∀ args w, (callFunc f args).run Tryz.prog w = .ok (.enter f args) w) (p : ByteArray → Int → Bool) (w : World) (hops : OpsAt w)
  (hcall : ∀ W s o, Kept noX w W → Calls Tryz.prog f (#[.agg #[.string s, .int .i64 o]] ++ caps) W fun e W' => e = .returned (.bool (p s o)) ∧ Kept noX W W') :
  Calls Tryz.prog 153 #[.func (.func f) #[] caps] w fun e w' => e = .returned (rankedV (rankedP p)) ∧ Kept noX w w' := by
 have hops' := hops
 obtain ⟨v0, v1, v2, v3, v4, hv, hrow⟩ := hops
 have g0 := hv 0 _ rfl; have g1 := hv 1 _ rfl; have g2 := hv 2 _ rfl; have g3 := hv 3 _ rfl; have g4 := hv 4 _ rfl
 simp only [Nat.zero_add] at g0 g1 g2 g3 g4
 have hb := block_lt_of g0
 have HC := aP hcall
 have HR := aP hrow
 clear hcall hv hrow hops'
 go_enter Tryz.func153, Tryz.ntmps153
 go_wp2
 obtain ⟨w0, hw0⟩ : ∃ w0, w0 = w.alloc (.cells #[.string ⟨#[]⟩, .int .i64 0] 196) := ⟨_, rfl⟩
 have hkw : Kept noX w w0 := by rw [hw0]; exact (Kept.refl _ _).alloc _
 have hB : Cells w0 w.heap.size 196 [.string ⟨#[]⟩, .int .i64 0] := by rw [hw0]; exact Cells.fresh w 196 _
 rw [← hw0]
 clear hw0 g0 g1 g2 g3 g4
 go_loopw [10] (fun i wr => ∃ k : Nat, k ≤ 5 ∧ i = .int .i64 k ∧ rankFrom p (opsL.drop k) k = rankedP p ∧ Kept noX w0 wr) (fun i _ => 5 - (intOf i).toNat)
 case atStart => exact ⟨0, Nat.zero_le _, rfl, rfl, Kept.refl _ _⟩
 case round =>
  obtain ⟨k, hk, rfl, hf, hkr⟩ := hrel
  by_cases hlt : k < 5
  ·have hix : ∃ v, (∀ W, (Instr.index 224 (.agg #[v0, v1, v2, v3, v4]) (.int .i64 (k : Nat))).run Tryz.prog W = .ok v W) ∧ RowV w noX v ((opsL[k]'hlt).map opD) ∧ (opsL[k]'hlt).length ≤ 1000 := by
    have hk' : k = 0 ∨ k = 1 ∨ k = 2 ∨ k = 3 ∨ k = 4 := by omega
    rcases hk' with rfl | rfl | rfl | rfl | rfl
    ·exact ⟨v0, fun _ => by kernel_rfl, HR.out 0 hlt, Nat.le_of_ble_eq_true rfl⟩
    ·exact ⟨v1, fun _ => by kernel_rfl, HR.out 1 hlt, Nat.le_of_ble_eq_true rfl⟩
    ·exact ⟨v2, fun _ => by kernel_rfl, HR.out 2 hlt, Nat.le_of_ble_eq_true rfl⟩
    ·exact ⟨v3, fun _ => by kernel_rfl, HR.out 3 hlt, Nat.le_of_ble_eq_true rfl⟩
    ·exact ⟨v4, fun _ => by kernel_rfl, HR.out 4 hlt, Nat.le_of_ble_eq_true rfl⟩
   obtain ⟨v, hix, hv, hl5⟩ := hix
   have hfd := rankFrom_drop (p := p) (l := opsL) (i := k) (r := k) hlt
   rw [hf] at hfd
   generalize opsL[k]'hlt = row at hv hfd hl5
   obtain ⟨A, n, c, rfl, hn, hnc, hcm⟩ := hv.form
   rw [List.length_map] at hn
   have hdl : decide ((k : Int) < 5) = true := by simp; omega
   have HV := aP hv
   have HFD := aP hfd
   clear hfd hf hv
   subst hn
   unfold maxLen at hcm
   go_wp2
   obtain ⟨wo, hwo⟩ : ∃ wo : World, wo = wr := ⟨_, rfl⟩
   rw [← hwo] at hkr ⊢
   clear hwo
   go_loopw [16] (fun i wr => ∃ j : Nat, j ≤ row.length ∧ i = .int .i64 j ∧ rowFind p (row.drop j) = rowFind p row ∧ Kept noX w0 wr) (fun i _ => row.length - (intOf i).toNat)
   case atStart => exact ⟨0, Nat.zero_le _, rfl, rfl, hkr⟩
   case round =>
    obtain ⟨j, hj, rfl, hfj, hkr2⟩ := hrel
    by_cases hjl : j < row.length
    ·have hdj : decide ((j : Int) < (row.length : Int)) = true := by simpa using hjl
     have hpd := rowFind_drop (p := p) hjl
     rw [hfj] at hpd
     obtain ⟨b, o, c', hvv, q0, q1⟩ := oper_at (HV.out.keep (hkw.trans hkr2)) hjl
     injection hvv with hA _ hcc
     subst hA
     subst hcc
     generalize hso : row[j] = so at q0 q1 hpd
     obtain ⟨s, op⟩ := so
     have hbl := block_lt_of q0
     have HCC := aP (fun W (hk : Kept noX wr W) => HC.out W s op ((hkw.trans hkr2).trans hk))
     have hR0 := hkw.size
     have hBl := hB.lt
     have hsz := hkr2.size
     have hBl2 : w.heap.size < wr.heap.size := by omega
     have hB2 := hB.kept hkr2 (fun h => h)
     cases hp : p s op with
     | true =>
      have HF : Hid (rankedP p = ((s, op), k, true)) := aP (by rw [HFD.out, ← hfj, rowFind_drop hjl, hso]; simp [hp])
      rw [hp] at HCC
      clear hpd hp hso hfj
      go_wp2_with fail
      refine (HCC.out _ kp).mono ?_
      rintro e W1 ⟨rfl, hk1⟩
      obtain ⟨r1, r2, r3⟩ := hk1.readsN (World.size_alloc _ _)
      have hB3 := (hB2.alloc (.cells #[.string s, .int .i64 op] 196)).kept hk1 (fun h => h)
      have d0 := hB2.cell 0; have d1 := hB2.cell 1; have f0 := hB2.free 0; have f1 := hB2.free 1
      simp only [aZ, aS] at d0 d1
      have HB3 := aP hB3
      clear hB3
      go_wp2
      obtain ⟨h1, h2⟩ := putL_all [.string s, .int .i64 op] HB3.out rfl
      refine ret_3 Tryz.results153 rfl (resVal.box rfl h1 Tryz.underlying196 rfl krf) (resVal.tmp rfl) (resVal.tmp rfl) ⟨by rw [HF.out] <;> rfl, ?_⟩
      exact (((hkw.trans hkr2).alloc _).trans hk1).join h2 (fun i hi hlt => by omega)
     | false =>
      have HF : Hid (rowFind p (row.drop (j + 1)) = rowFind p row) := aP (by rw [← hfj, rowFind_drop hjl, hso]; simp [hp])
      rw [hp] at HCC
      clear hpd hp hso hfj
      go_wp2_with fail
      refine (HCC.out _ kp).mono ?_
      rintro e W1 ⟨rfl, hk1⟩
      go_wp2
      go_roundw
      case rel => exact ⟨j + 1, by omega, by go_num, HF.out, (hkr2.alloc _).trans hk1⟩
      case measure => simp [intOf]; omega
    ·have hdj : decide ((j : Int) < (row.length : Int)) = false := by simpa using hjl
     have hj2 : j = row.length := by omega
     have HF : Hid (rankFrom p (opsL.drop (k + 1)) (k + 1) = rankedP p) := aP (by
       rw [HFD.out, ← hfj, hj2, List.drop_length] <;> rfl)
     clear hfj hj2
     go_wp2
     go_roundw
     case rel => exact ⟨k + 1, by omega, by go_num, HF.out, hkr2⟩
     case measure => simp [intOf]; omega
  ·have hdl : decide ((k : Int) < 5) = false := by simp; omega
   have hk5 : k = 5 := by omega
   have HF : Hid (rankedP p = ((⟨#[]⟩, 0), 0, false)) := aP (by rw [← hf, hk5] <;> rfl)
   have hB3 := hB.kept hkr (fun h => h)
   have d0 := hB3.cell 0; have d1 := hB3.cell 1; have f0 := hB3.free 0; have f1 := hB3.free 1
   simp only [aZ, aS] at d0 d1
   have HB3 := aP hB3
   clear hB3 hf hk5
   go_wp2
   obtain ⟨h1, h2⟩ := putL_all [.string ⟨#[]⟩, .int .i64 0] HB3.out rfl
   refine ret_3 Tryz.results153 rfl (resVal.box rfl h1 Tryz.underlying196 rfl krf) (resVal.tmp rfl) (resVal.tmp rfl) ⟨by rw [HF.out] <;> rfl, ?_⟩
   exact (hkw.trans hkr).join h2 (fun i hi hlt => by omega)
def signP (s : ByteArray) : ByteArray → Int → Bool := fun t _ => decide (t = s)
theorem aboveC_any (b : Nat) (s t : ByteArray) (o : Int) (w : World) (hb : w.cell? ⟨b, 0, none⟩ = some (.string s)) :
  Calls Tryz.prog 186 (#[.agg #[.string t, .int .i64 o]] ++ #[.pointer (some ⟨b, 0, none⟩)]) w fun e w' => e = .returned (.bool (signP s t o)) ∧ Kept noX w w' := by
 have hbl := block_lt_of hb
 have hbt := beq_text t s
 cases hs : signP s t o with
 | true =>
  have h1 : (t.toList == s.toList) = true := by rw [hbt]; exact hs
  clear hs hbt
  go_enter Tryz.func186, Tryz.ntmps186
  go_wp2
  go_ret
  exact ⟨rfl, (Kept.refl _ _).alloc _⟩
 | false =>
  have h1 : (t.toList == s.toList) = false := by rw [hbt]; exact hs
  clear hs hbt
  go_enter Tryz.func186, Tryz.ntmps186
  go_wp2
  go_ret
  exact ⟨rfl, (Kept.refl _ _).alloc _⟩
section
variable (S : Src)
def opAt (k : Nat) : (ByteArray × Int) × Nat × Bool := rankedP (signP (S.tok k).text)
def stopS (least has k : Nat) : Bool := !(opAt S k).2.2 || decide ((opAt S k).2.1 < least) || decide (has < leftS (opAt S k).2.1)
mutual
def operandS : Nat → Nat → Except Nat (ET × Nat)
 | 0, k => .error k
 | f + 1, k =>
  if takeB S k ⟨#[45]⟩ then thn (operandS f (k + 1)) fun e k => .ok (negE e, k)
  else if takeB S k ⟨#[33]⟩ then thn (operandS f (k + 1)) fun e k => .ok (notE e, k)
  else if takeB S k ⟨#[40]⟩ then thn (aboveS f 0 (k + 1)) fun e k => thn (wantS S k ⟨#[41]⟩) fun _ k => .ok (e, k)
  else if kindB S k 2 then thn (numS S k) fun n k => .ok (numE n, k)
  else thn (nameS S k) fun s k =>
   if takeB S k ⟨#[91]⟩ then thn (aboveS f 0 (k + 1)) fun e k => thn (wantS S k ⟨#[93]⟩) fun _ k => .ok (cellE s e, k)
   else .ok (nameE s, k)
def aboveS : Nat → Nat → Nat → Except Nat (ET × Nat)
 | 0, _, k => .error k
 | f + 1, least, k => thn (operandS f k) fun e k => climbS f least e 5 k
def climbS : Nat → Nat → ET → Nat → Nat → Except Nat (ET × Nat)
 | 0, _, _, _, k => .error k
 | f + 1, least, e, has, k =>
  if stopS S least has k then .ok (e, k)
  else thn (aboveS f ((opAt S k).2.1 + 1) (k + 1)) fun e2 k2 => climbS f least (binE (opAt S k).1.2 e e2) (opAt S k).2.1 k2
end
end
def OperC (S : Src) (f : Nat) : Prop := ∀ R k w, DR w R S k → (S.n - k) * 3 + 1 ≤ f → Calls Tryz.prog 185 #[.pointer (some ⟨R, 0, none⟩)] w (Parsed w R S retE (operandS S f k))
def AboveC (S : Src) (f : Nat) : Prop := ∀ R (least : Nat) k w, DR w R S k → least ≤ 5 → (S.n - k) * 3 + 2 ≤ f → Calls Tryz.prog 169 #[.pointer (some ⟨R, 0, none⟩), .int .i64 (least : Nat)] w (Parsed w R S retE (aboveS S f least k))
abbrev zeroE : List Value := [.int .i64 0, .int .i64 0, .string ⟨#[]⟩, .int .i64 0, .bool false, .int .i64 0, .slice none 0 0]
section
variable {S : Src} {f R k : Nat} {w : World}
theorem expr_calls (hA : AboveC S f) (h : DR w R S k) (hf : (S.n - k) * 3 + 2 ≤ f) : Calls Tryz.prog 127 #[.pointer (some ⟨R, 0, none⟩)] w (Parsed w R S retE (aboveS S f 0 k)) := by
 have HS : Hid (aboveS S f 0 k = thn (aboveS S f 0 k) fun e k => .ok (e, k)) := aP (by cases aboveS S f 0 k <;> rfl)
 have HA := aP (fun W (h : DR W R S k) => hA R 0 k W h kom hf)
 have hRl := h.lt
 have hB := Cells.fresh w 44 zeroE
 have HB := aP hB
 have hsz : (w.alloc (.cells zeroE.toArray 44)).heap.size = w.heap.size + 1 := by simp
 clear hA hB
 go_enter Tryz.func127, Tryz.ntmps127
 go_wp2_with fail
 refine ((HA.out _ kdr)).mono ?_
 intro e W1 hq
 rcases hq.cases with ⟨kx, hr, hm, hk1⟩ | ⟨a1, k1, hr, hret, hd1, hk1⟩
 ·exact k_3
 replace HS := aP (HS.out.trans (by rw [hr, thn_ok]))
 clear hr hq
 obtain ⟨ra1, rb1, rc1⟩ := hk1.readsR (show _ = w.heap.size + 1 from hsz)
 obtain ⟨csx, rfl, hevx⟩ := hret
 obtain ⟨kx, mx, sx, slx, lox, ox, Ax, Nx, Cx, rfl⟩ := hevx.form
 have HEVx := aP hevx
 clear hevx
 have la1 : R < W1.heap.size := by omega
 have lb1 : w.heap.size < W1.heap.size := by omega
 clear hsz
 go_wp2
 refine fin_box (W := W1) (B := w.heap.size) (t := 44) (old := zeroE) Tryz.results127 [.int .i64 kx, .int .i64 mx, .string sx, .int .i64 slx, .bool lox, .int .i64 ox, .slice Ax Nx Cx] rfl (have q := HB.out; kcl) rfl hd1 kom kom kp Tryz.underlying44 rfl krf rfl kkn (fun hdf hkf hkB hsB => Parsed.ok HS.out ⟨_, rfl, ?_⟩ hdf hkf)
 exact (HEVx.out.kept hkB (fun g _ h => by have h : g = w.heap.size := h; show g < _; first | omega | (rw [World.size_alloc]; omega))).mono (fun g _ h => by have h : g < w.heap.size := h; show g < _; first | omega | (rw [World.size_alloc]; omega))
theorem oper_minus (hO : OperC S f) (h : DR w R S k) (hf : (S.n - k) * 3 + 1 ≤ f + 1) (ht1 : takeB S k ⟨#[45]⟩ = true) :
  Calls Tryz.prog 185 #[.pointer (some ⟨R, 0, none⟩)] w (Parsed w R S retE (operandS S (f + 1) k)) := by
 have HS : Hid (operandS S (f + 1) k = thn (operandS S f (k + 1)) fun e k => .ok (negE e, k)) := aP (by rw [operandS, if_pos ht1])
 have hlt := takeB_lt ht1 (by decide)
 have HO := aP (fun W (h : DR W R S (k + 1)) => hO R (k + 1) W h kom)
 have HT1 := aP ht1
 have hRl := h.lt
 have hB := Cells.fresh w 44 zeroE
 have HB := aP hB
 have hsz : (w.alloc (.cells zeroE.toArray 44)).heap.size = w.heap.size + 1 := by simp
 clear ht1 hO hB
 go_enter Tryz.func185, Tryz.ntmps185
 go_wp2_with fail
 refine (take_any (S := S) (k := k) (by decide) kdr).mono ?_
 rintro e W1 ⟨rfl, hd1, hk1⟩
 rw [HT1.out] at hd1 ⊢
 replace hd1 : DR W1 R S (k + 1) := hd1
 obtain ⟨ra1, rb1, rc1⟩ := hk1.readsR (show _ = w.heap.size + 1 from hsz)
 have la1 : R < W1.heap.size := by omega
 have lb1 : w.heap.size < W1.heap.size := by omega
 clear hsz
 go_wp2_with fail
 refine ((HO.out _ hd1)).mono ?_
 intro e W2 hq
 rcases hq.cases with ⟨kx, hr, hm, hk2⟩ | ⟨a2, k2, hr, hret, hd2, hk2⟩
 ·exact k_3
 replace HS := aP (HS.out.trans (by rw [hr, thn_ok]))
 clear hr hq
 obtain ⟨ra2, rb2, rc2⟩ := hk2.readsR (show _ = W1.heap.size from rfl)
 obtain ⟨csx, rfl, hevx⟩ := hret
 obtain ⟨kx, mx, sx, slx, lox, ox, Ax, Nx, Cx, rfl⟩ := hevx.form
 have HEVx := aP hevx
 clear hevx
 have la2 : R < W2.heap.size := by omega
 have lb2 : w.heap.size < W2.heap.size := by omega
 go_wp2
 refine fin_box (W := W2) (B := w.heap.size) (t := 44) (old := zeroE) Tryz.results185 [.int .i64 4, .int .i64 0, .string ⟨#[]⟩, .int .i64 0, .bool false, .int .i64 0, .slice (some ⟨W2.heap.size, 0, none⟩) 1 1] rfl (have q := HB.out; kcl) rfl hd2 kom kom kp Tryz.underlying44 rfl krf rfl kkn (fun hdf hkf hkB hsB => Parsed.ok HS.out ⟨_, rfl, ?_⟩ hdf hkf)
 have hev := EV.one (HEVx.out.kept hkB (fun g _ h => by have h : g = w.heap.size := h; show g < _; first | omega | (rw [World.size_alloc]; omega))) (by rw [hsB]; show ¬ _ < _; omega) 4 0 ⟨#[]⟩ 0 44
 rw [hsB] at hev
 exact hev.mono (fun g _ h => by have h : g < w.heap.size := h; show g < _; first | omega | (rw [World.size_alloc]; omega))
theorem oper_not (hO : OperC S f) (h : DR w R S k) (hf : (S.n - k) * 3 + 1 ≤ f + 1) (ht1 : takeB S k ⟨#[45]⟩ = false) (ht2 : takeB S k ⟨#[33]⟩ = true) :
  Calls Tryz.prog 185 #[.pointer (some ⟨R, 0, none⟩)] w (Parsed w R S retE (operandS S (f + 1) k)) := by
 have HS : Hid (operandS S (f + 1) k = thn (operandS S f (k + 1)) fun e k => .ok (notE e, k)) := aP (by rw [operandS, ht1, ht2] <;> rfl)
 have hlt := takeB_lt ht2 (by decide)
 have HO := aP (fun W (h : DR W R S (k + 1)) => hO R (k + 1) W h kom)
 clear hO
 have HT1 := aP ht1
 have HT2 := aP ht2
 have hRl := h.lt
 have hB := Cells.fresh w 44 zeroE
 have HB := aP hB
 have hsz : (w.alloc (.cells zeroE.toArray 44)).heap.size = w.heap.size + 1 := by simp
 clear hB ht1 ht2
 go_enter Tryz.func185, Tryz.ntmps185
 go_wp2_with fail
 refine (take_any (S := S) (k := k) (by decide) kdr).mono ?_
 rintro e W1 ⟨rfl, hd1, hk1⟩
 rw [HT1.out] at hd1 ⊢
 replace hd1 : DR W1 R S k := hd1
 obtain ⟨ra1, rb1, rc1⟩ := hk1.readsR (show _ = w.heap.size + 1 from hsz)
 have la1 : R < W1.heap.size := by omega
 have lb1 : w.heap.size < W1.heap.size := by omega
 clear hsz
 go_wp2_with fail
 refine (take_any (S := S) (k := k) (by decide) kdr).mono ?_
 rintro e W2 ⟨rfl, hd2, hk2⟩
 rw [HT2.out] at hd2 ⊢
 replace hd2 : DR W2 R S (k + 1) := hd2
 obtain ⟨ra2, rb2, rc2⟩ := hk2.readsR (show _ = W1.heap.size from rfl)
 have la2 : R < W2.heap.size := by omega
 have lb2 : w.heap.size < W2.heap.size := by omega
 go_wp2_with fail
 refine ((HO.out _ hd2)).mono ?_
 intro e W3 hq
 rcases hq.cases with ⟨kx, hr, hm, hk3⟩ | ⟨a3, k3, hr, hret, hd3, hk3⟩
 ·exact k_3
 replace HS := aP (HS.out.trans (by rw [hr, thn_ok]))
 clear hr hq
 obtain ⟨ra3, rb3, rc3⟩ := hk3.readsR (show _ = W2.heap.size from rfl)
 obtain ⟨csx, rfl, hevx⟩ := hret
 obtain ⟨kx, mx, sx, slx, lox, ox, Ax, Nx, Cx, rfl⟩ := hevx.form
 have HEVx := aP hevx
 clear hevx
 have la3 : R < W3.heap.size := by omega
 have lb3 : w.heap.size < W3.heap.size := by omega
 go_wp2
 refine fin_box (W := W3) (B := w.heap.size) (t := 44) (old := zeroE) Tryz.results185 [.int .i64 5, .int .i64 0, .string ⟨#[]⟩, .int .i64 0, .bool false, .int .i64 0, .slice (some ⟨W3.heap.size, 0, none⟩) 1 1] rfl (have q := HB.out; kcl) rfl hd3 kom kom kp Tryz.underlying44 rfl krf rfl kkn (fun hdf hkf hkB hsB => Parsed.ok HS.out ⟨_, rfl, ?_⟩ hdf hkf)
 have hev := EV.one (HEVx.out.kept hkB (fun g _ h => by have h : g = w.heap.size := h; show g < _; first | omega | (rw [World.size_alloc]; omega))) (by rw [hsB]; show ¬ _ < _; omega) 5 0 ⟨#[]⟩ 0 44
 rw [hsB] at hev
 exact hev.mono (fun g _ h => by have h : g < w.heap.size := h; show g < _; first | omega | (rw [World.size_alloc]; omega))
theorem oper_paren (hA : AboveC S f) (h : DR w R S k) (hf : (S.n - k) * 3 + 1 ≤ f + 1) (ht1 : takeB S k ⟨#[45]⟩ = false) (ht2 : takeB S k ⟨#[33]⟩ = false) (ht3 : takeB S k ⟨#[40]⟩ = true) :
  Calls Tryz.prog 185 #[.pointer (some ⟨R, 0, none⟩)] w (Parsed w R S retE (operandS S (f + 1) k)) := by
 have HS : Hid (operandS S (f + 1) k = thn (aboveS S f 0 (k + 1)) fun e k => thn (wantS S k ⟨#[41]⟩) fun _ k => .ok (e, k)) := aP (by rw [operandS, ht1, ht2, ht3] <;> rfl)
 have hlt := takeB_lt ht3 (by decide)
 have HO := aP (fun W (h : DR W R S (k + 1)) => expr_calls hA h kom)
 clear hA
 have HT1 := aP ht1
 have HT2 := aP ht2
 have HT3 := aP ht3
 have hRl := h.lt
 have hB := Cells.fresh w 44 zeroE
 have HB := aP hB
 have hsz : (w.alloc (.cells zeroE.toArray 44)).heap.size = w.heap.size + 1 := by simp
 clear hB ht1 ht2 ht3
 go_enter Tryz.func185, Tryz.ntmps185
 go_wp2_with fail
 refine (take_any (S := S) (k := k) (by decide) kdr).mono ?_
 rintro e W1 ⟨rfl, hd1, hk1⟩
 rw [HT1.out] at hd1 ⊢
 replace hd1 : DR W1 R S k := hd1
 obtain ⟨ra1, rb1, rc1⟩ := hk1.readsR (show _ = w.heap.size + 1 from hsz)
 have la1 : R < W1.heap.size := by omega
 have lb1 : w.heap.size < W1.heap.size := by omega
 clear hsz
 go_wp2_with fail
 refine (take_any (S := S) (k := k) (by decide) kdr).mono ?_
 rintro e W2 ⟨rfl, hd2, hk2⟩
 rw [HT2.out] at hd2 ⊢
 replace hd2 : DR W2 R S k := hd2
 obtain ⟨ra2, rb2, rc2⟩ := hk2.readsR (show _ = W1.heap.size from rfl)
 have la2 : R < W2.heap.size := by omega
 have lb2 : w.heap.size < W2.heap.size := by omega
 go_wp2_with fail
 refine (take_any (S := S) (k := k) (by decide) kdr).mono ?_
 rintro e W3 ⟨rfl, hd3, hk3⟩
 rw [HT3.out] at hd3 ⊢
 replace hd3 : DR W3 R S (k + 1) := hd3
 obtain ⟨ra3, rb3, rc3⟩ := hk3.readsR (show _ = W2.heap.size from rfl)
 have la3 : R < W3.heap.size := by omega
 have lb3 : w.heap.size < W3.heap.size := by omega
 go_wp2_with fail
 refine ((HO.out _ hd3)).mono ?_
 intro e W4 hq
 rcases hq.cases with ⟨kx, hr, hm, hk4⟩ | ⟨a4, k4, hr, hret, hd4, hk4⟩
 ·exact k_3
 replace HS := aP (HS.out.trans (by rw [hr, thn_ok]))
 clear hr hq
 obtain ⟨ra4, rb4, rc4⟩ := hk4.readsR (show _ = W3.heap.size from rfl)
 obtain ⟨csx, rfl, hevx⟩ := hret
 obtain ⟨kx, mx, sx, slx, lox, ox, Ax, Nx, Cx, rfl⟩ := hevx.form
 have HEVx := aP hevx
 clear hevx
 have la4 : R < W4.heap.size := by omega
 have lb4 : w.heap.size < W4.heap.size := by omega
 have hEX := HEVx.out.keep ((Kept.refl noX W4).alloc (.cells #[.int .i64 kx, .int .i64 mx, .string sx, .int .i64 slx, .bool lox, .int .i64 ox, .slice Ax Nx Cx] 44))
 have HEX := aP hEX
 clear hEX
 go_wp2_with fail
 refine ((want_any (S := S) (k := k4) (s := ⟨#[41]⟩) (by decide) kdr)).mono ?_
 intro e W5 hq
 rcases hq.cases with ⟨kx, hr, hm, hk5⟩ | ⟨a5, k5, hr, hret, hd5, hk5⟩
 ·exact k_3
 replace HS := aP (HS.out.trans (by rw [hr, thn_ok]))
 clear hr hq
 obtain ⟨ra5, rb5, rc5⟩ := hk5.readsR (show _ = W4.heap.size + 1 from (World.size_alloc _ _))
 have hret : e = _ := hret
 subst hret
 have la5 : R < W5.heap.size := by omega
 have lb5 : w.heap.size < W5.heap.size := by omega
 have lx : R < W4.heap.size + 1 := by omega
 go_wp2
 refine fin_box (W := W5) (B := w.heap.size) (t := 44) (old := zeroE) Tryz.results185 [.int .i64 kx, .int .i64 mx, .string sx, .int .i64 slx, .bool lox, .int .i64 ox, .slice Ax Nx Cx] rfl (have q := HB.out; kcl) rfl hd5 kom kom kp Tryz.underlying44 rfl krf rfl kkn (fun hdf hkf hkB hsB => Parsed.ok HS.out ⟨_, rfl, ?_⟩ hdf hkf)
 exact ((HEX.out.kept hk5 (fun g _ h => by have h : g = R := h; show g < _; first | omega | (rw [World.size_alloc]; omega))).kept hkB (fun g _ h => by have h : g = w.heap.size := h; show g < _; first | omega | (rw [World.size_alloc]; omega))).mono (fun g _ h => by have h : g < w.heap.size := h; show g < _; first | omega | (rw [World.size_alloc]; omega))
theorem oper_num (h : DR w R S k) (ht1 : takeB S k ⟨#[45]⟩ = false) (ht2 : takeB S k ⟨#[33]⟩ = false) (ht3 : takeB S k ⟨#[40]⟩ = false) (hkb : kindB S k 2 = true) :
  Calls Tryz.prog 185 #[.pointer (some ⟨R, 0, none⟩)] w (Parsed w R S retE (operandS S (f + 1) k)) := by
 have HS : Hid (operandS S (f + 1) k = thn (numS S k) fun n k => .ok (numE n, k)) := aP (by rw [operandS, ht1, ht2, ht3, hkb] <;> rfl)
 have hkt : ((S.tok k).kind == (2 : Int)) = true := by rw [beq_iff_eq]; exact of_decide_eq_true hkb
 clear hkb
 have HT1 := aP ht1
 have HT2 := aP ht2
 have HT3 := aP ht3
 have hRl := h.lt
 have hB := Cells.fresh w 44 zeroE
 have HB := aP hB
 have hsz : (w.alloc (.cells zeroE.toArray 44)).heap.size = w.heap.size + 1 := by simp
 clear hB ht1 ht2 ht3
 go_enter Tryz.func185, Tryz.ntmps185
 go_wp2_with fail
 refine (take_any (S := S) (k := k) (by decide) kdr).mono ?_
 rintro e W1 ⟨rfl, hd1, hk1⟩
 rw [HT1.out] at hd1 ⊢
 replace hd1 : DR W1 R S k := hd1
 obtain ⟨ra1, rb1, rc1⟩ := hk1.readsR (show _ = w.heap.size + 1 from hsz)
 have la1 : R < W1.heap.size := by omega
 have lb1 : w.heap.size < W1.heap.size := by omega
 clear hsz
 go_wp2_with fail
 refine (take_any (S := S) (k := k) (by decide) kdr).mono ?_
 rintro e W2 ⟨rfl, hd2, hk2⟩
 rw [HT2.out] at hd2 ⊢
 replace hd2 : DR W2 R S k := hd2
 obtain ⟨ra2, rb2, rc2⟩ := hk2.readsR (show _ = W1.heap.size from rfl)
 have la2 : R < W2.heap.size := by omega
 have lb2 : w.heap.size < W2.heap.size := by omega
 go_wp2_with fail
 refine (take_any (S := S) (k := k) (by decide) kdr).mono ?_
 rintro e W3 ⟨rfl, hd3, hk3⟩
 rw [HT3.out] at hd3 ⊢
 replace hd3 : DR W3 R S k := hd3
 obtain ⟨ra3, rb3, rc3⟩ := hk3.readsR (show _ = W2.heap.size from rfl)
 have la3 : R < W3.heap.size := by omega
 have lb3 : w.heap.size < W3.heap.size := by omega
 go_wp2_with fail
 refine (next_any (S := S) (k := k) kdr).mono ?_
 rintro e W4 ⟨rfl, hk4'⟩
 have hd4 := hd3.keep hk4'
 have hk4 : Kept (· = R) W3 W4 := hk4'.any
 simp only [TokD.cells]
 clear hk4'
 obtain ⟨ra4, rb4, rc4⟩ := hk4.readsR (show _ = W3.heap.size from rfl)
 have la4 : R < W4.heap.size := by omega
 have lb4 : w.heap.size < W4.heap.size := by omega
 go_wp2_with fail
 refine ((number_calls hd4)).mono ?_
 intro e W5 hq
 rcases hq.cases with ⟨kx, hr, hm, hk5⟩ | ⟨a5, k5, hr, hret, hd5, hk5⟩
 ·exact k_3
 replace HS := aP (HS.out.trans (by rw [hr, thn_ok]))
 clear hr hq
 obtain ⟨ra5, rb5, rc5⟩ := hk5.readsR (show _ = W4.heap.size from rfl)
 have hret : e = _ := hret
 subst hret
 have la5 : R < W5.heap.size := by omega
 have lb5 : w.heap.size < W5.heap.size := by omega
 go_wp2
 refine fin_box (W := W5) (B := w.heap.size) (t := 44) (old := zeroE) Tryz.results185 [.int .i64 1, .int .i64 a5, .string ⟨#[]⟩, .int .i64 0, .bool false, .int .i64 0, .slice none 0 0] rfl (have q := HB.out; kcl) rfl hd5 kom kom kp Tryz.underlying44 rfl krf rfl kkn (fun hdf hkf hkB hsB => Parsed.ok HS.out ⟨_, rfl, ?_⟩ hdf hkf)
 exact EV.leaf _ _ 1 a5 ⟨#[]⟩ 0
theorem oper_name (hA : AboveC S f) (h : DR w R S k) (hf : (S.n - k) * 3 + 1 ≤ f + 1) (ht1 : takeB S k ⟨#[45]⟩ = false) (ht2 : takeB S k ⟨#[33]⟩ = false) (ht3 : takeB S k ⟨#[40]⟩ = false) (hkb : kindB S k 2 = false) :
  Calls Tryz.prog 185 #[.pointer (some ⟨R, 0, none⟩)] w (Parsed w R S retE (operandS S (f + 1) k)) := by
 have HS : Hid (operandS S (f + 1) k = thn (nameS S k) fun s k =>
     if takeB S k ⟨#[91]⟩ then thn (aboveS S f 0 (k + 1)) fun e k => thn (wantS S k ⟨#[93]⟩) fun _ k => .ok (cellE s e, k)
     else .ok (nameE s, k)) := aP (by rw [operandS, ht1, ht2, ht3, hkb] <;> rfl)
 have hkt : ((S.tok k).kind == (2 : Int)) = false := by rw [beq_eq_false_iff_ne]; exact of_decide_eq_false hkb
 have HO := aP (fun W k (h : DR W R S k) (hm : (S.n - k) * 3 + 2 ≤ f) => expr_calls hA h hm)
 have HN : Hid (∀ p, nameS S k = .ok p → p.2 = k + 1 ∧ k < S.n) := aP (fun p hp => by
   unfold nameS ofS at hp
   cases hkq : kindB S k 1 with
   | true => rw [hkq] at hp; simp only [if_true, thn_ok] at hp; injection hp with hp; subst hp; exact ⟨rfl, Src.tok_lt hkq (by decide)⟩
   | false => rw [hkq] at hp; cases hp)
 clear hkb hA
 have HT1 := aP ht1
 have HT2 := aP ht2
 have HT3 := aP ht3
 have hRl := h.lt
 have hB := Cells.fresh w 44 zeroE
 have HB := aP hB
 have hsz : (w.alloc (.cells zeroE.toArray 44)).heap.size = w.heap.size + 1 := by simp
 clear hB ht1 ht2 ht3
 go_enter Tryz.func185, Tryz.ntmps185
 go_wp2_with fail
 refine (take_any (S := S) (k := k) (by decide) kdr).mono ?_
 rintro e W1 ⟨rfl, hd1, hk1⟩
 rw [HT1.out] at hd1 ⊢
 replace hd1 : DR W1 R S k := hd1
 obtain ⟨ra1, rb1, rc1⟩ := hk1.readsR (show _ = w.heap.size + 1 from hsz)
 have la1 : R < W1.heap.size := by omega
 have lb1 : w.heap.size < W1.heap.size := by omega
 clear hsz
 go_wp2_with fail
 refine (take_any (S := S) (k := k) (by decide) kdr).mono ?_
 rintro e W2 ⟨rfl, hd2, hk2⟩
 rw [HT2.out] at hd2 ⊢
 replace hd2 : DR W2 R S k := hd2
 obtain ⟨ra2, rb2, rc2⟩ := hk2.readsR (show _ = W1.heap.size from rfl)
 have la2 : R < W2.heap.size := by omega
 have lb2 : w.heap.size < W2.heap.size := by omega
 go_wp2_with fail
 refine (take_any (S := S) (k := k) (by decide) kdr).mono ?_
 rintro e W3 ⟨rfl, hd3, hk3⟩
 rw [HT3.out] at hd3 ⊢
 replace hd3 : DR W3 R S k := hd3
 obtain ⟨ra3, rb3, rc3⟩ := hk3.readsR (show _ = W2.heap.size from rfl)
 have la3 : R < W3.heap.size := by omega
 have lb3 : w.heap.size < W3.heap.size := by omega
 go_wp2_with fail
 refine (next_any (S := S) (k := k) kdr).mono ?_
 rintro e W4 ⟨rfl, hk4'⟩
 have hd4 := hd3.keep hk4'
 have hk4 : Kept (· = R) W3 W4 := hk4'.any
 simp only [TokD.cells]
 clear hk4'
 obtain ⟨ra4, rb4, rc4⟩ := hk4.readsR (show _ = W3.heap.size from rfl)
 have la4 : R < W4.heap.size := by omega
 have lb4 : w.heap.size < W4.heap.size := by omega
 go_wp2_with fail
 refine (name_calls hd4).mono ?_
 intro e W5 hq
 rcases hq.cases with ⟨kx, hr, hm, hk5⟩ | ⟨a5, k5, hr, hret, hd5, hk5⟩
 ·exact k_3
 obtain ⟨hk5e, hkn⟩ := HN.out _ hr
 replace HS := aP (HS.out.trans (by rw [hr, thn_ok]))
 have hk5e : k5 = k + 1 := hk5e
 have hf5 : (S.n - k5) * 3 + 2 ≤ f := by omega
 clear hr hq hk5e
 obtain ⟨ra5, rb5, rc5⟩ := hk5.readsR (show _ = W4.heap.size from rfl)
 have hret : e = _ := hret
 subst hret
 have la5 : R < W5.heap.size := by omega
 have lb5 : w.heap.size < W5.heap.size := by omega
 have lx : R < W5.heap.size + 1 := by omega
 cases ht4 : takeB S k5 ⟨#[91]⟩ with
 | false =>
  rw [ht4, if_neg Bool.false_ne_true] at HS
  have HT6 := aP ht4
  clear ht4
  go_wp2_with fail
  refine (take_any (S := S) (k := k5) (by decide) kdr).mono ?_
  rintro e W6 ⟨rfl, hd6, hk6⟩
  rw [HT6.out] at hd6 ⊢
  replace hd6 : DR W6 R S k5 := hd6
  obtain ⟨ra6, rb6, rc6⟩ := hk6.readsR (show _ = W5.heap.size + 1 from (World.size_alloc _ _))
  have la6 : R < W6.heap.size := by omega
  have lb6 : w.heap.size < W6.heap.size := by omega
  go_wp2
  refine fin_box (W := W6) (B := w.heap.size) (t := 44) (old := zeroE) Tryz.results185 [.int .i64 2, .int .i64 0, .string a5, .int .i64 0, .bool false, .int .i64 0, .slice none 0 0] rfl (have q := HB.out; kcl) rfl hd6 kom kom kp Tryz.underlying44 rfl krf rfl kkn (fun hdf hkf hkB hsB => Parsed.ok HS.out ⟨_, rfl, ?_⟩ hdf hkf)
  exact EV.leaf _ _ 2 0 a5 0
 | true =>
  rw [ht4, if_pos rfl] at HS
  have HT6 := aP ht4
  clear ht4
  go_wp2_with fail
  refine (take_any (S := S) (k := k5) (by decide) kdr).mono ?_
  rintro e W6 ⟨rfl, hd6, hk6⟩
  rw [HT6.out] at hd6 ⊢
  replace hd6 : DR W6 R S (k5 + 1) := hd6
  obtain ⟨ra6, rb6, rc6⟩ := hk6.readsR (show _ = W5.heap.size + 1 from (World.size_alloc _ _))
  have la6 : R < W6.heap.size := by omega
  have lb6 : w.heap.size < W6.heap.size := by omega
  have lc : W5.heap.size < W6.heap.size := by omega
  go_wp2_with fail
  refine ((HO.out _ _ hd6 kom)).mono ?_
  intro e W7 hq
  rcases hq.cases with ⟨kx, hr, hm, hk7⟩ | ⟨a7, k7, hr, hret, hd7, hk7⟩
  ·exact k_3
  replace HS := aP (HS.out.trans (by rw [hr, thn_ok]))
  clear hr hq
  obtain ⟨ra7, rb7, rc7⟩ := hk7.readsR (show _ = W6.heap.size from rfl)
  obtain ⟨csx, rfl, hevx⟩ := hret
  obtain ⟨kx, mx, sx, slx, lox, ox, Ax, Nx, Cx, rfl⟩ := hevx.form
  have HEVx := aP hevx
  clear hevx
  have la7 : R < W7.heap.size := by omega
  have lb7 : w.heap.size < W7.heap.size := by omega
  have ld : W5.heap.size < W7.heap.size := by omega
  have hs7 : ((W7.setCell ⟨W5.heap.size, 0, none⟩ (.int .i64 3)).setCell ⟨W5.heap.size, 6, none⟩ (.slice (some ⟨W7.heap.size, 0, none⟩) 1 1)).heap.size = W7.heap.size := by simp
  have hev := EV.one ((HEVx.out.kept (X := (· = W5.heap.size)) ((Kept.refl _ _).setCell (p := ⟨W5.heap.size, 0, none⟩) (fun _ => by rfl) (.int .i64 3)) (fun g _ h => by have h : g = W5.heap.size := h; show g < _; first | omega | (rw [World.size_alloc]; omega))).kept (X := (· = W5.heap.size)) ((Kept.refl _ _).setCell (p := ⟨W5.heap.size, 6, none⟩) (fun _ => by rfl) (.slice (some ⟨W7.heap.size, 0, none⟩) 1 1)) (fun g _ h => by have h : g = W5.heap.size := h; show g < _; first | omega | (rw [World.size_alloc]; omega))) (by rw [hs7]; show ¬ _ < _; omega) 3 0 a5 0 44
  rw [hs7] at hev
  have HEV2 := aP hev
  clear hev hs7
  go_wp2_with fail
  refine ((want_any (S := S) (k := k7) (s := ⟨#[93]⟩) (by decide) kdr)).mono ?_
  intro e W8 hq
  rcases hq.cases with ⟨kx, hr, hm, hk8⟩ | ⟨a8, k8, hr, hret, hd8, hk8⟩
  ·exact k_3
  replace HS := aP (HS.out.trans (by rw [hr, thn_ok]))
  clear hr hq
  obtain ⟨ra8, rb8, rc8⟩ := hk8.readsR (show _ = W7.heap.size + 1 from (by simp))
  have hret : e = _ := hret
  subst hret
  have la8 : R < W8.heap.size := by omega
  have lb8 : w.heap.size < W8.heap.size := by omega
  have le : W5.heap.size < W8.heap.size := by omega
  have lf : W5.heap.size < W7.heap.size + 1 := by omega
  have lg : w.heap.size < W7.heap.size + 1 := by omega
  have lh : w.heap.size ≠ W5.heap.size := by omega
  go_wp2
  refine fin_box (W := W8) (B := w.heap.size) (t := 44) (old := zeroE) Tryz.results185 [.int .i64 3, .int .i64 0, .string a5, .int .i64 0, .bool false, .int .i64 0, .slice (some ⟨W7.heap.size, 0, none⟩) 1 1] rfl (have q := HB.out; kcl) rfl hd8 kom kom kp Tryz.underlying44 rfl krf rfl kkn (fun hdf hkf hkB hsB => Parsed.ok HS.out ⟨_, rfl, ?_⟩ hdf hkf)
  exact ((HEV2.out.kept hk8 (fun g _ h => by have h : g = R := h; show g < _; first | omega | (rw [World.size_alloc]; omega))).kept hkB (fun g _ h => by have h : g = w.heap.size := h; show g < _; first | omega | (rw [World.size_alloc]; omega))).mono (fun g _ h => by have h : g < w.heap.size := h; show g < _; first | omega | (rw [World.size_alloc]; omega))
end
theorem Reads.fin {w W : World} {R : Nat} {v : Value} {n : Nat} {T : Nat → TokD} {r : ET × Nat × Bool} {cs : List Value} {e : Ending} (he : e = .returned (.agg cs.toArray)) (hev : EV W (· < w.heap.size) cs r.1)
  (hr : R2 W R v n T r.2.1 r.2.2) (hk : Kept (· = R) w W) : Reads w R v n T r e W := ⟨cs, he, hev, hr, hk⟩
theorem R2.other {W W' : World} {R B : Nat} {v : Value} {n : Nat} {T : Nat → TokD} {k : Nat} {bad : Bool} (h : R2 W R v n T k bad) (hk : Kept (· = B) W W') (hB : R ≠ B) (hv : ∀ g, v.ownBlock = some g → g ≠ B) : R2 W' R v n T k bad :=
 h.kept hk (fun h => hB h) (fun g hg h => hv g hg h)
theorem prim_name_lt {n : Nat} {T : Nat → TokD} (R : Nat) (v : Value) (k : Nat) (bad : Bool) (w : World) (h : R2 w R v n T k bad) (hlt : k < n) (hkd : ((T k).kind == 2) = false) (h1 : isP n T k bad ⟨#[40]⟩ = false)
  (h3 : isP n T (kindStep n T k bad 1) (kindBad n T k bad 1) ⟨#[91]⟩ = false) : Calls Tryz.prog 197 #[.pointer (some ⟨R, 0, none⟩)] w (Reads w R v n T (nameE (nameOf n T k bad), kindStep n T k bad 1, kindBad n T k bad 1)) := by
 have hfew := h.few
 have hRw := h.is.lt
 have hkA : Kept noX w (w.alloc (.cells zeroE.toArray 44)) := (Kept.refl _ _).alloc _
 have hvB : ∀ g, v.ownBlock = some g → g < w.heap.size := fun g hg => by
  obtain ⟨xs, ho, _⟩ := h.row
  exact (ho.lt g hg).2
 have HVB := aP hvB
 have HB := aP (Cells.fresh w 44 zeroE)
 have HT := aP (rdtake_any R v n T k bad ⟨#[40]⟩ _ (h.keep hkA))
 have hst : stepP n T k bad ⟨#[40]⟩ = k := by simp [stepP, h1]
 rw [h1, hst] at HT
 have HN := aP (fun W (hr : R2 W R v n T k bad) => rdname_any R v n T k bad W hr)
 have HT2 := aP (fun W (hr : R2 W R v n T (kindStep n T k bad 1) (kindBad n T k bad 1)) => rdtake_any R v n T _ _ ⟨#[91]⟩ W hr)
 have hst2 : stepP n T (kindStep n T k bad 1) (kindBad n T k bad 1) ⟨#[91]⟩ = kindStep n T k bad 1 := by simp [stepP, h3]
 rw [h3, hst2] at HT2
 have hszA : (w.alloc (.cells zeroE.toArray 44)).heap.size = w.heap.size + 1 := by simp
 have HKA := aP hkA
 clear hst hst2 h1 h3 hkA hvB
 have hd : decide ((k : Int) < (n : Int)) = true := by simpa using hlt
 generalize kindStep n T k bad 1 = K1 at HN HT2 ⊢
 generalize kindBad n T k bad 1 = B1 at HN HT2 ⊢
 generalize nameOf n T k bad = nm at HN ⊢
 go_enter Tryz.func197, Tryz.ntmps197
 go_wp2_with fail
 refine HT.out.mono ?_
 rintro e W1 ⟨rfl, hr1, hk1⟩
 have hs1 := hk1.size
 rw [hszA] at hs1
 have hB1 := HB.out.kept hk1 kom
 have HK1 := aP (HKA.out.any.trans hk1)
 obtain ⟨A, c, rfl, hc, hm⟩ := hr1.row.form
 obtain ⟨g, c', hv, _, hcell⟩ := hr1.row.at_ hlt
 injection hv with hA' _ hcc
 subst hA'
 subst hcc
 have a0 := hcell 0 kom
 have c0 := hr1.is.cell 0; have c1 := hr1.is.cell 1
 simp only [TokD.cells, aZ, aS, Nat.add_zero] at a0 c0 c1
 clear hcell
 have HR1 := aP (fun nq : Nat => hr1.keep ((Kept.refl noX W1).drewN nq))
 have HB1 := aP hB1
 clear hr1 hk1 hB1 HT HB HKA
 go_wp2_with fail
 go_quiet (fail)
 go_wp2_with fail
 refine (HN.out _ (HR1.out nq)).mono ?_
 rintro e W2 ⟨rfl, hr2, hk2⟩
 have hk2' : Kept (· = R) W1 W2 := ((Kept.refl noX W1).drewN nq).any.trans hk2
 have hs2 := hk2'.size
 have HB2 := aP (HB1.out.kept hk2' kom)
 have HK2 := aP (HK1.out.trans hk2')
 clear c0 c1 a0 hk2 hk2' HR1 HB1 HK1
 go_wp2_with fail
 obtain ⟨W3, hW3⟩ : ∃ W3, W3 = W2.alloc (.cells #[.int .i64 2, .int .i64 0, .string nm, .int .i64 0, .bool false, .int .i64 0, .slice none 0 0] 44) := ⟨_, rfl⟩
 have hk3 : Kept noX W2 W3 := by rw [hW3]; exact (Kept.refl _ _).alloc _
 have HB3 := aP (show Cells W3 W2.heap.size 44 [.int .i64 2, .int .i64 0, .string nm, .int .i64 0, .bool false, .int .i64 0, .slice none 0 0] from by rw [hW3]; exact Cells.fresh W2 44 _)
 rw [← hW3]
 clear hW3
 have hs3 := hk3.size
 have HR3 := aP (hr2.keep hk3)
 have HB3' := aP (HB2.out.keep hk3)
 have HK3 := aP (HK2.out.trans hk3.any)
 have hl3 := HB3.out.lt
 obtain ⟨E, hE⟩ : ∃ E, E = W2.heap.size := ⟨_, rfl⟩
 rw [← hE] at HB3 hl3 ⊢
 have hER : E ≠ R := by omega
 have hEw : w.heap.size < E := by omega
 clear hr2 hk3 HB2 HK2 hE
 refine (HT2.out _ HR3.out).mono ?_
 rintro e W4 ⟨rfl, hr4, hk4⟩
 have hs4 := hk4.size
 have HE4 := aP (HB3.out.kept hk4 kom)
 have HB4 := aP (HB3'.out.kept hk4 kom)
 have HK4 := aP (HK3.out.trans hk4)
 have HR4 := aP hr4
 clear hr4 hk4 HB3 HB3' HK3 HR3
 go_wp2_with (first
   | ((with_reducible refine atl ?_); (refine wpList_load_cells rfl 44 (.tmp 4) rfl (E) rfl _ Tryz.underlying44 rfl HE4.out krf ?_))
   | ((with_reducible refine ats ?_); (refine wpList_store_all rfl rfl 44 (.tmp 2) (.tmp 51) rfl (w.heap.size) rfl [.int .i64 2, .int .i64 0, .string nm, .int .i64 0, .bool false, .int .i64 0, .slice none 0 0] rfl HB4.out (by rfl) krf k1c ?_; intro W9 hB9 hk9; have HB9 := aP hB9; clear hB9)))
 have hR9 := HR4.out.other hk9 kom (fun g hg => by have := HVB.out g hg; omega)
 refine ret_box Tryz.results197 rfl HB9.out Tryz.underlying44 rfl krf rfl (Reads.fin rfl ?_ hR9 (HK4.out.join hk9 (fun i hi hlt2 => by have hi : i = w.heap.size := hi; omega)))
 exact EV.leaf _ _ 2 0 nm 0
theorem prim_name_end {n : Nat} {T : Nat → TokD} (R : Nat) (v : Value) (k : Nat) (bad : Bool) (w : World) (h : R2 w R v n T k bad) (hge : n ≤ k) (h1 : isP n T k bad ⟨#[40]⟩ = false)
  (h3 : isP n T (kindStep n T k bad 1) (kindBad n T k bad 1) ⟨#[91]⟩ = false) : Calls Tryz.prog 197 #[.pointer (some ⟨R, 0, none⟩)] w (Reads w R v n T (nameE (nameOf n T k bad), kindStep n T k bad 1, kindBad n T k bad 1)) := by
 have hfew := h.few
 have hRw := h.is.lt
 have hkA : Kept noX w (w.alloc (.cells zeroE.toArray 44)) := (Kept.refl _ _).alloc _
 have hvB : ∀ g, v.ownBlock = some g → g < w.heap.size := fun g hg => by
  obtain ⟨xs, ho, _⟩ := h.row
  exact (ho.lt g hg).2
 have HVB := aP hvB
 have HB := aP (Cells.fresh w 44 zeroE)
 have HT := aP (rdtake_any R v n T k bad ⟨#[40]⟩ _ (h.keep hkA))
 have hst : stepP n T k bad ⟨#[40]⟩ = k := by simp [stepP, h1]
 rw [h1, hst] at HT
 have HN := aP (fun W (hr : R2 W R v n T k bad) => rdname_any R v n T k bad W hr)
 have HT2 := aP (fun W (hr : R2 W R v n T (kindStep n T k bad 1) (kindBad n T k bad 1)) => rdtake_any R v n T _ _ ⟨#[91]⟩ W hr)
 have hst2 : stepP n T (kindStep n T k bad 1) (kindBad n T k bad 1) ⟨#[91]⟩ = kindStep n T k bad 1 := by simp [stepP, h3]
 rw [h3, hst2] at HT2
 have hszA : (w.alloc (.cells zeroE.toArray 44)).heap.size = w.heap.size + 1 := by simp
 have HKA := aP hkA
 clear hst hst2 h1 h3 hkA hvB
 have hd : decide ((k : Int) < (n : Int)) = false := by simp; omega
 have hdn : decide (k < n) = false := by simp; omega
 clear hge
 generalize kindStep n T k bad 1 = K1 at HN HT2 ⊢
 generalize kindBad n T k bad 1 = B1 at HN HT2 ⊢
 generalize nameOf n T k bad = nm at HN ⊢
 go_enter Tryz.func197, Tryz.ntmps197
 go_wp2_with fail
 refine HT.out.mono ?_
 rintro e W1 ⟨rfl, hr1, hk1⟩
 have hs1 := hk1.size
 rw [hszA] at hs1
 have hB1 := HB.out.kept hk1 kom
 have HK1 := aP (HKA.out.any.trans hk1)
 obtain ⟨A, c, rfl, hc, hm⟩ := hr1.row.form
 have c0 := hr1.is.cell 0; have c1 := hr1.is.cell 1
 simp only [aZ, aS] at c0 c1
 have HR1 := aP (fun nq : Nat => hr1.keep ((Kept.refl noX W1).drewN nq))
 have HB1 := aP hB1
 clear hr1 hk1 hB1 HT HB HKA
 go_wp2_with fail
 go_quiet (fail)
 go_wp2_with fail
 refine (HN.out _ (HR1.out nq)).mono ?_
 rintro e W2 ⟨rfl, hr2, hk2⟩
 have hk2' : Kept (· = R) W1 W2 := ((Kept.refl noX W1).drewN nq).any.trans hk2
 have hs2 := hk2'.size
 have HB2 := aP (HB1.out.kept hk2' kom)
 have HK2 := aP (HK1.out.trans hk2')
 clear c0 c1 hk2 hk2' HR1 HB1 HK1
 go_wp2_with fail
 obtain ⟨W3, hW3⟩ : ∃ W3, W3 = W2.alloc (.cells #[.int .i64 2, .int .i64 0, .string nm, .int .i64 0, .bool false, .int .i64 0, .slice none 0 0] 44) := ⟨_, rfl⟩
 have hk3 : Kept noX W2 W3 := by rw [hW3]; exact (Kept.refl _ _).alloc _
 have HB3 := aP (show Cells W3 W2.heap.size 44 [.int .i64 2, .int .i64 0, .string nm, .int .i64 0, .bool false, .int .i64 0, .slice none 0 0] from by rw [hW3]; exact Cells.fresh W2 44 _)
 rw [← hW3]
 clear hW3
 have hs3 := hk3.size
 have HR3 := aP (hr2.keep hk3)
 have HB3' := aP (HB2.out.keep hk3)
 have HK3 := aP (HK2.out.trans hk3.any)
 have hl3 := HB3.out.lt
 obtain ⟨E, hE⟩ : ∃ E, E = W2.heap.size := ⟨_, rfl⟩
 rw [← hE] at HB3 hl3 ⊢
 have hER : E ≠ R := by omega
 have hEw : w.heap.size < E := by omega
 clear hr2 hk3 HB2 HK2 hE
 refine (HT2.out _ HR3.out).mono ?_
 rintro e W4 ⟨rfl, hr4, hk4⟩
 have hs4 := hk4.size
 have HE4 := aP (HB3.out.kept hk4 kom)
 have HB4 := aP (HB3'.out.kept hk4 kom)
 have HK4 := aP (HK3.out.trans hk4)
 have HR4 := aP hr4
 clear hr4 hk4 HB3 HB3' HK3 HR3
 go_wp2_with (first
   | ((with_reducible refine atl ?_); (refine wpList_load_cells rfl 44 (.tmp 4) rfl (E) rfl _ Tryz.underlying44 rfl HE4.out krf ?_))
   | ((with_reducible refine ats ?_); (refine wpList_store_all rfl rfl 44 (.tmp 2) (.tmp 51) rfl (w.heap.size) rfl [.int .i64 2, .int .i64 0, .string nm, .int .i64 0, .bool false, .int .i64 0, .slice none 0 0] rfl HB4.out (by rfl) krf k1c ?_; intro W9 hB9 hk9; have HB9 := aP hB9; clear hB9)))
 have hR9 := HR4.out.other hk9 kom (fun g hg => by have := HVB.out g hg; omega)
 refine ret_box Tryz.results197 rfl HB9.out Tryz.underlying44 rfl krf rfl (Reads.fin rfl ?_ hR9 (HK4.out.join hk9 (fun i hi hlt2 => by have hi : i = w.heap.size := hi; omega)))
 exact EV.leaf _ _ 2 0 nm 0
theorem prim_cell_lt {n : Nat} {T : Nat → TokD} {f : Nat} (hx : ExprC n T f) (R : Nat) (v : Value) (k : Nat) (bad : Bool) (w : World) (h : R2 w R v n T k bad) (hlt : k < n) (hkd : ((T k).kind == 2) = false) (h1 : isP n T k bad ⟨#[40]⟩ = false)
  (h3 : isP n T (kindStep n T k bad 1) (kindBad n T k bad 1) ⟨#[91]⟩ = true) (hf : (n - kindStep n T k bad 1) * 10 ≤ f) : Calls Tryz.prog 197 #[.pointer (some ⟨R, 0, none⟩)] w (Reads w R v n T (cellE (nameOf n T k bad) (exprP n T f 1 (kindStep n T k bad 1 + 1) (kindBad n T k bad 1)).1, mustK n T (exprP n T f 1 (kindStep n T k bad 1 + 1) (kindBad n T k bad 1)).2.1 (exprP n T f 1 (kindStep n T k bad 1 + 1) (kindBad n T k bad 1)).2.2 ⟨#[93]⟩)) := by
 have hfew := h.few
 have hRw := h.is.lt
 have hkA : Kept noX w (w.alloc (.cells zeroE.toArray 44)) := (Kept.refl _ _).alloc _
 have hvB : ∀ g, v.ownBlock = some g → g < w.heap.size := fun g hg => by
  obtain ⟨xs, ho, _⟩ := h.row
  exact (ho.lt g hg).2
 have HVB := aP hvB
 have HB := aP (Cells.fresh w 44 zeroE)
 have HT := aP (rdtake_any R v n T k bad ⟨#[40]⟩ _ (h.keep hkA))
 have hst : stepP n T k bad ⟨#[40]⟩ = k := by simp [stepP, h1]
 rw [h1, hst] at HT
 have HN := aP (fun W (hr : R2 W R v n T k bad) => rdname_any R v n T k bad W hr)
 have HT2 := aP (fun W (hr : R2 W R v n T (kindStep n T k bad 1) (kindBad n T k bad 1)) => rdtake_any R v n T _ _ ⟨#[91]⟩ W hr)
 have hst2 : stepP n T (kindStep n T k bad 1) (kindBad n T k bad 1) ⟨#[91]⟩ = kindStep n T k bad 1 + 1 := by simp [stepP, h3]
 rw [h3, hst2] at HT2
 have hk1n := (isP_lt h3).1
 have HX := aP (fun W (hr : R2 W R v n T (kindStep n T k bad 1 + 1) (kindBad n T k bad 1)) => hx R v 1 (kindStep n T k bad 1 + 1) (kindBad n T k bad 1) W hr kom kom kom kom)
 clear hx hf hk1n
 have hszA : (w.alloc (.cells zeroE.toArray 44)).heap.size = w.heap.size + 1 := by simp
 have HKA := aP hkA
 clear hst hst2 h1 h3 hkA hvB
 have hd : decide ((k : Int) < (n : Int)) = true := by simpa using hlt
 generalize kindStep n T k bad 1 = K1 at HN HT2 HX ⊢
 generalize kindBad n T k bad 1 = B1 at HN HT2 HX ⊢
 generalize nameOf n T k bad = nm at HN ⊢
 generalize exprP n T f 1 (K1 + 1) B1 = rx at HX ⊢
 obtain ⟨ex, kx, bx⟩ := rx
 have HM := aP (fun W (hr : R2 W R v n T kx bx) => rdmust_any R v n T kx bx ⟨#[93]⟩ W hr)
 dsimp only at HX ⊢
 go_enter Tryz.func197, Tryz.ntmps197
 go_wp2_with fail
 refine HT.out.mono ?_
 rintro e W1 ⟨rfl, hr1, hk1⟩
 have hs1 := hk1.size
 rw [hszA] at hs1
 have hB1 := HB.out.kept hk1 kom
 have HK1 := aP (HKA.out.any.trans hk1)
 obtain ⟨A, c, rfl, hc, hm⟩ := hr1.row.form
 obtain ⟨g, c', hv, _, hcell⟩ := hr1.row.at_ hlt
 injection hv with hA' _ hcc
 subst hA'
 subst hcc
 have a0 := hcell 0 kom
 have c0 := hr1.is.cell 0; have c1 := hr1.is.cell 1
 simp only [TokD.cells, aZ, aS, Nat.add_zero] at a0 c0 c1
 clear hcell
 have HR1 := aP (fun nq : Nat => hr1.keep ((Kept.refl noX W1).drewN nq))
 have HB1 := aP hB1
 clear hr1 hk1 hB1 HT HB HKA
 go_wp2_with fail
 go_quiet (fail)
 go_wp2_with fail
 refine (HN.out _ (HR1.out nq)).mono ?_
 rintro e W2 ⟨rfl, hr2, hk2⟩
 have hk2' : Kept (· = R) W1 W2 := ((Kept.refl noX W1).drewN nq).any.trans hk2
 have hs2 := hk2'.size
 have HB2 := aP (HB1.out.kept hk2' kom)
 have HK2 := aP (HK1.out.trans hk2')
 clear c0 c1 a0 hk2 hk2' HR1 HB1 HK1
 go_wp2_with fail
 obtain ⟨W3, hW3⟩ : ∃ W3, W3 = W2.alloc (.cells #[.int .i64 2, .int .i64 0, .string nm, .int .i64 0, .bool false, .int .i64 0, .slice none 0 0] 44) := ⟨_, rfl⟩
 have hk3 : Kept noX W2 W3 := by rw [hW3]; exact (Kept.refl _ _).alloc _
 have HB3 := aP (show Cells W3 W2.heap.size 44 [.int .i64 2, .int .i64 0, .string nm, .int .i64 0, .bool false, .int .i64 0, .slice none 0 0] from by rw [hW3]; exact Cells.fresh W2 44 _)
 rw [← hW3]
 clear hW3
 have hs3 := hk3.size
 have HR3 := aP (hr2.keep hk3)
 have HB3' := aP (HB2.out.keep hk3)
 have HK3 := aP (HK2.out.trans hk3.any)
 have hl3 := HB3.out.lt
 obtain ⟨E, hE⟩ : ∃ E, E = W2.heap.size := ⟨_, rfl⟩
 rw [← hE] at HB3 hl3 ⊢
 have hER : E ≠ R := by omega
 have hEw : w.heap.size < E := by omega
 clear hr2 hk3 HB2 HK2 hE
 refine (HT2.out _ HR3.out).mono ?_
 rintro e W4 ⟨rfl, hr4, hk4⟩
 have hs4 := hk4.size
 have HE4 := aP (HB3.out.kept hk4 kom)
 have HB4 := aP (HB3'.out.kept hk4 kom)
 have HK4 := aP (HK3.out.trans hk4)
 have HR4 := aP hr4
 clear hr4 hk4 HB3 HB3' HK3 HR3
 have d0 := HE4.out.cell 0; have f0 := HE4.out.free 0
 simp only [aZ] at d0
 go_wp2_with fail
 have hk5 : Kept (· = E) W4 (W4.setCell ⟨E, 0, none⟩ (.int .i64 3)) := (Kept.refl _ _).setCell (fun _ => by rfl) _
 have hE5 := HE4.out.put 0 (.int .i64 3)
 simp only [List.set_cons_zero] at hE5
 have hB5 := HB4.out.kept hk5 kom
 have hR5 := HR4.out.other hk5 kom (fun g hg => by have := HVB.out g hg; omega)
 have hK5 := HK4.out.join hk5 (fun i hi hlt2 => by have hi : i = E := hi; omega)
 have hs5 := hk5.size
 clear d0 f0 hk5 HE4 HB4 HR4 HK4
 generalize W4.setCell ⟨E, 0, none⟩ (.int .i64 3) = Wa at hE5 hB5 hR5 hK5 hs5 ⊢
 refine (HX.out _ hR5).mono ?_
 rintro e W5 ⟨cs, rfl, hev, hr6, hk6⟩
 obtain ⟨kk, mm, ss, sl, lo, oo, A1, N1, C1, rfl⟩ := hev.form
 have hs6 := hk6.size
 have hka : Kept noX W5 (W5.alloc (.cells #[.int .i64 kk, .int .i64 mm, .string ss, .int .i64 sl, .bool lo, .int .i64 oo, .slice A1 N1 C1] 44)) := (Kept.refl _ _).alloc _
 have hevm : EV W5 (fun g => g < E + 1) _ ex := hev.mono (Z' := fun g => g < E + 1) (fun g _ h => by have h : g < E + 1 := h; show g < Wa.heap.size; omega)
 have hev1 := EV.one hevm (by show ¬ W5.heap.size < E + 1; omega) 3 0 nm 0 44
 have HE6 := aP ((hE5.kept hk6 kom).keep hka)
 have HB6 := aP ((hB5.kept hk6 kom).keep hka)
 have HR6 := aP (hr6.keep hka)
 have HK6 := aP ((hK5.trans hk6).trans hka.any)
 have HEV := aP hev1
 clear hev hevm hev1 hr6 hk6 hE5 hB5 hR5 hK5 hka HX
 have d6 := HE6.out.cell 6; have f6 := HE6.out.free 6
 simp only [aZ, aS] at d6
 go_wp2_with fail
 obtain ⟨Wb, hWb⟩ : ∃ Wb, Wb = W5.alloc (.cells #[.int .i64 kk, .int .i64 mm, .string ss, .int .i64 sl, .bool lo, .int .i64 oo, .slice A1 N1 C1] 44) := ⟨_, rfl⟩
 have hsb : Wb.heap.size = W5.heap.size + 1 := by rw [hWb]; simp
 rw [← hWb] at HE6 HB6 HR6 HK6 HEV ⊢
 clear d6 f6 hWb
 obtain ⟨Y, hY⟩ : ∃ Y, Y = W5.heap.size := ⟨_, rfl⟩
 rw [← hY] at HEV hsb ⊢
 have hYE : E < Y := by omega
 have hk7 : Kept (· = E) Wb (Wb.setCell ⟨E, 6, none⟩ (.slice (some ⟨Y, 0, none⟩) 1 1)) := (Kept.refl _ _).setCell (fun _ => by rfl) _
 have hE7 := HE6.out.put 6 (.slice (some ⟨Y, 0, none⟩) 1 1)
 simp only [List.set_cons_zero, List.set_cons_succ] at hE7
 have hB7 := HB6.out.kept hk7 kom
 have hR7 := HR6.out.other hk7 kom (fun g hg => by have := HVB.out g hg; omega)
 have hK7 := HK6.out.join hk7 (fun i hi hlt2 => by have hi : i = E := hi; omega)
 have hEV7 := HEV.out.kept hk7 (fun g _ h => by have h : g = E := h; show g < E + 1; omega)
 have hs7 := hk7.size
 clear hk7 HE6 HB6 HR6 HK6 HEV hY hs5 hs6
 generalize Wb.setCell ⟨E, 6, none⟩ (.slice (some ⟨Y, 0, none⟩) 1 1) = Wc at hE7 hB7 hR7 hK7 hEV7 hs7 ⊢
 refine (HM.out _ hR7).mono ?_
 rintro e W8 ⟨rfl, hr8, hk8⟩
 have hs8 := hk8.size
 have HE8 := aP (hE7.kept hk8 kom)
 have HB8 := aP (hB7.kept hk8 kom)
 have HK8 := aP (hK7.trans hk8)
 have HR8 := aP hr8
 have HEV8 := aP (hEV7.kept hk8 (fun g _ h => by have h : g = R := h; show g < E + 1; omega))
 clear hr8 hk8 hE7 hB7 hR7 hK7 hEV7 HM
 go_wp2_with (first
   | ((with_reducible refine atl ?_); (refine wpList_load_cells rfl 44 (.tmp 4) rfl (E) rfl _ Tryz.underlying44 rfl HE8.out krf ?_))
   | ((with_reducible refine ats ?_); (refine wpList_store_all rfl rfl 44 (.tmp 2) (.tmp 51) rfl (w.heap.size) rfl [.int .i64 3, .int .i64 0, .string nm, .int .i64 0, .bool false, .int .i64 0, .slice (some ⟨Y, 0, none⟩) 1 1] rfl HB8.out (by rfl) krf k1c ?_; intro W9 hB9 hk9; have HB9 := aP hB9; clear hB9)))
 have hR9 := HR8.out.other hk9 kom (fun g hg => by have := HVB.out g hg; omega)
 refine ret_box Tryz.results197 rfl HB9.out Tryz.underlying44 rfl krf rfl (Reads.fin rfl ?_ hR9 (HK8.out.join hk9 (fun i hi hlt2 => by have hi : i = w.heap.size := hi; omega)))
 exact (HEV8.out.kept hk9 (fun g _ h => by have h : g = w.heap.size := h; show g < E + 1; omega)).mono (fun g _ h => by have h : g < w.heap.size := h; show g < E + 1; omega)
theorem prim_cell_end {n : Nat} {T : Nat → TokD} {f : Nat} (hx : ExprC n T f) (R : Nat) (v : Value) (k : Nat) (bad : Bool) (w : World) (h : R2 w R v n T k bad) (hge : n ≤ k) (h1 : isP n T k bad ⟨#[40]⟩ = false)
  (h3 : isP n T (kindStep n T k bad 1) (kindBad n T k bad 1) ⟨#[91]⟩ = true) (hf : (n - kindStep n T k bad 1) * 10 ≤ f) : Calls Tryz.prog 197 #[.pointer (some ⟨R, 0, none⟩)] w (Reads w R v n T (cellE (nameOf n T k bad) (exprP n T f 1 (kindStep n T k bad 1 + 1) (kindBad n T k bad 1)).1, mustK n T (exprP n T f 1 (kindStep n T k bad 1 + 1) (kindBad n T k bad 1)).2.1 (exprP n T f 1 (kindStep n T k bad 1 + 1) (kindBad n T k bad 1)).2.2 ⟨#[93]⟩)) := by
 have hfew := h.few
 have hRw := h.is.lt
 have hkA : Kept noX w (w.alloc (.cells zeroE.toArray 44)) := (Kept.refl _ _).alloc _
 have hvB : ∀ g, v.ownBlock = some g → g < w.heap.size := fun g hg => by
  obtain ⟨xs, ho, _⟩ := h.row
  exact (ho.lt g hg).2
 have HVB := aP hvB
 have HB := aP (Cells.fresh w 44 zeroE)
 have HT := aP (rdtake_any R v n T k bad ⟨#[40]⟩ _ (h.keep hkA))
 have hst : stepP n T k bad ⟨#[40]⟩ = k := by simp [stepP, h1]
 rw [h1, hst] at HT
 have HN := aP (fun W (hr : R2 W R v n T k bad) => rdname_any R v n T k bad W hr)
 have HT2 := aP (fun W (hr : R2 W R v n T (kindStep n T k bad 1) (kindBad n T k bad 1)) => rdtake_any R v n T _ _ ⟨#[91]⟩ W hr)
 have hst2 : stepP n T (kindStep n T k bad 1) (kindBad n T k bad 1) ⟨#[91]⟩ = kindStep n T k bad 1 + 1 := by simp [stepP, h3]
 rw [h3, hst2] at HT2
 have hk1n := (isP_lt h3).1
 have HX := aP (fun W (hr : R2 W R v n T (kindStep n T k bad 1 + 1) (kindBad n T k bad 1)) => hx R v 1 (kindStep n T k bad 1 + 1) (kindBad n T k bad 1) W hr kom kom kom kom)
 clear hx hf hk1n
 have hszA : (w.alloc (.cells zeroE.toArray 44)).heap.size = w.heap.size + 1 := by simp
 have HKA := aP hkA
 clear hst hst2 h1 h3 hkA hvB
 have hd : decide ((k : Int) < (n : Int)) = false := by simp; omega
 have hdn : decide (k < n) = false := by simp; omega
 clear hge
 generalize kindStep n T k bad 1 = K1 at HN HT2 HX ⊢
 generalize kindBad n T k bad 1 = B1 at HN HT2 HX ⊢
 generalize nameOf n T k bad = nm at HN ⊢
 generalize exprP n T f 1 (K1 + 1) B1 = rx at HX ⊢
 obtain ⟨ex, kx, bx⟩ := rx
 have HM := aP (fun W (hr : R2 W R v n T kx bx) => rdmust_any R v n T kx bx ⟨#[93]⟩ W hr)
 dsimp only at HX ⊢
 go_enter Tryz.func197, Tryz.ntmps197
 go_wp2_with fail
 refine HT.out.mono ?_
 rintro e W1 ⟨rfl, hr1, hk1⟩
 have hs1 := hk1.size
 rw [hszA] at hs1
 have hB1 := HB.out.kept hk1 kom
 have HK1 := aP (HKA.out.any.trans hk1)
 obtain ⟨A, c, rfl, hc, hm⟩ := hr1.row.form
 have c0 := hr1.is.cell 0; have c1 := hr1.is.cell 1
 simp only [aZ, aS] at c0 c1
 have HR1 := aP (fun nq : Nat => hr1.keep ((Kept.refl noX W1).drewN nq))
 have HB1 := aP hB1
 clear hr1 hk1 hB1 HT HB HKA
 go_wp2_with fail
 go_quiet (fail)
 go_wp2_with fail
 refine (HN.out _ (HR1.out nq)).mono ?_
 rintro e W2 ⟨rfl, hr2, hk2⟩
 have hk2' : Kept (· = R) W1 W2 := ((Kept.refl noX W1).drewN nq).any.trans hk2
 have hs2 := hk2'.size
 have HB2 := aP (HB1.out.kept hk2' kom)
 have HK2 := aP (HK1.out.trans hk2')
 clear c0 c1 hk2 hk2' HR1 HB1 HK1
 go_wp2_with fail
 obtain ⟨W3, hW3⟩ : ∃ W3, W3 = W2.alloc (.cells #[.int .i64 2, .int .i64 0, .string nm, .int .i64 0, .bool false, .int .i64 0, .slice none 0 0] 44) := ⟨_, rfl⟩
 have hk3 : Kept noX W2 W3 := by rw [hW3]; exact (Kept.refl _ _).alloc _
 have HB3 := aP (show Cells W3 W2.heap.size 44 [.int .i64 2, .int .i64 0, .string nm, .int .i64 0, .bool false, .int .i64 0, .slice none 0 0] from by rw [hW3]; exact Cells.fresh W2 44 _)
 rw [← hW3]
 clear hW3
 have hs3 := hk3.size
 have HR3 := aP (hr2.keep hk3)
 have HB3' := aP (HB2.out.keep hk3)
 have HK3 := aP (HK2.out.trans hk3.any)
 have hl3 := HB3.out.lt
 obtain ⟨E, hE⟩ : ∃ E, E = W2.heap.size := ⟨_, rfl⟩
 rw [← hE] at HB3 hl3 ⊢
 have hER : E ≠ R := by omega
 have hEw : w.heap.size < E := by omega
 clear hr2 hk3 HB2 HK2 hE
 refine (HT2.out _ HR3.out).mono ?_
 rintro e W4 ⟨rfl, hr4, hk4⟩
 have hs4 := hk4.size
 have HE4 := aP (HB3.out.kept hk4 kom)
 have HB4 := aP (HB3'.out.kept hk4 kom)
 have HK4 := aP (HK3.out.trans hk4)
 have HR4 := aP hr4
 clear hr4 hk4 HB3 HB3' HK3 HR3
 have d0 := HE4.out.cell 0; have f0 := HE4.out.free 0
 simp only [aZ] at d0
 go_wp2_with fail
 have hk5 : Kept (· = E) W4 (W4.setCell ⟨E, 0, none⟩ (.int .i64 3)) := (Kept.refl _ _).setCell (fun _ => by rfl) _
 have hE5 := HE4.out.put 0 (.int .i64 3)
 simp only [List.set_cons_zero] at hE5
 have hB5 := HB4.out.kept hk5 kom
 have hR5 := HR4.out.other hk5 kom (fun g hg => by have := HVB.out g hg; omega)
 have hK5 := HK4.out.join hk5 (fun i hi hlt2 => by have hi : i = E := hi; omega)
 have hs5 := hk5.size
 clear d0 f0 hk5 HE4 HB4 HR4 HK4
 generalize W4.setCell ⟨E, 0, none⟩ (.int .i64 3) = Wa at hE5 hB5 hR5 hK5 hs5 ⊢
 refine (HX.out _ hR5).mono ?_
 rintro e W5 ⟨cs, rfl, hev, hr6, hk6⟩
 obtain ⟨kk, mm, ss, sl, lo, oo, A1, N1, C1, rfl⟩ := hev.form
 have hs6 := hk6.size
 have hka : Kept noX W5 (W5.alloc (.cells #[.int .i64 kk, .int .i64 mm, .string ss, .int .i64 sl, .bool lo, .int .i64 oo, .slice A1 N1 C1] 44)) := (Kept.refl _ _).alloc _
 have hevm : EV W5 (fun g => g < E + 1) _ ex := hev.mono (Z' := fun g => g < E + 1) (fun g _ h => by have h : g < E + 1 := h; show g < Wa.heap.size; omega)
 have hev1 := EV.one hevm (by show ¬ W5.heap.size < E + 1; omega) 3 0 nm 0 44
 have HE6 := aP ((hE5.kept hk6 kom).keep hka)
 have HB6 := aP ((hB5.kept hk6 kom).keep hka)
 have HR6 := aP (hr6.keep hka)
 have HK6 := aP ((hK5.trans hk6).trans hka.any)
 have HEV := aP hev1
 clear hev hevm hev1 hr6 hk6 hE5 hB5 hR5 hK5 hka HX
 have d6 := HE6.out.cell 6; have f6 := HE6.out.free 6
 simp only [aZ, aS] at d6
 go_wp2_with fail
 obtain ⟨Wb, hWb⟩ : ∃ Wb, Wb = W5.alloc (.cells #[.int .i64 kk, .int .i64 mm, .string ss, .int .i64 sl, .bool lo, .int .i64 oo, .slice A1 N1 C1] 44) := ⟨_, rfl⟩
 have hsb : Wb.heap.size = W5.heap.size + 1 := by rw [hWb]; simp
 rw [← hWb] at HE6 HB6 HR6 HK6 HEV ⊢
 clear d6 f6 hWb
 obtain ⟨Y, hY⟩ : ∃ Y, Y = W5.heap.size := ⟨_, rfl⟩
 rw [← hY] at HEV hsb ⊢
 have hYE : E < Y := by omega
 have hk7 : Kept (· = E) Wb (Wb.setCell ⟨E, 6, none⟩ (.slice (some ⟨Y, 0, none⟩) 1 1)) := (Kept.refl _ _).setCell (fun _ => by rfl) _
 have hE7 := HE6.out.put 6 (.slice (some ⟨Y, 0, none⟩) 1 1)
 simp only [List.set_cons_zero, List.set_cons_succ] at hE7
 have hB7 := HB6.out.kept hk7 kom
 have hR7 := HR6.out.other hk7 kom (fun g hg => by have := HVB.out g hg; omega)
 have hK7 := HK6.out.join hk7 (fun i hi hlt2 => by have hi : i = E := hi; omega)
 have hEV7 := HEV.out.kept hk7 (fun g _ h => by have h : g = E := h; show g < E + 1; omega)
 have hs7 := hk7.size
 clear hk7 HE6 HB6 HR6 HK6 HEV hY hs5 hs6
 generalize Wb.setCell ⟨E, 6, none⟩ (.slice (some ⟨Y, 0, none⟩) 1 1) = Wc at hE7 hB7 hR7 hK7 hEV7 hs7 ⊢
 refine (HM.out _ hR7).mono ?_
 rintro e W8 ⟨rfl, hr8, hk8⟩
 have hs8 := hk8.size
 have HE8 := aP (hE7.kept hk8 kom)
 have HB8 := aP (hB7.kept hk8 kom)
 have HK8 := aP (hK7.trans hk8)
 have HR8 := aP hr8
 have HEV8 := aP (hEV7.kept hk8 (fun g _ h => by have h : g = R := h; show g < E + 1; omega))
 clear hr8 hk8 hE7 hB7 hR7 hK7 hEV7 HM
 go_wp2_with (first
   | ((with_reducible refine atl ?_); (refine wpList_load_cells rfl 44 (.tmp 4) rfl (E) rfl _ Tryz.underlying44 rfl HE8.out krf ?_))
   | ((with_reducible refine ats ?_); (refine wpList_store_all rfl rfl 44 (.tmp 2) (.tmp 51) rfl (w.heap.size) rfl [.int .i64 3, .int .i64 0, .string nm, .int .i64 0, .bool false, .int .i64 0, .slice (some ⟨Y, 0, none⟩) 1 1] rfl HB8.out (by rfl) krf k1c ?_; intro W9 hB9 hk9; have HB9 := aP hB9; clear hB9)))
 have hR9 := HR8.out.other hk9 kom (fun g hg => by have := HVB.out g hg; omega)
 refine ret_box Tryz.results197 rfl HB9.out Tryz.underlying44 rfl krf rfl (Reads.fin rfl ?_ hR9 (HK8.out.join hk9 (fun i hi hlt2 => by have hi : i = w.heap.size := hi; omega)))
 exact (HEV8.out.kept hk9 (fun g _ h => by have h : g = w.heap.size := h; show g < E + 1; omega)).mono (fun g _ h => by have h : g < w.heap.size := h; show g < E + 1; omega)
end Go.Proofs.YtjkgepppoopheaaGreatDoor
