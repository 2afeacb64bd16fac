/- How deep what the document reads can be: no deeper than its words (conditions: none). -/
import Derived.Test.YtjkgepppoopheaaGreatDoorAbb
import Derived.Test.YtjkgepppoopheaaGreatDoorQ23
import Derived.Test.YtjkgepppoopheaaGreatDoorQ5
import Derived.Test.YtjkgepppoopheaaGreatDoorQ30
set_option maxRecDepth 100000
set_option maxHeartbeats 1000000
namespace Go.Proofs.YtjkgepppoopheaaGreatDoor
open Go.RowKit Go.Shelf
mutual
def depE : ET → Nat
 | .node _ _ _ _ _ _ l => depL l + 1
def depL : List ET → Nat
 | [] => 0
 | e :: l => max (depE e) (depL l)
end
theorem depL_append (l m : List ET) : depL (l ++ m) = max (depL l) (depL m) := by
 induction l with
 | nil => simp [depL]
 | cons e l ih => rw [List.cons_append, depL, depL, ih]; omega
theorem depL_mem {l : List ET} {e : ET} (h : e ∈ l) : depE e ≤ depL l := by
 induction l with
 | nil => cases h
 | cons x l ih =>
  rw [depL]
  rcases List.mem_cons.1 h with rfl | h
  ·omega
  ·have := ih h; omega
theorem depL_take {l : List ET} {k : Nat} (hk : k < l.length) : depL (l.take (k + 1)) = max (depL (l.take k)) (depE l[k]) := by
 rw [List.take_succ_eq_append_getElem hk, depL_append, depL, depL]; omega
theorem deepE_iff : ∀ (d : Nat) (e : ET), deepE d e = decide (d < depE e) := by
 intro d
 induction d with
 | zero =>
  intro e
  cases e
  rw [deepE, depE]
  simp
 | succ d ih =>
  intro e
  obtain ⟨q, m, s, sl, lo, o, l⟩ := e
  rw [deepE, depE]
  have key : l.any (deepE d) = decide (d < depL l) := by
   clear q m s sl lo o
   induction l with
   | nil => simp [depL]
   | cons x l ihl =>
    rw [List.any_cons, ihl, ih, depL, Bool.eq_iff_iff]
    simp only [Bool.or_eq_true, decide_eq_true_eq]
    omega
  rw [key]
  simp
theorem rdepth_any : ∀ (z : Nat) (e : ET), depE e ≤ z → z ≤ 1000000000 → ∀ (cs : List Value) (w : World), EV w noX cs e → Calls Tryz.prog 89 #[.agg cs.toArray] w fun r w' => r = .returned (.int .i64 (depE e : Nat)) ∧ Kept noX w w' := by
 intro z
 induction z with
 | zero => intro e hz; cases e; rw [depE] at hz; omega
 | succ z ih =>
  intro e hz hz9 cs w h
  obtain ⟨q, m, s, sl, lo, o, l⟩ := e
  rw [depE] at hz ⊢
  obtain ⟨v, rfl, hv⟩ := EV.iff.1 h
  obtain ⟨A, n, c, rfl, hn, hnc, hcm⟩ := hv.form
  rw [ET.ds_length] at hn
  subst hn
  unfold maxLen at hcm
  have HZ := aP (fun (x : ET) (hx : x ∈ l) => (show depE x ≤ z from by have := depL_mem hx; omega))
  have HV := aP hv
  have HIH := aP ih
  have hL9 : depL l ≤ 1000000000 := by omega
  clear h hv ih hz
  obtain ⟨w0, hw0⟩ : ∃ w0, w0 = w.alloc (.cells #[.int .i64 q, .int .i64 m, .string s, .int .i64 sl, .bool lo, .int .i64 o, .slice A l.length c] 44) := ⟨_, rfl⟩
  have hkw : Kept noX w w0 := by rw [hw0]; exact (Kept.refl _ _).alloc _
  have HB := aP (show Cells w0 w.heap.size 44 [.int .i64 q, .int .i64 m, .string s, .int .i64 sl, .bool lo, .int .i64 o, .slice A l.length c] from by rw [hw0]; exact Cells.fresh w 44 _)
  go_enter Tryz.func89, Tryz.ntmps89
  go_wp2_with fail
  rw [← hw0]
  clear hw0
  go_loopw [4, 3] (fun i b wr => ∃ k : Nat, k ≤ l.length ∧ i = .int .i64 k ∧ b = .int .i64 (depL (l.take k) : Nat) ∧ Kept noX w0 wr) (fun i _ _ => l.length - (intOf i).toNat)
  case atStart => exact ⟨0, Nat.zero_le _, rfl, rfl, Kept.refl _ _⟩
  case round =>
   obtain ⟨k, hk, rfl, rfl, hkr⟩ := hrel
   have hb := HB.out.keep hkr
   have e6 := hb.cell 6
   simp only [aZ, aS] at e6
   clear hb
   by_cases hlt : k < l.length
   ·have hdl : decide ((k : Int) < (l.length : Int)) = true := by simpa using hlt
    have hvr := HV.out.keep (hkw.trans hkr)
    obtain ⟨g, o', c2, size, cs, hveq, hcl, hrep, hcell⟩ := hvr.at_ (i := k) (by simpa using hlt)
    rw [ET.ds_get] at hrep
    have hev : EV wr noX cs l[k] := hrep
    have hlen := hev.len
    rw [hlen] at hcl
    subst hcl
    injection hveq with hA hlen2 hc2
    subst hA hc2
    clear hlen2
    have hcr : ∀ j u, cs[j]? = some u → wr.cell? ⟨g, (o' + k * 7) + j, none⟩ = some u := fun j u hu => by
     have hj : j < 7 := by rw [← hlen]; exact (List.getElem?_eq_some_iff.1 hu).1
     rw [Nat.add_assoc, hcell j hj, hu]
    have HCR := aP hcr
    have HL := aP hlen
    have HEV := aP hev
    have HTK := aP (depL_take hlt)
    clear hcell hcr hlen hrep hev hvr
    go_wp2_with (first
      | ((with_reducible refine atl ?_); refine wpList_load_part rfl 44 (.tmp 16) rfl g (o' + k * 7) rfl _ Tryz.underlying44 rfl cs (by rw [HL.out]; kernel_rfl) HCR.out ?_))
    refine (HIH.out l[k] (HZ.out _ (List.getElem_mem hlt)) kom cs _ HEV.out).mono ?_
    rintro e W10 ⟨rfl, hk10⟩
    go_wp2
    go_roundw
    case rel => exact ⟨k + 1, by omega, by go_num, by rw [HTK.out]; congr 1; first | (split <;> omega) | omega | (rw [Int.natCast_max]), hkr.trans hk10⟩
    case measure => simp [intOf]; omega
   ·have hdl : decide ((k : Int) < (l.length : Int)) = false := by simpa using hlt
    have hk2 : k = l.length := by omega
    have hT : l.take k = l := by rw [hk2, List.take_length]
    rw [hT]
    have hw9 : wrap64 ((depL l : Nat) + 1 : Int) = ((depL l + 1 : Nat) : Int) := by unfold wrap64; omega
    clear hk2 hT
    go_wp2
    go_ret
    exact ⟨by first | rfl | (rw [hw9] <;> rfl), hkw.trans hkr⟩
def shal (M : Nat) (l : List (Nat × ST)) : Prop := ∀ p ∈ l, depE p.2.expr ≤ M ∧ depE p.2.index ≤ M
theorem shal_append {M : Nat} {l m : List (Nat × ST)} : shal M (l ++ m) ↔ shal M l ∧ shal M m := by
 unfold shal
 constructor
 ·intro h; exact ⟨fun p hp => h p (List.mem_append_left _ hp), fun p hp => h p (List.mem_append_right _ hp)⟩
 ·rintro ⟨h1, h2⟩ p hp
  rcases List.mem_append.1 hp with hp | hp
  ·exact h1 p hp
  ·exact h2 p hp
theorem firstBad_append (l m : List (Nat × ST)) : firstBad (l ++ m) = (firstBad l).or (firstBad m) := by
 unfold firstBad
 rw [List.find?_append]
 cases l.find? badS <;> simp
theorem firstBad_cons (p : Nat × ST) (l : List (Nat × ST)) : firstBad (p :: l) = if badS p then some (p.2.line, p.2.col) else firstBad l := by
 unfold firstBad
 rw [List.find?_cons]
 split <;> simp_all
theorem badS_is (d : Nat) (s : ST) : badS (d, s) = (decide (24 < d) || decide (24 < depE s.expr) || decide (24 < depE s.index)) := by
 unfold badS
 rw [deepE_iff, deepE_iff]
theorem seqL_split {d : Nat} {l : List ST} {k : Nat} (hk : k < l.length) : firstBad (seqL d l) = (firstBad (seqL d (l.take k))).or ((if badS (d, l[k]) then some (l[k].line, l[k].col) else (firstBad (seqL (d + 1) l[k].body)).or (firstBad (seqL (d + 1) l[k].els))).or (firstBad (seqL d (l.drop (k + 1))))) := by
 have h := seqL_append d (l.take (k + 1)) (l.drop (k + 1))
 rw [List.take_append_drop, seqL_take hk] at h
 rw [h, firstBad_append, firstBad_append, firstBad_cons, firstBad_append]
 cases firstBad (seqL d (l.take k)) <;> simp
def DeepV (p : Option (Int × Int)) : Value := .tuple #[.agg #[.int .i64 (p.getD (0, 0)).1, .int .i64 (p.getD (0, 0)).2], .bool p.isSome]
theorem rDeep_any (M : Nat) (hM : M ≤ 1000000000) : ∀ (z : Nat) (l : List ST), szL l ≤ z → ∀ (d : Nat), d + z ≤ 1000000000 → shal M (seqL d l) → ∀ (v : Value) (w : World), RowV w noX v (ST.ds l) →
  Calls Tryz.prog 43 #[v, .int .i64 (d : Nat)] w fun e w' => e = .returned (DeepV (firstBad (seqL d l))) ∧ Kept noX w w' := by
 intro z
 induction z using Nat.strongRecOn with
 | _ z ih =>
 intro l hz d hd hsh v w hv
 obtain ⟨A, n, c, rfl, hn, hnc, hcm⟩ := hv.form
 rw [ST.ds_length] at hn
 subst hn
 unfold maxLen at hcm
 have HV := aP hv
 have HIH := aP (fun (i : Nat) (hi : i < l.length) (x : List ST) (hx : szL x + 1 ≤ ST.sz l[i]) => ih (szL x) (by have := szL_mem (List.getElem_mem hi); omega) x (Nat.le_refl _) (d + 1) (by have := szL_mem (List.getElem_mem hi); omega))
 have HSH := aP (fun (i : Nat) (hi : i < l.length) => (show (depE l[i].expr ≤ M ∧ depE l[i].index ≤ M) ∧ shal M (seqL (d + 1) l[i].body) ∧ shal M (seqL (d + 1) l[i].els) from by
   have h := seqL_append d (l.take (i + 1)) (l.drop (i + 1))
   rw [List.take_append_drop, seqL_take hi] at h
   rw [h, shal_append, shal_append] at hsh
   have h2 := hsh.1.2
   refine ⟨h2 (d, l[i]) (by simp), ?_⟩
   exact shal_append.1 (fun p hp => h2 p (List.mem_cons_of_mem _ hp))))
 have hkA : Kept noX w (w.alloc (.cells #[.int .i64 0, .int .i64 0] 25)) := (Kept.refl _ _).alloc _
 have HB := aP (Cells.fresh w 25 [.int .i64 0, .int .i64 0])
 have hszA : (w.alloc (.cells #[.int .i64 0, .int .i64 0] 25)).heap.size = w.heap.size + 1 := by simp
 have hd9 : d ≤ 1000000000 := by omega
 clear hv ih hsh hz hd
 go_enter Tryz.func43, Tryz.ntmps43
 go_wp2_with fail
 obtain ⟨w0, hw0⟩ : ∃ w0, w0 = w.alloc (.cells #[.int .i64 0, .int .i64 0] 25) := ⟨_, rfl⟩
 rw [← hw0] at HB hszA hkA ⊢
 clear hw0
 go_loopw [6] (fun i wr => ∃ k : Nat, k ≤ l.length ∧ i = .int .i64 k ∧ firstBad (seqL d (l.take k)) = none ∧ Kept noX w0 wr) (fun i _ => l.length - (intOf i).toNat)
 case atStart => exact ⟨0, Nat.zero_le _, rfl, rfl, Kept.refl _ _⟩
 case round =>
  obtain ⟨k, hk, rfl, hf, hkr⟩ := hrel
  have hsr := hkr.size
  have hcB := HB.out.keep hkr
  by_cases hlt : k < l.length
  ·have hdl : decide ((k : Int) < (l.length : Int)) = true := by simpa using hlt
   have hvr := HV.out.keep (hkA.trans hkr)
   obtain ⟨g, o, c2, size, cs, hveq, hcl, hrep, hcell⟩ := hvr.at_ (i := k) (by simpa using hlt)
   rw [ST.ds_get] at hrep
   have hsv : SV wr noX cs l[k] := hrep
   have hlen := hsv.len
   rw [hlen] at hcl
   subst hcl
   injection hveq with hA hlen2 hc2
   subst hA hc2
   clear hlen2
   have hcr : ∀ j u, cs[j]? = some u → wr.cell? ⟨g, (o + k * 25) + j, none⟩ = some u := fun j u hu => by
    have hj : j < 25 := by rw [← hlen]; exact (List.getElem?_eq_some_iff.1 hu).1
    rw [Nat.add_assoc, hcell j hj, hu]
   have HCR := aP hcr
   have HL := aP hlen
   have HO := aP (Rep.one hsv)
   have hsp := seqL_split (d := d) hlt
   rw [hf] at hsp
   have hbd := badS_is d l[k]
   have hsz := ST.sz_eq l[k]
   have hIb := HIH.out k hlt l[k].body kom
   have hIe := HIH.out k hlt l[k].els kom
   obtain ⟨⟨hde, hdx⟩, hsb, hse⟩ := HSH.out k hlt
   have htk : seqL d (l.take (k + 1)) = seqL d (l.take k) ++ ((d, l[k]) :: (seqL (d + 1) l[k].body ++ seqL (d + 1) l[k].els)) := seqL_take hlt
   have HTK := aP (show firstBad (seqL d (l.take (k + 1))) = if badS (d, l[k]) then some (l[k].line, l[k].col) else (firstBad (seqL (d + 1) l[k].body)).or (firstBad (seqL (d + 1) l[k].els)) from by
     rw [htk, firstBad_append, hf, firstBad_cons, firstBad_append] <;> rfl)
   generalize l[k] = sk at hsv hsp hbd hIb hIe hde hdx hsb hse HTK
   obtain ⟨q, li, co, s, t, e, x, b, el, i0, sl0, ot, lo⟩ := sk
   obtain ⟨ce, cx, vb, vl, rfl, hev, hxv, hbv, hlv⟩ := SV.iff.1 hsv
   obtain ⟨ke, me, se, sle, loe, oe, Ae, Ne, Ce, rfl⟩ := hev.form
   obtain ⟨kx, mx, sx, slx, lox, ox, Ax, Nx, Cx, rfl⟩ := hxv.form
   obtain ⟨Ab, Nb, Cb, rfl, hn1, hn2⟩ := hbv.form
   obtain ⟨Al, Nl, Cl, rfl, hn3, hn4⟩ := hlv.form
   clear hn1 hn2 hn3 hn4
   have hcr2 : ∀ j u, ([.int .i64 q, .int .i64 li, .int .i64 co, .string s, .string t, .int .i64 ke, .int .i64 me, .string se, .int .i64 sle, .bool loe, .int .i64 oe, .slice Ae Ne Ce, .int .i64 kx, .int .i64 mx, .string sx, .int .i64 slx, .bool lox, .int .i64 ox, .slice Ax Nx Cx, .slice Ab Nb Cb, .slice Al Nl Cl, .int .i64 i0, .int .i64 sl0, .int .i64 ot, .bool lo] : List Value)[j]? = some u → wr.cell? ⟨g, (o + k * 25) + j, none⟩ = some u := HCR.out
   have HCR2 := aP hcr2
   have HO2 := aP (show ∀ u ∈ ([.int .i64 q, .int .i64 li, .int .i64 co, .string s, .string t, .int .i64 ke, .int .i64 me, .string se, .int .i64 sle, .bool loe, .int .i64 oe, .slice Ae Ne Ce, .int .i64 kx, .int .i64 mx, .string sx, .int .i64 slx, .bool lox, .int .i64 ox, .slice Ax Nx Cx, .slice Ab Nb Cb, .slice Al Nl Cl, .int .i64 i0, .int .i64 sl0, .int .i64 ot, .bool lo] : List Value), u.oneCell' = true from HO.out)
   have HEV := aP hev; have HXV := aP hxv
   have HBV := aP hbv; have HLV := aP hlv
   have HIB := aP hIb; have HIE := aP hIe
   have HSB := aP hsb; have HSE := aP hse
   have HSP := aP hsp; have HTK2 := aP HTK.out
   have HBD := aP hbd
   have hde : depE e ≤ M := hde
   have hdx : depE x ≤ M := hdx
   clear hsz hf hcr hcr2 hcell hrep hsv hlen hev hxv hbv hlv hIb hIe hsb hse hsp hbd HCR HO HL HTK htk hvr
   have HIB : Hid (shal M (seqL (d + 1) b) → ∀ (v : Value) (w : World), RowV w noX v (ST.ds b) → Calls Tryz.prog 43 #[v, .int .i64 ((d + 1 : Nat) : Int)] w fun e w' => e = .returned (DeepV (firstBad (seqL (d + 1) b))) ∧ Kept noX w w') := HIB
   have HIE : Hid (shal M (seqL (d + 1) el) → ∀ (v : Value) (w : World), RowV w noX v (ST.ds el) → Calls Tryz.prog 43 #[v, .int .i64 ((d + 1 : Nat) : Int)] w fun e w' => e = .returned (DeepV (firstBad (seqL (d + 1) el))) ∧ Kept noX w w') := HIE
   have HSP : Hid (firstBad (seqL d l) = (if badS (d, .node q li co s t e x b el i0 sl0 ot lo) then some (li, co) else (firstBad (seqL (d + 1) b)).or (firstBad (seqL (d + 1) el))).or (firstBad (seqL d (l.drop (k + 1))))) := aP (HSP.out.trans (by rfl))
   have HBD : Hid (badS (d, .node q li co s t e x b el i0 sl0 ot lo) = (decide (24 < d) || decide (24 < depE e) || decide (24 < depE x))) := HBD
   have HTK2 : Hid (firstBad (seqL d (l.take (k + 1))) = if badS (d, .node q li co s t e x b el i0 sl0 ot lo) then some (li, co) else (firstBad (seqL (d + 1) b)).or (firstBad (seqL (d + 1) el))) := HTK2
   have HDE := aP (fun W (hk : Kept noX wr W) => rdepth_any M e hde hM _ W (HEV.out.keep hk))
   have HDX := aP (fun W (hk : Kept noX wr W) => rdepth_any M x hdx hM _ W (HXV.out.keep hk))
   have hde9 : depE e ≤ 1000000000 := by omega
   have hdx9 : depE x ≤ 1000000000 := by omega
   cases hdd : decide (24 < d) with
   | true =>
    have hdi : decide ((24 : Int) < (d : Int)) = true := by simp at hdd ⊢; omega
    have HR := aP (show firstBad (seqL d l) = some (li, co) from by rw [HSP.out, HBD.out, hdd] <;> rfl)
    clear hdd
    go_wp2_with (first
    | ((with_reducible refine atl ?_); refine wpList_load_part rfl 63 (.tmp 18) rfl g (o + k * 25) rfl _ Tryz.underlying63 rfl [.int .i64 q, .int .i64 li, .int .i64 co, .string s, .string t, .int .i64 ke, .int .i64 me, .string se, .int .i64 sle, .bool loe, .int .i64 oe, .slice Ae Ne Ce, .int .i64 kx, .int .i64 mx, .string sx, .int .i64 slx, .bool lox, .int .i64 ox, .slice Ax Nx Cx, .slice Ab Nb Cb, .slice Al Nl Cl, .int .i64 i0, .int .i64 sl0, .int .i64 ot, .bool lo] krf HCR2.out ?_)
    | ((with_reducible refine ats ?_); refine wpList_store_part rfl rfl 63 (.tmp 7) (.tmp 19) rfl (wr.heap.size) 0 rfl [.int .i64 q, .int .i64 li, .int .i64 co, .string s, .string t, .int .i64 ke, .int .i64 me, .string se, .int .i64 sle, .bool loe, .int .i64 oe, .slice Ae Ne Ce, .int .i64 kx, .int .i64 mx, .string sx, .int .i64 slx, .bool lox, .int .i64 ox, .slice Ax Nx Cx, .slice Ab Nb Cb, .slice Al Nl Cl, .int .i64 i0, .int .i64 sl0, .int .i64 ot, .bool lo] rfl (Cells.fresh wr 63 zeroSt) (by exact Nat.le_of_ble_eq_true rfl) krf HO2.out ?_; intro W5 hB5 hk5a
       have HB5 := aP (show Cells W5 wr.heap.size 63 [.int .i64 q, .int .i64 li, .int .i64 co, .string s, .string t, .int .i64 ke, .int .i64 me, .string se, .int .i64 sle, .bool loe, .int .i64 oe, .slice Ae Ne Ce, .int .i64 kx, .int .i64 mx, .string sx, .int .i64 slx, .bool lox, .int .i64 ox, .slice Ax Nx Cx, .slice Ab Nb Cb, .slice Al Nl Cl, .int .i64 i0, .int .i64 sl0, .int .i64 ot, .bool lo] from by simpa using hB5)
       have hk5 : Kept noX wr W5 := ((Kept.refl noX wr).alloc _).own hk5a (Nat.le_refl _)
       have hs5 := hk5.size
       have hcB5 := hcB.keep hk5
       have hkw5 := (hkA.trans hkr).trans hk5
       have p1 := HB5.out.cell 1; have p2 := HB5.out.cell 2; have p5 := HB5.out.cell 5; have p6 := HB5.out.cell 6; have p7 := HB5.out.cell 7; have p8 := HB5.out.cell 8; have p9 := HB5.out.cell 9; have p10 := HB5.out.cell 10; have p11 := HB5.out.cell 11
       simp only [aZ, aS] at p1 p2 p5 p6 p7 p8 p9 p10 p11
       have z0 := hcB5.cell 0; have z1 := hcB5.cell 1; have y0 := hcB5.free 0; have y1 := hcB5.free 1
       simp only [aZ, aS] at z0 z1
       clear hB5 hk5a))
    refine ret_2 Tryz.results43 rfl (resVal.box rfl (((hcB5).put 0 _).put 1 _) Tryz.underlying25 rfl krf) (resVal.tmp rfl) ⟨?_, ((hkw5).setCell (fun h => by dsimp only at h; omega) _).setCell (fun h => by dsimp only at h; omega) _⟩
    rw [HR.out] <;> rfl
   | false =>
    have hdi : decide ((24 : Int) < (d : Int)) = false := by simp at hdd ⊢; omega
    have HDD := aP hdd
    clear hdd
    go_wp2_with (first
    | ((with_reducible refine atl ?_); refine wpList_load_part rfl 63 (.tmp 18) rfl g (o + k * 25) rfl _ Tryz.underlying63 rfl [.int .i64 q, .int .i64 li, .int .i64 co, .string s, .string t, .int .i64 ke, .int .i64 me, .string se, .int .i64 sle, .bool loe, .int .i64 oe, .slice Ae Ne Ce, .int .i64 kx, .int .i64 mx, .string sx, .int .i64 slx, .bool lox, .int .i64 ox, .slice Ax Nx Cx, .slice Ab Nb Cb, .slice Al Nl Cl, .int .i64 i0, .int .i64 sl0, .int .i64 ot, .bool lo] krf HCR2.out ?_)
    | ((with_reducible refine ats ?_); refine wpList_store_part rfl rfl 63 (.tmp 7) (.tmp 19) rfl (wr.heap.size) 0 rfl [.int .i64 q, .int .i64 li, .int .i64 co, .string s, .string t, .int .i64 ke, .int .i64 me, .string se, .int .i64 sle, .bool loe, .int .i64 oe, .slice Ae Ne Ce, .int .i64 kx, .int .i64 mx, .string sx, .int .i64 slx, .bool lox, .int .i64 ox, .slice Ax Nx Cx, .slice Ab Nb Cb, .slice Al Nl Cl, .int .i64 i0, .int .i64 sl0, .int .i64 ot, .bool lo] rfl (Cells.fresh wr 63 zeroSt) (by exact Nat.le_of_ble_eq_true rfl) krf HO2.out ?_; intro W5 hB5 hk5a
       have HB5 := aP (show Cells W5 wr.heap.size 63 [.int .i64 q, .int .i64 li, .int .i64 co, .string s, .string t, .int .i64 ke, .int .i64 me, .string se, .int .i64 sle, .bool loe, .int .i64 oe, .slice Ae Ne Ce, .int .i64 kx, .int .i64 mx, .string sx, .int .i64 slx, .bool lox, .int .i64 ox, .slice Ax Nx Cx, .slice Ab Nb Cb, .slice Al Nl Cl, .int .i64 i0, .int .i64 sl0, .int .i64 ot, .bool lo] from by simpa using hB5)
       have hk5 : Kept noX wr W5 := ((Kept.refl noX wr).alloc _).own hk5a (Nat.le_refl _)
       have hs5 := hk5.size
       have hcB5 := hcB.keep hk5
       have hkw5 := (hkA.trans hkr).trans hk5
       have p1 := HB5.out.cell 1; have p2 := HB5.out.cell 2; have p5 := HB5.out.cell 5; have p6 := HB5.out.cell 6; have p7 := HB5.out.cell 7; have p8 := HB5.out.cell 8; have p9 := HB5.out.cell 9; have p10 := HB5.out.cell 10; have p11 := HB5.out.cell 11
       simp only [aZ, aS] at p1 p2 p5 p6 p7 p8 p9 p10 p11
       have z0 := hcB5.cell 0; have z1 := hcB5.cell 1; have y0 := hcB5.free 0; have y1 := hcB5.free 1
       simp only [aZ, aS] at z0 z1
       clear hB5 hk5a))
    refine (HDE.out _ hk5).mono ?_
    rintro r W6 ⟨rfl, hk6⟩
    have hs6 := hk6.size
    have hkw6 := hkw5.trans hk6
    have hcB6 := hcB5.keep hk6
    have HB6 := aP (HB5.out.keep hk6)
    clear p1 p2 p5 p6 p7 p8 p9 p10 p11
    clear z0 z1 y0 y1 HB5
    cases hee : decide (24 < depE e) with
    | true =>
     have hei : decide ((24 : Int) < (depE e : Int)) = true := by simp at hee ⊢; omega
     have HR := aP (show firstBad (seqL d l) = some (li, co) from by rw [HSP.out, HBD.out, HDD.out, hee] <;> rfl)
     clear hee
     have p1 := HB6.out.cell 1; have p2 := HB6.out.cell 2
     simp only [aZ, aS] at p1 p2
     have z0 := hcB6.cell 0; have z1 := hcB6.cell 1; have y0 := hcB6.free 0; have y1 := hcB6.free 1
     simp only [aZ, aS] at z0 z1
     go_wp2
     refine ret_2 Tryz.results43 rfl (resVal.box rfl (((hcB6).put 0 _).put 1 _) Tryz.underlying25 rfl krf) (resVal.tmp rfl) ⟨?_, ((hkw6).setCell (fun h => by dsimp only at h; omega) _).setCell (fun h => by dsimp only at h; omega) _⟩
     rw [HR.out] <;> rfl
    | false =>
    have hei : decide ((24 : Int) < (depE e : Int)) = false := by simp at hee ⊢; omega
    have HEE := aP hee
    clear hee
    have p12 := HB6.out.cell 12; have p13 := HB6.out.cell 13; have p14 := HB6.out.cell 14; have p15 := HB6.out.cell 15; have p16 := HB6.out.cell 16; have p17 := HB6.out.cell 17; have p18 := HB6.out.cell 18
    simp only [aZ, aS] at p12 p13 p14 p15 p16 p17 p18
    go_wp2_with fail
    refine (HDX.out _ (hk5.trans hk6)).mono ?_
    rintro r W7 ⟨rfl, hk7⟩
    have hs7 := hk7.size
    have hkw7 := hkw6.trans hk7
    have hcB7 := hcB6.keep hk7
    have HB7 := aP (HB6.out.keep hk7)
    clear p12 p13 p14 p15 p16 p17 p18
    clear HB6
    cases hxx : decide (24 < depE x) with
    | true =>
     have hxi : decide ((24 : Int) < (depE x : Int)) = true := by simp at hxx ⊢; omega
     have HR := aP (show firstBad (seqL d l) = some (li, co) from by rw [HSP.out, HBD.out, HDD.out, HEE.out, hxx] <;> rfl)
     clear hxx
     have p1 := HB7.out.cell 1; have p2 := HB7.out.cell 2
     simp only [aZ, aS] at p1 p2
     have z0 := hcB7.cell 0; have z1 := hcB7.cell 1; have y0 := hcB7.free 0; have y1 := hcB7.free 1
     simp only [aZ, aS] at z0 z1
     go_wp2
     refine ret_2 Tryz.results43 rfl (resVal.box rfl (((hcB7).put 0 _).put 1 _) Tryz.underlying25 rfl krf) (resVal.tmp rfl) ⟨?_, ((hkw7).setCell (fun h => by dsimp only at h; omega) _).setCell (fun h => by dsimp only at h; omega) _⟩
     rw [HR.out] <;> rfl
    | false =>
    have hxi : decide ((24 : Int) < (depE x : Int)) = false := by simp at hxx ⊢; omega
    have HNB := aP (show badS (d, .node q li co s t e x b el i0 sl0 ot lo) = false from by rw [HBD.out, HDD.out, HEE.out, hxx] <;> rfl)
    clear hxx
    have HSP : Hid (firstBad (seqL d l) = ((firstBad (seqL (d + 1) b)).or (firstBad (seqL (d + 1) el))).or (firstBad (seqL d (l.drop (k + 1))))) := aP (by rw [HSP.out, HNB.out] <;> rfl)
    have HTK2 : Hid (firstBad (seqL d (l.take (k + 1))) = (firstBad (seqL (d + 1) b)).or (firstBad (seqL (d + 1) el))) := aP (by rw [HTK2.out, HNB.out] <;> rfl)
    have HCB := aP (HIB.out HSB.out _ W7 (((HBV.out.keep hk5).keep hk6).keep hk7))
    have HCE := aP (fun W (hk : Kept noX W7 W) => HIE.out HSE.out _ W ((((HLV.out.keep hk5).keep hk6).keep hk7).keep hk))
    generalize firstBad (seqL (d + 1) b) = pb at HCB HSP HTK2
    generalize firstBad (seqL (d + 1) el) = pe at HCE HSP HTK2
    have p19 := HB7.out.cell 19
    simp only [aZ, aS] at p19
    go_wp2_with fail
    refine HCB.out.mono ?_
    rintro r W8 ⟨rfl, hk8⟩
    have hs8 := hk8.size
    have hkw8 := hkw7.trans hk8
    have hcB8 := hcB7.keep hk8
    have HB8 := aP (HB7.out.keep hk8)
    clear p19 HB7
    cases pb with
    | some pr =>
     obtain ⟨a1, a2⟩ := pr
     have HR := aP (show firstBad (seqL d l) = some (a1, a2) from by rw [HSP.out] <;> rfl)
     simp only [DeepV, Option.getD_some, Option.isSome_some]
     have hcB8a := hcB8.keep ((Kept.refl noX W8).alloc (.cells #[.int .i64 a1, .int .i64 a2] 25))
     have z0 := hcB8a.cell 0; have z1 := hcB8a.cell 1; have y0 := hcB8a.free 0; have y1 := hcB8a.free 1
     simp only [aZ, aS] at z0 z1
     go_wp2
     refine ret_2 Tryz.results43 rfl (resVal.box rfl (((hcB8a).put 0 _).put 1 _) Tryz.underlying25 rfl krf) (resVal.tmp rfl) ⟨?_, ((hkw8.alloc _).setCell (fun h => by dsimp only at h; omega) _).setCell (fun h => by dsimp only at h; omega) _⟩
     rw [HR.out] <;> rfl
    | none =>
    simp only [DeepV, Option.getD_none, Option.isSome_none]
    have HP8 := aP (Cells.fresh W8 25 [.int .i64 0, .int .i64 0])
    have hk9 : Kept noX W8 (W8.alloc (.cells #[.int .i64 0, .int .i64 0] 25)) := (Kept.refl _ _).alloc _
    have HB9 := aP (HB8.out.keep hk9)
    have p20 := HB9.out.cell 20
    simp only [aZ, aS] at p20
    go_wp2_with fail
    refine (HCE.out _ (hk8.trans hk9)).mono ?_
    rintro r W10 ⟨rfl, hk10⟩
    have hs9 : (W8.alloc (.cells #[.int .i64 0, .int .i64 0] 25)).heap.size = W8.heap.size + 1 := by simp
    have hs10 := hk10.size
    rw [hs9] at hs10
    have hkw10 := (hkw8.trans hk9).trans hk10
    have hcB10 := (hcB8.keep hk9).keep hk10
    have hP10 := HP8.out.keep hk10
    have x0 := hP10.cell 0; have x1 := hP10.cell 1; have w0' := hP10.free 0; have w1' := hP10.free 1
    simp only [aZ, aS] at x0 x1
    clear p20 HB8 HB9
    have hkP : ∀ u u2 : Value, Kept (· = W8.heap.size) W10 ((W10.setCell ⟨W8.heap.size, 0, none⟩ u).setCell ⟨W8.heap.size, 1, none⟩ u2) := fun u u2 => ((Kept.refl _ _).setCell (fun _ => by rfl) _).setCell (fun _ => by rfl) _
    cases pe with
    | some pr =>
     obtain ⟨a1, a2⟩ := pr
     have HR := aP (show firstBad (seqL d l) = some (a1, a2) from by rw [HSP.out] <;> rfl)
     simp only [DeepV, Option.getD_some, Option.isSome_some]
     have z0 := hcB10.cell 0; have z1 := hcB10.cell 1; have y0 := hcB10.free 0; have y1 := hcB10.free 1
     simp only [aZ, aS] at z0 z1
     go_wp2
     refine ret_2 Tryz.results43 rfl (resVal.box rfl (((hcB10.kept (hkP (.int .i64 a1) (.int .i64 a2)) kom).put 0 _).put 1 _) Tryz.underlying25 rfl krf) (resVal.tmp rfl) ⟨?_, ((hkw10.join (hkP (.int .i64 a1) (.int .i64 a2)) (fun i hi hlt2 => by have hi : i = W8.heap.size := hi; omega)).setCell (fun h => by dsimp only at h; omega) _).setCell (fun h => by dsimp only at h; omega) _⟩
     rw [HR.out] <;> rfl
    | none =>
    simp only [DeepV, Option.getD_none, Option.isSome_none]
    have HTN := aP (show firstBad (seqL d (l.take (k + 1))) = none from by rw [HTK2.out] <;> rfl)
    go_wp2
    go_roundw
    case rel => exact ⟨k + 1, by omega, by go_num, HTN.out, hkr.trans ((((((hk5.trans hk6).trans hk7).trans hk8).trans hk9).trans hk10).join (hkP (.int .i64 0) (.int .i64 0)) (fun i hi hlt2 => by have hi : i = W8.heap.size := hi; omega))⟩
    case measure => simp [intOf]; omega
  ·have hdl : decide ((k : Int) < (l.length : Int)) = false := by simpa using hlt
   have hk2 : k = l.length := by omega
   have HF := aP (show firstBad (seqL d l) = none from by rw [← hf, hk2, List.take_length])
   have z0 := hcB.cell 0; have z1 := hcB.cell 1
   have y0 := hcB.free 0; have y1 := hcB.free 1
   simp only [aZ, aS] at z0 z1
   clear hf hk2
   go_wp2
   refine ret_2 Tryz.results43 rfl (resVal.box rfl (((hcB).put 0 _).put 1 _) Tryz.underlying25 rfl krf) (resVal.tmp rfl) ⟨?_, ((hkA.trans hkr).setCell (fun h => by dsimp only at h; omega) _).setCell (fun h => by dsimp only at h; omega) _⟩
   rw [HF.out] <;> rfl
theorem dep_num (m : Int) : depE (numE m) = 1 := by simp [numE, depE, depL]
theorem dep_name (s : ByteArray) : depE (nameE s) = 1 := by simp [nameE, depE, depL]
theorem dep_neg (e : ET) : depE (negE e) = depE e + 1 := by simp [negE, depE, depL]
theorem dep_not (e : ET) : depE (notE e) = depE e + 1 := by simp [notE, depE, depL]
theorem dep_cell (s : ByteArray) (e : ET) : depE (cellE s e) = depE e + 1 := by simp [cellE, depE, depL]
theorem dep_bin (o : Int) (a b : ET) : depE (binE o a b) = max (depE a) (depE b) + 1 := by simp [binE, depE, depL]
theorem dep_zero : depE zeroT = 1 := by simp [zeroT, depE, depL]
section
variable (n : Nat) (T : Nat → TokD)
theorem reads_dep : ∀ f, (∀ k bad, depE (primP n T f k bad).1 + k ≤ (primP n T f k bad).2.1 + 1) ∧ (∀ k bad, depE (unP n T f k bad).1 + k ≤ (unP n T f k bad).2.1 + 1) ∧
  (∀ q k bad, depE (exprP n T f q k bad).1 + k ≤ (exprP n T f q k bad).2.1 + 1) ∧
  (∀ q e k bad k0, k0 ≤ k → depE e + k0 ≤ k + 1 → depE (loopP n T f q e k bad).1 + k0 ≤ (loopP n T f q e k bad).2.1 + 1) := by
 intro f
 induction f with
 | zero =>
  refine ⟨fun k bad => ?_, fun k bad => ?_, fun q k bad => ?_, fun q e k bad k0 h1 h2 => ?_⟩
  ·rw [primP, dep_num]; dsimp only; omega
  ·rw [unP, dep_num]; dsimp only; omega
  ·rw [exprP, dep_num]; dsimp only; omega
  ·rw [loopP]; exact h2
 | succ f ih =>
  obtain ⟨h1, h2, h3, h4⟩ := ih
  refine ⟨fun k bad => ?_, fun k bad => ?_, fun q k bad => ?_, fun q e k bad k0 h5 h6 => ?_⟩
  ·rw [primP]
   split
   ·have a := h3 1 (k + 1) bad
    have b := stepP_le n T (exprP n T f 1 (k + 1) bad).2.1 (exprP n T f 1 (k + 1) bad).2.2 ⟨#[41]⟩
    show depE (exprP n T f 1 (k + 1) bad).1 + k ≤ stepP n T _ _ _ + 1
    omega
   ·split
    ·have := kindStep_le n T k bad 2
     rw [dep_num]; dsimp only; omega
    ·have a0 := kindStep_le n T k bad 1
     split
     ·have a := h3 1 (kindStep n T k bad 1 + 1) (kindBad n T k bad 1)
      have b := stepP_le n T (exprP n T f 1 (kindStep n T k bad 1 + 1) (kindBad n T k bad 1)).2.1 (exprP n T f 1 (kindStep n T k bad 1 + 1) (kindBad n T k bad 1)).2.2 ⟨#[93]⟩
      rw [dep_cell]
      show depE (exprP n T f 1 (kindStep n T k bad 1 + 1) (kindBad n T k bad 1)).1 + 1 + k ≤ stepP n T _ _ _ + 1
      omega
     ·rw [dep_name]; dsimp only; omega
  ·rw [unP]
   split
   ·have := h2 (k + 1) bad; rw [dep_neg]; dsimp only; omega
   ·split
    ·have := h2 (k + 1) bad; rw [dep_not]; dsimp only; omega
    ·exact h1 k bad
  ·rw [exprP]
   split
   ·exact h2 k bad
   ·exact h4 q _ _ _ k ((reads_on n T f).2.2.1 (q + 1) k bad) (h3 (q + 1) k bad)
  ·rw [loopP]
   have a := h3 (q + 1) (k + 1) bad
   have b := (reads_on n T f).2.2.1 (q + 1) (k + 1) bad
   split
   ·exact h6
   ·split
    ·rw [dep_bin]; dsimp only; omega
    ·refine h4 q _ _ _ k0 kom ?_
     rw [dep_bin]; omega
variable {n T}
theorem exR_dep {st : RS} (h : st.1 ≤ n) : depE (exR n T st).1 ≤ n + 1 := by
 have h1 := (reads_dep n T (n * 10 + 10)).2.2.1 1 st.1 st.2
 have h2 := (exR_on (n := n) (T := T) st).2 h
 have e : depE (exR n T st).1 + st.1 ≤ (exR n T st).2.1 + 1 := h1
 omega
def ShS (M : Nat) (s : ST) : Prop := ∀ d, shal M (ST.seq d s)
def ShB (M : Nat) (l : List ST) : Prop := ∀ d, shal M (seqL d l)
theorem ShB.nil {M : Nat} : ShB M [] := fun d p hp => by rw [seqL] at hp; cases hp
theorem ShB.cons {M : Nat} {s : ST} {l : List ST} (h1 : ShS M s) (h2 : ShB M l) : ShB M (s :: l) := fun d => by
 rw [seqL]; exact shal_append.2 ⟨h1 d, h2 d⟩
theorem ShS.st {M : Nat} {st : RS} {q : Int} {s t : ByteArray} {e x : ET} {b l : List ST} (h1 : depE e ≤ M) (h2 : depE x ≤ M) (h3 : ShB M b) (h4 : ShB M l) : ShS M (stR n T st q s t e x b l) := fun d => by
 rw [ST.seq_eq]
 intro p hp
 rcases List.mem_cons.1 hp with rfl | hp
 ·exact ⟨h1, h2⟩
 ·exact shal_append.2 ⟨h3 (d + 1), h4 (d + 1)⟩ p hp
theorem z1 : depE zeroT ≤ n + 1 := by rw [dep_zero]; omega
theorem setR_sh (s0 : RS) {a : ByteArray × RS} (h : a.2.1 ≤ n) : ShS (n + 1) (setR n T s0 a).1 := .st (exR_dep ((muR_on _ _).2 h)) z1 .nil .nil
theorem putR_sh (s0 : RS) (a : ByteArray × RS) {x : ET × RS} (hx : depE x.1 ≤ n + 1) (h : x.2.1 ≤ n) : ShS (n + 1) (putR n T s0 a x).1 := .st (exR_dep ((muR_on _ _).2 ((muR_on _ _).2 h))) hx .nil .nil
theorem letR_sh (s0 : RS) {a : ByteArray × RS} (h : a.2.1 ≤ n) : ShS (n + 1) (letR n T s0 a).1 := .st (exR_dep ((muR_on _ _).2 h)) z1 .nil .nil
theorem stmts_shal : ∀ f, (∀ st : RS, st.1 ≤ n → ShS (n + 1) (stmtR n T f st).1) ∧ (∀ st : RS, st.1 ≤ n → ShB (n + 1) (blockR n T f st).1) ∧ (∀ st : RS, st.1 ≤ n → ShB (n + 1) (restR n T f st).1) := by
 intro f
 induction f with
 | zero => exact ⟨fun st h => (by rw [stmtR]; exact .st z1 z1 .nil .nil), fun st h => (by rw [blockR]; exact .nil), fun st h => (by rw [restR]; exact .nil)⟩
 | succ f ih =>
  obtain ⟨h1, h2, h3⟩ := ih
  have o2 := (stmts_on (n := n) (T := T) f).2.1
  have o1 := (stmts_on (n := n) (T := T) f).1
  refine ⟨fun st h => ?_, fun st h => ?_, fun st h => ?_⟩
  ·rw [stmtR]
   by_cases hk : kindR n T st = 0
   ·rw [if_pos hk]
    split
    ·rename_i hb
     have hx := (nextR_on (isR_lt hb).1).2 ((naR_on _).2 h)
     exact putR_sh _ _ (exR_dep hx) ((exR_on _).2 hx)
    ·exact setR_sh _ ((naR_on _).2 h)
   ·rw [if_neg hk]
    have hx : (nextR st).1 ≤ n := (nextR_on (kindUp_lt hk).1).2 h
    split
    ·exact letR_sh _ ((naR_on _).2 hx)
    ·split
     ·split
      ·rename_i hb
       exact .st (exR_dep hx) z1 (h2 _ ((exR_on _).2 hx)) (h2 _ ((nextR_on (isR_lt hb).1).2 ((o2 _).2 ((exR_on _).2 hx))))
      ·exact .st (exR_dep hx) z1 (h2 _ ((exR_on _).2 hx)) .nil
     ·split
      ·exact .st (exR_dep hx) z1 (h2 _ ((exR_on _).2 hx)) .nil
      ·split
       ·exact .st z1 z1 .nil .nil
       ·split
        ·exact .st (exR_dep ((naR_on _).2 hx)) z1 .nil .nil
        ·split
         ·exact .st z1 z1 .nil .nil
         ·split
          ·exact .st (exR_dep hx) z1 .nil .nil
          ·exact .st z1 z1 .nil .nil
  ·rw [blockR]
   exact h3 _ ((muR_on _ _).2 h)
  ·rw [restR]
   split
   ·exact .nil
   ·exact .cons (h1 _ h) (h3 _ ((o1 _).2 h))
theorem declR_sh {st : RS} (h : st.1 ≤ n) : ShB (n + 1) (declR n T st).1.body := by
 unfold declR
 by_cases hk : dkR n T st = 0
 ·rw [if_pos hk]; exact .nil
 ·rw [if_neg hk]
  have hx : (nextR st).1 ≤ n := (nextR_on (dkUp_lt hk).1).2 h
  split
  ·split
   ·exact .nil
   ·exact .nil
  ·split
   ·exact .nil
   ·split
    ·exact (stmts_shal _).2.1 _ ((naR_on _).2 hx)
    ·exact .nil
theorem declsR_sh : ∀ (f : Nat) (st : RS), st.1 ≤ n → ∀ d ∈ (declsR n T f st).1, ShB (n + 1) d.body
 | 0, st, _, d, hd => by rw [declsR] at hd; cases hd
 | f + 1, st, h, d, hd => by
  rw [declsR] at hd
  split at hd
  ·cases hd
  ·rcases List.mem_cons.1 hd with rfl | hd
   ·exact declR_sh h
   ·exact declsR_sh f _ ((declR_on st).2 h) d hd
end
end Go.Proofs.YtjkgepppoopheaaGreatDoor
