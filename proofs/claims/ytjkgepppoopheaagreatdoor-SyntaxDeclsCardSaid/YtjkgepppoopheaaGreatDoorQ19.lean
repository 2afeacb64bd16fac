/- The two readings of declarations and of programs are one (conditions: as in Eq4; no word ahead of the end is of no kind). -/
import Derived.Test.YtjkgepppoopheaaGreatDoorAbb
import Derived.Test.YtjkgepppoopheaaGreatDoorQ16
import Derived.Test.YtjkgepppoopheaaGreatDoorQ18
import Derived.Defers
import Derived.Recover
import Derived.Test.YtjkgepppoopheaaGreatDoorQ17
set_option maxRecDepth 100000
set_option maxHeartbeats 1000000
namespace Go.Proofs.YtjkgepppoopheaaGreatDoor
open Go.RowKit Go.Shelf
section
variable {S : Src} {f R k : Nat} {w : World}
theorem fw_declGo : ∀ (l : List ByteArray) (q : Int), Fw (declGo S k l q) (k + 1)
 | [], _ => .err
 | s :: l, q => by
  rw [declGo]
  split
  ·exact .ok (Nat.le_refl _)
  ·exact fw_declGo l _
theorem fw_num : Fw (numS S k) (k + 1) := fun p hp => by
 obtain ⟨a, k', h1, h2⟩ := thn_some hp
 obtain ⟨h3, _⟩ := ofS_some h1
 injection h3 with _ h3
 injection h2 with h2
 rw [← h2, h3]
 exact Nat.le_refl _
theorem fw_start : Fw (startS S k) (k + 1) := (fw_want _).thn fun _ _ h => by
 split
 ·exact fw_num.thn fun _ _ h2 => .ok kom
 ·exact fun p hp => by have := fw_num p hp; omega
theorem fw_end (d : DT) : Fw (endS S d k) (k + 1) := (fw_want _).thn fun _ _ h => .ok h
theorem fw_decl : Fw (declS S k) (k + 1) := (fw_declGo _ _).thn fun q k1 h1 => fw_name.thn fun s k2 h2 => by
 split
 ·exact fw_start.thn fun _ _ h3 p hp => by have := fw_end _ p hp; omega
 ·split
  ·exact fw_num.thn fun _ _ h3 p hp => by have := fw_end _ p hp; omega
  ·split
   ·exact Fw.thn (fun p hp => (fw_all S _).2.1 _ p hp) fun _ _ h3 => .ok kom
   ·exact fun p hp => by have := fw_end _ p hp; omega
theorem infoDecl : (Tryz.prog.info? 54).map (fun i => (i.zero, i.size, decide (i.bytes ≤ 1000))) = some (some (.agg zeroD.toArray), 6, true) := by kernel_rfl
def retP (w w' : World) (x : List DT) (e : Ending) : Prop := ∃ v, e = .returned v ∧ RowV w' (· < w.heap.size) v (x.map DT.d)
def PrgI (S : Src) (f R : Nat) (w : World) (r : Except Nat (List DT × Nat)) (m : Nat) (v : Value) (wr : World) : Prop :=
 ∃ (ds : List DT) (k g : Nat), Grows wr w.heap.size 54 6 v (ds.map DT.d) ∧ DR wr R S k ∧ Kept (· = R) w wr ∧ m = S.n - k ∧ (S.n - k) + 1 ≤ g ∧ g ≤ f ∧ ds.length ≤ k ∧ thn (progS S g k) (fun l k => .ok (ds ++ l, k)) = r
theorem DV.one1 {W : World} {Z : Nat → Prop} {cs : List Value} {s : DT} (h : DV W Z cs s) : ∀ u ∈ cs, u.oneCell' = true := Rep.one h
theorem prog_calls (hS : SrcOk S) (h : DR w R S k) (hf : S.n - k + 1 ≤ f) : Calls Tryz.prog 38 #[.pointer (some ⟨R, 0, none⟩)] w (Parsed w R S retP (progS S f k)) := by
 have HD := aP (fun W k (h : DR W R S k) => decl_calls hS h)
 have hRl := h.lt
 clear hS
 go_enter Tryz.func38, Tryz.ntmps38
 have hI : PrgI S f R w (progS S f k) (S.n - k) (.slice none 0 0) w := ⟨[], k, f, Grows.nil _ _ _ _, h, Kept.refl _ _, rfl, by omega, Nat.le_refl _, Nat.zero_le _, by
   cases progS S f k with
   | error k => rfl
   | ok p => rfl⟩
 have HI := aP hI
 clear hI
 go_wp2_with fail
 go_loopg [3] (S.n - k) (fun m v3 wr => PrgI S f R w (progS S f k) m v3 wr)
 case atStart => exact HI.out
 case round =>
  obtain ⟨ds, kk, g, hgr, hdr, hkr, rfl, hg1, hg2, hdl, hrr⟩ := hrel
  obtain ⟨g', rfl⟩ : ∃ g', g = g' + 1 := ⟨g - 1, by omega⟩
  have hfew := hdr.few
  have hle := hdr.le
  have hsr := hkr.size
  have hRr : R < wr.heap.size := by omega
  have HGR := aP hgr
  have HKR := aP hkr
  have hrs : progS S (g' + 1) kk = if kindB S kk 0 then .ok ([], kk) else thn (declS S kk) fun d k => thn (progS S g' k) fun l k => .ok (d :: l, k) := by rw [progS]
  rw [hrs] at hrr
  clear hrs hgr hkr
  have HDR := aP hdr
  have HKB : Hid (kindB S kk 0 = decide ((S.tok kk).kind = 0)) := aP rfl
  cases ht : kindB S kk 0 with
  | true =>
   rw [ht, if_pos rfl, thn_ok, List.append_nil] at hrr
   have HRR := aP hrr
   have hne : ((S.tok kk).kind == 0) = true := by rw [← ht, HKB.out] <;> rfl
   clear hrr ht
   go_wp2_with fail
   refine (next_any (S := S) (k := kk) HDR.out).mono ?_
   rintro e W2 ⟨rfl, hk2⟩
   simp only [TokD.cells]
   go_wp2
   go_ret
   have hg2 := HGR.out.kept hk2 (fun b hb => hb.elim)
   exact Parsed.ok HRR.out.symm ⟨_, rfl, hg2.row (by decide)⟩ (HDR.out.keep hk2) (HKR.out.trans hk2.any)
  | false =>
   rw [ht, if_neg Bool.false_ne_true] at hrr
   have HRR := aP hrr
   have hne : ((S.tok kk).kind == 0) = false := by rw [← ht, HKB.out] <;> rfl
   clear hrr ht
   go_wp2_with fail
   refine (next_any (S := S) (k := kk) HDR.out).mono ?_
   rintro e W2 ⟨rfl, hk2⟩
   simp only [TokD.cells]
   have hd2 : DR W2 R S kk := HDR.out.keep hk2
   have lb2 := hk2.size
   have hG2 := HGR.out.kept hk2 (fun b hb => hb.elim)
   have HG2 := aP hG2
   have HK2 := aP (HKR.out.trans hk2.any)
   clear hG2
   go_wp2_with fail
   refine (HD.out W2 kk hd2).mono ?_
   intro e W3 hq
   rcases hq.cases with ⟨kx, hr, hm, hk3⟩ | ⟨a3, k3, hr, hret, hd3, hk3⟩
   ·unfold Misfit at hm
    subst hm
    have HX := aP (show progS S f k = .error kx from by rw [← HRR.out, hr, thn_err, thn_err])
    clear hr
    go_wp2
    exact ⟨rfl, Parsed.err HX.out rfl (HK2.out.trans hk3)⟩
   have hk3k := fw_decl _ hr
   dsimp only at hk3k
   have HRX := aP (show thn (progS S g' k3) (fun l k => .ok (ds ++ [a3] ++ l, k)) = progS S f k from by
     rw [← HRR.out, hr, thn_ok]
     cases progS S g' k3 with
     | error k => rfl
     | ok p => simp [thn])
   clear hr hq
   have lb3 := hk3.size
   obtain ⟨cs, rfl, hsv⟩ := hret
   have hG3 := HG2.out.kept hk3 (fun b hb => by have hb : b = R := hb; omega)
   have hl3 := hd3.le
   have hsv2 : Rep W3 (fun b => b < w.heap.size ∨ some b = u3.ownBlock) cs a3.d := Rep.mono hsv (fun b _ hb => by
     show b < W2.heap.size
     rcases hb with hb | hb
     · omega
     · exact block_own HG2.out hb.symm)
   have HSV := aP hsv2
   have HG3 := aP hG3
   have HL := aP (DV.len hsv)
   have HK3 := aP (HK2.out.trans hk3)
   obtain ⟨i0, hi0, hz0, hz1, hz2⟩ := info_cut infoDecl
   clear hsv hsv2 hG3
   go_wp2_with (first | ((with_reducible show wpList _ _ _ (Oper.mk _ (Op.buildSlice _ _ _) _ _ _ _ :: _) _ _); refine wpList_append_struct rfl rfl 23 54 (.tmp 12) (.tmp 10) 13 rfl rfl rfl i0 (.agg zeroD.toArray) i0.bytes Tryz.underlying23 hi0 hz0 hz1 rfl rfl (by decide) kle HG3.out rfl rfl rfl HL.out HSV.out kom (by rw [List.length_map]; unfold maxLen; omega) (by rw [List.length_map]; exact Nat.le_trans (Nat.mul_le_mul (show ds.length + 1 ≤ 1000001 by omega) hz2) (by decide)) ?_; intro v4 W4 hG4 hk4; have HG4 := aP hG4; clear hG4))
   have ho := fun g (hg : some g = u3.ownBlock) => HG3.out.own_ge hg.symm
   go_roundg (S.n - k3)
   case measure => omega
   case rel =>
    exact ⟨ds ++ [a3], k3, g', (show Grows W4 w.heap.size 54 6 v4 ((ds ++ [a3]).map DT.d) from by (have h4 := HG4.out; simpa using h4)),
      hd3.kept hk4 (fun b hb => by have := ho b hb; omega), HK3.out.join hk4 (fun i hi hlt => by have := ho i hi; omega), rfl, by omega, by omega, by simp; omega, HRX.out⟩
end
def Fz {α : Type} (m : α → Nat) (r : Except Nat (α × Nat)) (j : Nat) : Prop := ∀ p, r = .ok p → j + m p.1 ≤ p.2
section
variable {α β : Type} {m : α → Nat} {n : β → Nat} {j k i : Nat}
theorem Fz.ok {a : α} (h : j + m a ≤ k) : Fz m (.ok (a, k)) j := fun _ hp => by cases hp; exact h
theorem Fz.err : Fz m (.error k) j := fun _ hp => by cases hp
theorem Fz.thn {r : Except Nat (α × Nat)} {g : α → Nat → Except Nat (β × Nat)} (h1 : Fz m r i) (h : ∀ a k, i + m a ≤ k → Fz n (g a k) j) : Fz n (thn r g) j := fun p hp => by
 obtain ⟨a, k', h2, h3⟩ := thn_some hp
 exact h a k' (h1 _ h2) p h3
theorem Fw.thz {r : Except Nat (α × Nat)} {g : α → Nat → Except Nat (β × Nat)} (h1 : Fw r i) (h : ∀ a k, i ≤ k → Fz n (g a k) j) : Fz n (Go.Proofs.YtjkgepppoopheaaGreatDoor.thn r g) j := fun p hp => by
 obtain ⟨a, k', h2, h3⟩ := thn_some hp
 exact h a k' (h1 _ h2) p h3
end
section
variable {S : Src} {f R k : Nat} {w : World}
theorem sz_mk (q : Int) (s t : ByteArray) (e x : ET) (b l : List ST) : ST.sz (mkS q s t e x b l) = szL b + szL l + 1 := by rw [mkS, ST.sz]
theorem sz_at (li co : Int) (s : ST) : ST.sz (atS li co s) = ST.sz s := by cases s; rw [atS, ST.sz, ST.sz]
theorem Fz.mk {q : Int} {s t : ByteArray} {e x : ET} {j k : Nat} (h : j + 1 ≤ k) : Fz ST.sz (.ok (mkS q s t e x [] [], k)) j := .ok (by rw [sz_mk]; simp [szL]; omega)
theorem fz_assign : Fz ST.sz (assignS S k) k := fw_name.thz fun a k' h => by
 split
 ·exact fw_expr.thz fun _ _ h1 => (fw_want _).thz fun _ _ h2 => (fw_want _).thz fun _ _ h3 => fw_worth.thz fun _ _ h4 => .mk kom
 ·exact (fw_want _).thz fun _ _ h2 => fw_worth.thz fun _ _ h4 => .mk kom
theorem fz_form {B : Nat → Except Nat (List ST × Nat)} (hB : ∀ k, Fz szL (B k) k) {t : ByteArray} {r : Nat → Except Nat (ST × Nat)} (hr : formS S B t = some r) (k : Nat) : Fz ST.sz (r k) k := by
 unfold formS at hr
 obtain ⟨p, hp, rfl⟩ := Option.map_eq_some_iff.1 hr
 have hp := List.mem_of_find?_eq_some hp
 have hn : ∀ q k, Fz ST.sz (namingS S q k) k := fun q k => fw_name.thz fun _ _ h => (fw_want _).thz fun _ _ h2 => .mk kom
 have hn2 : ∀ q k, Fz ST.sz (namingTwoS S q k) k := fun q k => fw_name.thz fun _ _ h => fw_name.thz fun _ _ h2 => (fw_want _).thz fun _ _ h3 => .mk kom
 simp only [formsL, List.mem_cons, List.not_mem_nil, or_false] at hp
 rcases hp with rfl | rfl | rfl | rfl | rfl | rfl | rfl | rfl | rfl | rfl | rfl | rfl | rfl
 ·show Fz ST.sz (letS S k) k
  unfold letS
  exact fw_name.thz fun _ _ h => (fw_want _).thz fun _ _ h2 => fw_worth.thz fun _ _ h3 => .mk kom
 ·show Fz ST.sz (choiceS S B k) k
  unfold choiceS
  refine fw_expr.thz fun _ _ h => (hB _).thn fun b _ h2 => ?_
  split
  ·exact (hB _).thn fun l _ h3 => .ok (by rw [sz_mk]; omega)
  ·exact .ok (by rw [sz_mk]; simp [szL]; omega)
 ·show Fz ST.sz (loopS S B k) k
  unfold loopS
  exact fw_expr.thz fun _ _ h => (hB _).thn fun _ _ h2 => .ok (by rw [sz_mk]; simp [szL]; omega)
 ·exact hn _ _
 ·exact hn _ _
 ·exact hn2 _ _
 ·exact hn _ _
 ·exact hn _ _
 ·show Fz ST.sz (sendS S k) k
  unfold sendS
  exact fw_name.thz fun _ _ h => fw_worth.thz fun _ _ h3 => .mk kom
 ·exact hn2 _ _
 ·exact hn _ _
 ·show Fz ST.sz (joinS S k) k
  unfold joinS
  exact (fw_want _).thz fun _ _ h3 => .mk kom
 ·show Fz ST.sz (printS S k) k
  unfold printS
  exact fw_worth.thz fun _ _ h3 => .mk kom
theorem fz_all (S : Src) : ∀ f, (∀ k, Fz ST.sz (stmtS S f k) k) ∧ (∀ k, Fz szL (blockS S f k) k) ∧ (∀ k, Fz szL (restS S f k) k) := by
 intro f
 induction f with
 | zero => exact ⟨fun k => (by rw [stmtS]; exact .err), fun k => (by rw [blockS]; exact .err), fun k => (by rw [restS]; exact .err)⟩
 | succ f ih =>
  obtain ⟨h1, h2, h3⟩ := ih
  refine ⟨fun k => ?_, fun k => ?_, fun k => ?_⟩
  ·rw [stmtS]
   split
   ·split
    ·rename_i r hr
     exact (fz_form h2 hr _).thn fun _ _ h => .ok (by rw [sz_at]; omega)
    ·exact .err
   ·exact fz_assign.thn fun _ _ h => .ok (by rw [sz_at]; omega)
  ·rw [blockS]
   exact (fw_want _).thz fun _ k' h p hp => by have := h3 k' p hp; omega
  ·rw [restS]
   split
   ·exact .ok (by simp [szL])
   ·exact (h1 _).thn fun _ k' h => (h3 _).thn fun _ _ h' => .ok (by rw [szL]; omega)
theorem fz_body {b : List ST} {k' : Nat} (h : bodyS S k = .ok (b, k')) : szL b ≤ k' := by
 have := (fz_all S _).2.1 k _ h
 dsimp only at this
 omega
theorem sz_decl {d : DT} {k' : Nat} (h : declS S k = .ok (d, k')) : szL d.body ≤ k' := by
 unfold declS at h
 obtain ⟨q, k1, h1, h⟩ := thn_some h
 obtain ⟨s, k2, h2, h⟩ := thn_some h
 have hend : ∀ {d0 d : DT} {k k' : Nat}, d0.body = [] → endS S d0 k = .ok (d, k') → szL d.body ≤ k' := fun {d0 d k k'} h0 h => by
  unfold endS at h
  obtain ⟨_, _, _, h⟩ := thn_some h
  injection h with h
  injection h with h _
  rw [← h, h0, szL]
  exact Nat.zero_le _
 split at h
 ·obtain ⟨n, k3, _, h⟩ := thn_some h
  exact hend rfl h
 ·split at h
  ·obtain ⟨n, k3, _, h⟩ := thn_some h
   exact hend rfl h
  ·split at h
   ·obtain ⟨b, k3, h3, h⟩ := thn_some h
    injection h with h
    injection h with h hk
    rw [← h, ← hk]
    exact fz_body h3
   ·exact hend rfl h
theorem sz_prog : ∀ (f k : Nat) {l : List DT} {k' : Nat}, progS S f k = .ok (l, k') → k ≤ k' ∧ ∀ d ∈ l, szL d.body ≤ k' := by
 intro f
 induction f with
 | zero => intro k l k' h; rw [progS] at h; cases h
 | succ f ih =>
  intro k l k' h
  rw [progS] at h
  split at h
  ·injection h with h
   injection h with h hk
   rw [← h, ← hk]
   exact ⟨Nat.le_refl _, fun _ h => by cases h⟩
  ·obtain ⟨d, k1, h1, h⟩ := thn_some h
   obtain ⟨m, k2, h2, h⟩ := thn_some h
   injection h with h
   injection h with h hk
   obtain ⟨h3, h4⟩ := ih _ h2
   have h5 := fw_decl _ h1
   have h6 := sz_decl h1
   dsimp only at h5
   subst h hk
   refine ⟨by omega, fun e he => ?_⟩
   rcases List.mem_cons.1 he with rfl | he
   ·omega
   ·exact h4 e he
end
theorem catch_idle (p0 p1 p2 : Nat) (w : World) :
  CallsD Tryz.prog 35 #[.pointer (some ⟨p0, 0, none⟩), .pointer (some ⟨p1, 0, none⟩), .pointer (some ⟨p2, 0, none⟩)] .returning w fun e u' w' => e = .returned (.tuple #[]) ∧ u' = .returning ∧ w' = w := by
 refine callsD_of_wpS Tryz.func35 rfl fun c₀ cs hu => ?_
 apply wpS_seq
 apply wpS_region
 simp [wpOpsS, go_sem, recoverD, hu, Tryz.ntmps35, Exit.thenS]
 refine wpS_of_wp ?_
 go_wp2
 cases c₀
 simp_all [bodyPostS, results, Tryz.results35]
theorem catch_misfit (p0 p1 p2 : Nat) (S : Src) (k : Nat) (older : List PanicEntry) (w : World) (h0 : Cells w p0 23 [.slice none 0 0]) (h1 : Cells w p1 25 [.int .i64 0, .int .i64 0]) (h2 : Cells w p2 26 [.int .i64 0]) (h01 : p0 ≠ p1) (h02 : p0 ≠ p2) (h12 : p1 ≠ p2) :
  CallsD Tryz.prog 35 #[.pointer (some ⟨p0, 0, none⟩), .pointer (some ⟨p1, 0, none⟩), .pointer (some ⟨p2, 0, none⟩)] (.panicking ({ v := misfitV S k, recovered := false } :: older)) w fun e u' w' =>
   e = .returned (.tuple #[]) ∧ u' = .panicking ({ v := misfitV S k, recovered := true } :: older) ∧
   Cells w' p0 23 [.slice none 0 0] ∧ Cells w' p1 25 [.int .i64 (S.tok k).line, .int .i64 (S.tok k).col] ∧ Cells w' p2 26 [.int .i64 120] ∧ Kept (fun g => g = p0 ∨ g = p1 ∨ g = p2) w w' := by
 refine callsD_of_wpS Tryz.func35 rfl fun c₀ cs hu => ?_
 apply wpS_seq
 apply wpS_region
 simp [wpOpsS, go_sem, recoverD, hu, Tryz.ntmps35, Exit.thenS]
 refine wpS_of_wp ?_
 unfold misfitV
 simp only [Array.replicate_succ, Array.replicate_zero, List.push_toArray, List.append_toArray, List.nil_append, List.cons_append, List.setIfInBounds_toArray, List.set_cons_zero, List.set_cons_succ]
 have hta : ∀ (v : Value) (w : World), (Instr.typeAssert (.iface 73 v) 20 73 true).run Tryz.prog w = .ok (.tuple #[v, .bool true]) w := fun v w => by kernel_rfl
 generalize (S.tok k).line = li
 generalize (S.tok k).col = co
 have H0 := aP h0
 have H1 := aP h1
 have H2 := aP h2
 have l0 := h0.lt
 have l1 := h1.lt
 have l2 := h2.lt
 clear h0 h1 h2
 go_wp2_with (first
   | ((with_reducible refine ats ?_); refine wpList_store_part rfl rfl 73 (.tmp 4) (.tmp 11) rfl (w.heap.size) 0 rfl [.int .i64 li, .int .i64 co] rfl (Cells.fresh w 73 [.int .i64 0, .int .i64 0]) kle krf k1c ?_; intro W5 hB5 hk5))
 have hk5' : Kept noX w W5 := ((Kept.refl noX w).alloc _).own hk5 (Nat.le_refl _)
 have h0 := H0.out.keep hk5'
 have h1 := H1.out.keep hk5'
 have h2 := H2.out.keep hk5'
 simp only [List.take_zero, List.nil_append, List.length_cons, List.length_nil, Nat.zero_add, List.drop_succ_cons, List.append_nil, List.drop_nil] at hB5
 obtain ⟨B, hB⟩ : ∃ B, B = w.heap.size := ⟨_, rfl⟩
 rw [← hB] at hB5 ⊢
 have d0 : p0 ≠ B := by omega
 have d1 : p1 ≠ B := by omega
 have d2 : p2 ≠ B := by omega
 have a0 := h0.cell 0; have a1 := h0.free 0
 have b0 := h1.cell 0; have b1 := h1.cell 1; have b2 := h1.free 0; have b3 := h1.free 1
 have g0 := h2.cell 0; have g1 := h2.free 0
 have e0 := hB5.cell 0; have e1 := hB5.cell 1
 simp only [aZ, aS] at a0 b0 b1 g0 e0 e1
 have HH0 := aP h0
 have HH1 := aP h1
 have HH2 := aP h2
 have HK5 := aP hk5'
 clear hB hk5 hk5' h0 h1 h2 hB5
 have e10 : B ≠ p0 := d0.symm
 have e20 : p1 ≠ p0 := h01.symm
 have e30 : p2 ≠ p0 := h02.symm
 have e40 : p2 ≠ p1 := h12.symm
 go_region
 obtain ⟨W6, hW6⟩ : ∃ W6, W6 = (((W5.setCell ⟨p0, 0, none⟩ (.slice none 0 0)).setCell ⟨p1, 0, none⟩ (.int .i64 li)).setCell ⟨p1, 1, none⟩ (.int .i64 co)).setCell ⟨p2, 0, none⟩ (.int .i64 120) := ⟨_, rfl⟩
 have hk6 : Kept (fun g => g = p0 ∨ g = p1 ∨ g = p2) w W6 := by
  rw [hW6]
  exact (((HK5.out.any.setCell (fun _ => .inl rfl) _).setCell (fun _ => .inr (.inl rfl)) _).setCell (fun _ => .inr (.inl rfl)) _).setCell (fun _ => .inr (.inr rfl)) _
 have q0 : Cells W6 p0 23 [.slice none 0 0] := by
  rw [hW6]
  exact ((((HH0.out.put 0 _).far (by simpa using h01) _).far (by simpa using h01) _).far (by simpa using h02) _)
 have q1 : Cells W6 p1 25 [.int .i64 li, .int .i64 co] := by
  rw [hW6]
  exact ((((HH1.out.far (by simpa using e20) _).put 0 _).put 1 _).far (by simpa using h12) _)
 have q2 : Cells W6 p2 26 [.int .i64 120] := by
  rw [hW6]
  exact ((((HH2.out.far (by simpa using e30) _).far (by simpa using e40) _).far (by simpa using e40) _).put 0 _)
 rw [← hW6]
 refine ⟨rfl, .panicking ({ v := .iface 73 (.agg #[.int .i64 li, .int .i64 co]), recovered := true } :: older), rfl, _, results_none rfl _ _ _, rfl, rfl, q0.drew, q1.drew, q2.drew, hk6.drew⟩
def Src.plain (S : Src) : Src := ⟨.nilFunc, S.n, S.T, S.el, S.ec, 0, fun _ => 0, 0, fun _ => True⟩
theorem expr_plain (S : Src) : ∀ f, (∀ k, operandS S f k = operandS S.plain f k) ∧ (∀ l k, aboveS S f l k = aboveS S.plain f l k) ∧ (∀ l e r k, climbS S f l e r k = climbS S.plain f l e r k) := by
 intro f
 induction f with
 | zero => exact ⟨fun _ => (by rw [operandS, operandS]), fun _ _ => (by rw [aboveS, aboveS]), fun _ _ _ _ => (by rw [climbS, climbS])⟩
 | succ f ih =>
  obtain ⟨h1, h2, h3⟩ := ih
  refine ⟨fun _ => ?_, fun _ _ => ?_, fun _ _ _ _ => ?_⟩
  ·rw [operandS, operandS]
   simp only [h1, h2]
   rfl
  ·rw [aboveS, aboveS]
   simp only [h1, h3]
  ·rw [climbS, climbS]
   simp only [h2, h3]
   rfl
theorem exprS_plain (S : Src) (k : Nat) : exprS S k = exprS S.plain k := (expr_plain S _).2.1 _ _
theorem worthS_plain (S : Src) (k : Nat) : worthS S k = worthS S.plain k := by
 unfold worthS
 simp only [exprS_plain S]
 rfl
theorem assignS_plain (S : Src) (k : Nat) : assignS S k = assignS S.plain k := by
 unfold assignS putS setS
 simp only [exprS_plain S, worthS_plain S]
 rfl
theorem forms_plain (S : Src) (B : Nat → Except Nat (List ST × Nat)) : formsL S B = formsL S.plain B := by
 have h1 : letS S = letS S.plain := by funext k; unfold letS; simp only [worthS_plain S]; rfl
 have h2 : choiceS S B = choiceS S.plain B := by funext k; unfold choiceS; simp only [exprS_plain S]; rfl
 have h3 : loopS S B = loopS S.plain B := by funext k; unfold loopS; simp only [exprS_plain S]
 have h4 : sendS S = sendS S.plain := by funext k; unfold sendS; simp only [worthS_plain S]; rfl
 have h5 : printS S = printS S.plain := by funext k; unfold printS; simp only [worthS_plain S]
 unfold formsL
 rw [h1, h2, h3, h4, h5]
 rfl
theorem stmt_plain (S : Src) : ∀ f, (∀ k, stmtS S f k = stmtS S.plain f k) ∧ (∀ k, blockS S f k = blockS S.plain f k) ∧ (∀ k, restS S f k = restS S.plain f k) := by
 intro f
 induction f with
 | zero => exact ⟨fun _ => (by rw [stmtS, stmtS]), fun _ => (by rw [blockS, blockS]), fun _ => (by rw [restS, restS])⟩
 | succ f ih =>
  obtain ⟨h1, h2, h3⟩ := ih
  have h2' : blockS S f = blockS S.plain f := funext h2
  refine ⟨fun _ => ?_, fun _ => ?_, fun _ => ?_⟩
  ·rw [stmtS, stmtS]
   unfold formS
   rw [h2', forms_plain S]
   simp only [assignS_plain S]
   rfl
  ·rw [blockS, blockS]
   simp only [h3]
   rfl
  ·rw [restS, restS]
   simp only [h1, h3]
   rfl
theorem declS_plain (S : Src) (k : Nat) : declS S k = declS S.plain k := by
 have hg : ∀ l k q, declGo S k l q = declGo S.plain k l q := by
  intro l
  induction l with
  | nil => intro k q; rfl
  | cons s l ih => intro k q; rw [declGo, declGo, ih] <;> rfl
 have hb : bodyS S = bodyS S.plain := by funext k; exact (stmt_plain S _).2.1 k
 unfold declS declKindS
 rw [hb]
 simp only [hg]
 rfl
theorem progS_plain (S : Src) : ∀ f k, progS S f k = progS S.plain f k := by
 intro f
 induction f with
 | zero => intro k; rw [progS, progS]
 | succ f ih =>
  intro k
  rw [progS, progS]
  simp only [declS_plain S, ih]
  rfl
def ZeroOk (n : Nat) (T : Nat → TokD) : Prop := ∀ k, k < n → (T k).kind ≠ 0
def dkK (j : Nat) : ByteArray := declL.getD j ⟨#[]⟩
theorem decls_ask : ((List.range' 1 6).all fun j => askB (dkK j) && decide (dkK j ≠ ⟨#[]⟩)) = true := by decide +kernel
theorem dk_ask (j : Nat) (h1 : 1 ≤ j) (h2 : j < 7) : askB (dkK j) = true ∧ dkK j ≠ ⟨#[]⟩ := by
 have h := List.all_eq_true.1 decls_ask j (List.mem_range'_1.2 ⟨h1, by omega⟩)
 rw [Bool.and_eq_true, decide_eq_true_eq] at h
 exact h
def dkTUp (t : ByteArray) : Nat → Nat
 | 0 => 0
 | j + 1 => if decide (t = dkK (j + 1)) then j + 1 else dkTUp t j
def dkTGo (t : ByteArray) : List ByteArray → Nat → Nat
 | [], _ => 0
 | s :: l, q => if decide (t = s) then q else dkTGo t l (q + 1)
set_option linter.unusedSimpArgs false in
theorem dk_eq (t : ByteArray) : dkTUp t 6 = dkTGo t (declL.drop 1) 1 := by
 by_cases h : ∃ j, 1 ≤ j ∧ j < 7 ∧ t = dkK j
 ·obtain ⟨j, h1, h2, rfl⟩ := h
  have e : ((List.range' 1 6).all fun j => decide (dkTUp (dkK j) 6 = dkTGo (dkK j) (declL.drop 1) 1)) = true := by decide +kernel
  exact of_decide_eq_true (List.all_eq_true.1 e j (List.mem_range'_1.2 ⟨h1, by omega⟩))
 ·have g : ∀ j, 1 ≤ j → j < 7 → ¬ t = dkK j := fun j h1 h2 e => h ⟨j, h1, h2, e⟩
  have g1 := g 1 (by decide) (by decide); have g2 := g 2 (by decide) (by decide); have g3 := g 3 (by decide) (by decide); have g4 := g 4 (by decide) (by decide); have g5 := g 5 (by decide) (by decide); have g6 := g 6 (by decide) (by decide)
  have e1 : dkTUp t 6 = 0 := by simp [dkTUp, g1, g2, g3, g4, g5, g6]
  simp only [dkK, declL, List.getD_cons_succ, List.getD_cons_zero] at g1 g2 g3 g4 g5 g6
  rw [e1]
  simp [dkTGo, declL, g1, g2, g3, g4, g5, g6]
section
variable {S : Src}
theorem dkUp_text (hA : AskOk S.n S.T) (k : Nat) : ∀ j, j ≤ 6 → dkUp S.n S.T (k, false) j = dkTUp (S.tok k).text j
 | 0, _ => rfl
 | j + 1, hj => by
  rw [dkUp, dkTUp, dkUp_text hA k j kom]
  have h := dk_ask (j + 1) kom kom
  rw [show isR S.n S.T (k, false) (declL.getD (j + 1) ⟨#[]⟩) = takeB S k (dkK (j + 1)) from isP_take hA h.1 h.2]
  rfl
theorem declGo_text (k : Nat) : ∀ (l : List ByteArray) (q : Nat), 1 ≤ q → declGo S k l q = if dkTGo (S.tok k).text l q = 0 then .error k else .ok ((dkTGo (S.tok k).text l q : Nat), k + 1)
 | [], q, _ => rfl
 | s :: l, q, hq => by
  rw [declGo, dkTGo]
  show (if decide ((S.tok k).text = s) = true then _ else _) = _
  by_cases h : decide ((S.tok k).text = s) = true
  ·rw [if_pos h, if_pos h, if_neg kom]
  ·rw [if_neg h, if_neg h]
   exact declGo_text k l (q + 1) kom
theorem declKind_dk (hA : AskOk S.n S.T) (k : Nat) : declKindS S k = if dkR S.n S.T (k, false) = 0 then .error k else .ok ((dkR S.n S.T (k, false) : Nat), k + 1) := by
 have e : dkR S.n S.T (k, false) = dkTGo (S.tok k).text (declL.drop 1) 1 := (dkUp_text hA k 6 (Nat.le_refl _)).trans (dk_eq _)
 rw [e]
 exact declGo_text k (declL.drop 1) 1 (Nat.le_refl _)
theorem dR_at {k : Nat} (hk : k < S.n) (q : Int) (s : ByteArray) (m : Int) (b : List ST) : dR S.n S.T (k, false) q s m b = ⟨q, (S.tok k).line, (S.tok k).col, s, m, b⟩ := by
 rw [tok_lt_eq hk]
 unfold dR lineOf colOf
 simp only [if_pos hk]
theorem end_sim (hA : AskOk S.n S.T) {k0 k : Nat} (hk0 : k0 < S.n) (q : Int) (s : ByteArray) (m : Int) (b : List ST) :
  Sim (dR S.n S.T (k0, false) q s m b, muR S.n S.T (k, false) ⟨#[59]⟩) (endS S ⟨q, (S.tok k0).line, (S.tok k0).col, s, m, b⟩ k) := by
 unfold endS
 rw [dR_at hk0]
 exact mu_sim hA _ k (by decide +kernel) (by decide)
theorem var_sim (hA : AskOk S.n S.T) {k0 k : Nat} (hk0 : k0 < S.n) (s : ByteArray) (st : RS) :
  Sim (if isR S.n S.T (muR S.n S.T (k, false) ⟨#[61]⟩) ⟨#[45]⟩ then varR S.n S.T (k0, false) (s, st) true (nuR S.n S.T (nextR (muR S.n S.T (k, false) ⟨#[61]⟩))) else varR S.n S.T (k0, false) (s, st) false (nuR S.n S.T (muR S.n S.T (k, false) ⟨#[61]⟩)))
   (thn (startS S k) fun n k' => endS S ⟨1, (S.tok k0).line, (S.tok k0).col, s, n, []⟩ k') := by
 unfold startS
 simp only [thn_thn, thn_ite, thn_ok]
 refine mu_then hA (G := fun st' => if isR S.n S.T st' ⟨#[45]⟩ then varR S.n S.T (k0, false) (s, st) true (nuR S.n S.T (nextR st')) else varR S.n S.T (k0, false) (s, st) false (nuR S.n S.T st')) (by decide +kernel) (by decide) (fun hk => ?_) (fun k' => ?_)
 ·rw [show isR S.n S.T (k + 1, false) ⟨#[45]⟩ = takeB S (k + 1) ⟨#[45]⟩ from isP_take hA (by decide +kernel) (by decide)]
  cases t : takeB S (k + 1) ⟨#[45]⟩ with
  | true =>
   rw [if_pos rfl, if_pos rfl]
   exact nu_then (G := fun x => varR S.n S.T (k0, false) (s, st) true x) (fun m _ => end_sim hA hk0 1 s (wrap64 (-m)) []) (fun _ k' => muR_stuck k' _)
  | false =>
   rw [if_neg Bool.false_ne_true, if_neg Bool.false_ne_true]
   exact nu_then (G := fun x => varR S.n S.T (k0, false) (s, st) false x) (fun m _ => end_sim hA hk0 1 s m []) (fun _ k' => muR_stuck k' _)
 ·rw [isR_bad, if_neg Bool.false_ne_true]
  show muR S.n S.T (nuR S.n S.T (k', true)).2 _ = _
  rw [nuR_stuck, muR_stuck]
theorem decl_sim (hA : AskOk S.n S.T) (hK : KwOk S.n S.T) (k : Nat) : Sim (declR S.n S.T (k, false)) (declS S k) := by
 unfold declS
 rw [declKind_dk hA k]
 unfold declR
 by_cases h0 : dkR S.n S.T (k, false) = 0
 ·rw [if_pos h0, if_pos h0, thn_err]
  exact rfl
 ·have hlt : k < S.n := (dkUp_lt h0).1
  have hle : dkR S.n S.T (k, false) ≤ 6 := dkUp_le 6
  rw [if_neg h0, if_neg h0, thn_ok]
  generalize dkR S.n S.T (k, false) = q at h0 hle
  show Sim _ (thn (nameS S (k + 1)) _)
  have hnx : nextR (k, false) = (k + 1, false) := rfl
  rw [hnx]
  have hq : q = 1 ∨ q = 2 ∨ q = 3 ∨ q = 4 ∨ q = 5 ∨ q = 6 := by omega
  have hnum : ∀ q : Int, Sim (dR S.n S.T (k, false) q (naR S.n S.T (k + 1, false)).1 (nuR S.n S.T (naR S.n S.T (k + 1, false)).2).1 [], muR S.n S.T (nuR S.n S.T (naR S.n S.T (k + 1, false)).2).2 ⟨#[59]⟩)
    (thn (nameS S (k + 1)) fun s k' => thn (numS S k') fun n k' => endS S ⟨q, (S.tok k).line, (S.tok k).col, s, n, []⟩ k') := fun q => by
   refine na_then (G := fun a => (dR S.n S.T (k, false) q a.1 (nuR S.n S.T a.2).1 [], muR S.n S.T (nuR S.n S.T a.2).2 ⟨#[59]⟩)) (fun s _ => ?_) (fun s k' => by
     dsimp only
     rw [nuR_stuck, muR_stuck])
   exact nu_then (G := fun x => (dR S.n S.T (k, false) q s x.1 [], muR S.n S.T x.2 ⟨#[59]⟩)) (fun m _ => end_sim hA hlt q s m []) (fun _ k' => muR_stuck k' _)
  have hend : ∀ q : Int, Sim (dR S.n S.T (k, false) q (naR S.n S.T (k + 1, false)).1 0 [], muR S.n S.T (naR S.n S.T (k + 1, false)).2 ⟨#[59]⟩)
    (thn (nameS S (k + 1)) fun s k' => endS S ⟨q, (S.tok k).line, (S.tok k).col, s, 0, []⟩ k') := fun q =>
   na_then (G := fun a => (dR S.n S.T (k, false) q a.1 0 [], muR S.n S.T a.2 ⟨#[59]⟩)) (fun s _ => end_sim hA hlt q s 0 []) (fun s k' => muR_stuck k' _)
  rcases hq with rfl | rfl | rfl | rfl | rfl | rfl
  ·refine na_then (G := fun a => if isR S.n S.T (muR S.n S.T a.2 ⟨#[61]⟩) ⟨#[45]⟩ then varR S.n S.T (k, false) a true (nuR S.n S.T (nextR (muR S.n S.T a.2 ⟨#[61]⟩))) else varR S.n S.T (k, false) a false (nuR S.n S.T (muR S.n S.T a.2 ⟨#[61]⟩))) (fun s _ => ?_) (fun s k' => ?_)
   ·exact var_sim hA hlt s _
   ·dsimp only
    rw [muR_stuck, isR_bad, if_neg Bool.false_ne_true]
    show muR S.n S.T (nuR S.n S.T (k', true)).2 _ = _
    rw [nuR_stuck, muR_stuck]
  ·exact hnum 2
  ·exact hend 3
  ·exact hend 4
  ·exact hnum 5
  ·refine na_then (G := fun a => (dR S.n S.T (k, false) 6 a.1 0 (bkR S.n S.T a.2).1, (bkR S.n S.T a.2).2)) (fun s hk1 => ?_) (fun s k' => block_stuck _ k')
   show Sim (dR S.n S.T (k, false) 6 s 0 (bkR S.n S.T (k + 1 + 1, false)).1, (bkR S.n S.T (k + 1 + 1, false)).2) (thn (bodyS S (k + 1 + 1)) fun b k' => .ok (⟨6, (S.tok k).line, (S.tok k).col, s, 0, b⟩, k'))
   refine (bk_sim hA hK (show k + 1 + 1 ≤ S.n by omega)).thn (g := fun b => (dR S.n S.T (k, false) 6 s 0 b.1, b.2)) (fun b k' _ _ => ?_) (fun _ _ => rfl)
   show (_, _) = (_, _)
   rw [dR_at hlt]
end
section
variable (n : Nat) (T : Nat → TokD)
def declsR : Nat → RS → List DT × RS
 | 0, st => ([], st)
 | f + 1, st => if st.2 || decide (n ≤ st.1) then ([], st) else ((declR n T st).1 :: (declsR f (declR n T st).2).1, (declsR f (declR n T st).2).2)
variable {n T}
theorem decls_stuck (f k : Nat) : declsR n T f (k, true) = ([], (k, true)) := by
 cases f with
 | zero => rw [declsR]
 | succ f => rw [declsR] <;> rfl
end
section
variable {S : Src}
theorem decls_sim (hA : AskOk S.n S.T) (hK : KwOk S.n S.T) (hZ : ZeroOk S.n S.T) : ∀ (f k : Nat), k ≤ S.n → S.n - k + 1 ≤ f → Sim (declsR S.n S.T f (k, false)) (progS S f k)
 | 0, k, _, hf => by omega
 | f + 1, k, hk, hf => by
  rw [declsR, progS, Bool.false_or]
  by_cases hlt : k < S.n
  ·have h0 : kindB S k 0 = false := by
    unfold kindB
    rw [tok_lt_eq hlt]
    exact decide_eq_false (hZ k hlt)
   rw [h0, if_neg Bool.false_ne_true, if_neg (by rw [decide_eq_true_eq]; show ¬ S.n ≤ k; omega)]
   refine (decl_sim hA hK k).thn (g := fun d => (d.1 :: (declsR S.n S.T f d.2).1, (declsR S.n S.T f d.2).2)) (fun d k' hd hr => ?_) (fun d k' => by
     dsimp only
     rw [decls_stuck])
   have hon := declR_on (n := S.n) (T := S.T) (k, false)
   rw [hr] at hon
   have hle : k' ≤ S.n := hon.2 hk
   have hfw : k + 1 ≤ k' := fw_decl _ hd
   exact (decls_sim hA hK hZ f k' hle kom).thn (g := fun l => (d :: l.1, l.2)) (fun _ _ _ _ => rfl) (fun _ _ => rfl)
  ·have h0 : kindB S k 0 = true := by
    unfold kindB Src.tok
    rw [if_neg hlt]
    rfl
   rw [h0, if_pos rfl, if_pos (by rw [decide_eq_true_eq]; show S.n ≤ k; omega)]
   rfl
end
end Go.Proofs.YtjkgepppoopheaaGreatDoor
