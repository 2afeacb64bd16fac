/- Layer 4: all threads that wait are gone over, whatever for (conditions: the caller keeps them as they are). -/
import Derived.Test.YtehcfahfbdphpaaSy16
namespace Go.Proofs.Ytehcfahfbdphpaa
open Go.RowKit Go.Shelf
attribute [local go_sem] Oper.semAt_some

def ownW (B Y : Nat) (Ds : List Nat) (k : Nat) : Prop := k = B ∨ k = Y ∨ k ∈ Ds
/-- What the range over one queue keeps: the caller's memory, and this call's own. -/
def WtI (J : (Nat → Prop) → List Int → World → Prop) (lk B Y p : Nat) (Ds : List Nat) (O : Nat → Prop) (xs : List Int) (W : World) : Prop :=
  J (fun k => O k ∨ ownW B Y Ds k) xs W ∧ Cells W Y 89 [.func (.yield lk) #[] #[]] ∧ Cells W B 80 [.pointer (some ⟨p, 0, none⟩)] ∧ MarksAt W Ds ∧ ∀ k, ownW B Y Ds k → ¬ O k
section
variable {J : (Nat → Prop) → List Int → World → Prop} {lk B Y p base : Nat} {Ds : List Nat} {O O' : Nat → Prop} {xs : List Int} {W W' : World}
theorem WtI.own_lt (h : WtI J lk B Y p Ds O xs W) {k : Nat} (hk : ownW B Y Ds k) : k < W.heap.size := by
  rcases hk with rfl | rfl | hk
  · exact h.2.2.1.lt
  · exact h.2.1.lt
  · exact h.2.2.2.1.lt hk
theorem WtI.stab (hst : ∀ O pre W1 W2, (∀ k, O k → base ≤ k) → J O pre W1 → Kept O W1 W2 → J O pre W2) (hOwn : ∀ k, ownW B Y Ds k → base ≤ k) (h : WtI J lk B Y p Ds O xs W) (hO : ∀ k, O k → base ≤ k) (hk : Kept O W W') : WtI J lk B Y p Ds O xs W' := by
  obtain ⟨h1, h2, h3, h4, h5⟩ := h
  exact ⟨hst _ _ W W' (fun k hk => hk.elim (hO k) (hOwn k)) h1 (hk.mono (fun _ _ h => .inl h)), h2.kept hk (h5 _ (.inr (.inl rfl))), h3.kept hk (h5 _ (.inl rfl)), h4.kept hk (fun D hD => h5 _ (.inr (.inr hD))), h5⟩
theorem WtI.ext (hex : ∀ O O' pre W1, J O pre W1 → (∀ k, k < W1.heap.size → O' k → O k) → J O' pre W1) (h : WtI J lk B Y p Ds O xs W) (hO : ∀ k, k < W.heap.size → O' k → O k) : WtI J lk B Y p Ds O' xs W := by
  have hl := fun k => h.own_lt (k := k)
  obtain ⟨h1, h2, h3, h4, h5⟩ := h
  exact ⟨hex _ _ _ W h1 (fun k hk h => h.imp (hO k hk) id), h2, h3, h4, fun k hk ho => h5 k hk (hO k (hl k hk) ho)⟩
end
theorem flat_take {l : List (List Int)} {i : Nat} (h : i < l.length) : (l.take (i + 1)).flatten = (l.take i).flatten ++ l[i] := by
  rw [List.take_succ_eq_append_getElem h, List.flatten_append]
  simp
theorem flat_prefix (l : List (List Int)) (i : Nat) : (l.take i).flatten <+: l.flatten := by
  conv => rhs; rw [← List.take_append_drop i l, List.flatten_append]
  exact List.prefix_append _ _

set_option maxRecDepth 100000 in
set_option maxHeartbeats 1000000 in
theorem waiting_seq {w0 : World} {b0 p gc cc : Nat} {Ac : Option Addr} (cs : List (List Int)) (hcl : cs.length ≤ 64) (hp : p < b0) (hcell : w0.cell? ⟨p, 2, none⟩ = some (.slice Ac cs.length cc))
    (hq : ∀ i (h : i < cs.length), Ac = some ⟨gc, 0, none⟩ ∧ gc < b0 ∧ ∃ A c, w0.cell? ⟨gc, i, none⟩ = some (.slice A cs[i].length c) ∧ RowV w0 (b0 ≤ ·) (.slice A cs[i].length c) (cs[i].map (D.int .i64)) ∧ cs[i].length ≤ 1000000000)
    (base B : Nat) (hbB : base ≤ B) (w : World) (hB : Cells w B 80 [.pointer (some ⟨p, 0, none⟩)]) :
    SeqD (Kept (b0 ≤ ·) w0) Try.prog 91 #[.pointer (some ⟨B, 0, none⟩)] encN (fun _ => True) (fun pre x => pre ++ [x] <+: cs.flatten) (fun l => l = cs.flatten) (fun pre => pre <+: cs.flatten) base w := by
  intro lk J Jx W hwW hJK hst hex hstx hY h0
  have hBW := hB.kept hwW (fun h => h)
  have hBw := hB.lt
  have hBl := hBW.lt
  have hK0 := hJK _ _ _ h0
  have cB := hBW.cell 0
  simp only [List.getElem?_cons_zero] at cB
  have cP : W.cell? ⟨p, 2, none⟩ = some (.slice Ac cs.length cc) := (World.cell?_of_block (hK0.block p (block_lt_of hcell) (by omega))).trans hcell
  have HQ := Lib.hid hq
  have HB := Lib.hid hBW
  have HCE := Lib.hid hcell
  clear hq hB hBW hK0
  refine callsIn_of_wp_marks Try.func91 rfl trivial ?_ rfl
  simp only [Try.ntmps91, List.size_toArray, List.length_cons, List.length_nil, Nat.reduceAdd, Nat.reduceSub, Array.replicate_succ, Array.replicate_zero, List.push_toArray, List.append_toArray, List.nil_append, List.cons_append]
  have cB' : (W.alloc (.cells #[.func (.yield lk) #[] #[]] 89)).cell? ⟨B, 0, none⟩ = some (.pointer (some ⟨p, 0, none⟩)) := Lib.cell?_alloc_some _ cB
  have cP' : (W.alloc (.cells #[.func (.yield lk) #[] #[]] 89)).cell? ⟨p, 2, none⟩ = some (.slice Ac cs.length cc) := Lib.cell?_alloc_some _ cP
  clear cB cP hcell
  gi_wp2_with fail
  have hYc := Cells.fresh W 89 [.func (.yield lk) #[] #[]]
  have hBa := HB.out.alloc (.cells #[.func (.yield lk) #[] #[]] 89)
  have hka : Kept noX W (W.alloc (.cells #[.func (.yield lk) #[] #[]] 89)) := (Kept.refl _ _).alloc _
  generalize W.alloc (.cells #[.func (.yield lk) #[] #[]] 89) = Wa at hYc hBa hka cB' cP' ⊢
  obtain ⟨Y, hYe⟩ : ∃ Y, Y = W.heap.size := ⟨_, rfl⟩
  have hWs := hwW.size
  rw [← hYe] at hYc ⊢
  have hbY : base ≤ Y := by omega
  have hOb : ∀ Ds : List Nat, (∀ D ∈ Ds, base ≤ D) → ∀ k, ownW B Y Ds k → base ≤ k := fun Ds h k hk => by
    rcases hk with rfl | rfl | hk
    · exact hbB
    · exact hbY
    · exact h k hk
  have hJa : J (ownW B Y []) [] Wa := by
    refine hst _ _ W Wa (hOb [] (fun _ h => by cases h)) (hex _ _ _ _ h0 (fun k hk ho => ?_)) hka.any
    rcases ho with rfl | rfl | ho
    · exact ⟨hbB, hBw⟩
    · omega
    · cases ho
  have HY := Lib.hid hY
  clear hYe hY h0 cB' cP' HB
  refine wpIn_loop_ghost_k (fun m a wr => ∃ (i : Nat) (Ds : List Nat) (xs : List Int), ∃ u3 u4 u5 u6 u7 u8 u11 u12 u13 u14 u15 u16 u17 u18 u19 u20 u21 u22 u23 u24 u25 u26 : Value, (i ≤ cs.length ∧ m = cs.length - i ∧ Cells wr Y 89 [.func (.yield lk) #[] #[]] ∧ Cells wr B 80 [.pointer (some ⟨p, 0, none⟩)] ∧ MarksAt wr Ds ∧ (∀ D ∈ Ds, base ≤ D) ∧ xs = (cs.take i).flatten ∧ J (ownW B Y Ds) xs wr) ∧ a = { tmps := #[.func (.yield lk) #[] #[], .pointer (some ⟨B, 0, none⟩), .pointer (some ⟨Y, 0, none⟩), u3, u4, u5, u6, u7, u8, .int .i64 (cs.length : Nat), .int .i64 (i : Nat), u11, u12, u13, u14, u15, u16, u17, u18, u19, u20, u21, u22, u23, u24, u25, u26], defers := marks Ds }) (cs.length) ⟨0, [], [], _, _, _, _, _, _, _, _, _, _, _, _, _, _, _, _, _, _, _, _, _, _, ?atStart9, rfl⟩ ?_
  rotate_left
  · rintro m a wr ⟨i, Ds, xs, u3, u4, u5, u6, u7, u8, u11, u12, u13, u14, u15, u16, u17, u18, u19, u20, u21, u22, u23, u24, u25, u26, hrel, rfl⟩ J9 K9 hJ9 hK9
    obtain ⟨hi, rfl, hYr, hBr, hM, hDb, rfl, hJr⟩ := hrel
    have hK := hJK _ _ _ hJr
    by_cases hlt : i < cs.length
    · have hdl : decide ((i : Int) < (cs.length : Int)) = true := by simpa using hlt
      obtain ⟨rfl, hgc, A, c, hcc, hrow, hln⟩ := HQ.out i hlt
      have cP : wr.cell? ⟨p, 2, none⟩ = some (.slice (some ⟨gc, 0, none⟩) cs.length cc) := (World.cell?_of_block (hK.block p (block_lt_of HCE.out) (by omega))).trans HCE.out
      have cC : wr.cell? ⟨gc, i, none⟩ = some (.slice A cs[i].length c) := (World.cell?_of_block (hK.block gc (block_lt_of hcc) (by omega))).trans hcc
      have cB := hBr.cell 0
      simp only [List.getElem?_cons_zero] at cB
      have HROW := Lib.hid hrow
      have HYr := Lib.hid hYr
      have HBr := Lib.hid hBr
      have HM := Lib.hid hM
      have HDB := Lib.hid hDb
      have HFT := Lib.hid (flat_take hlt)
      have hBrl := hBr.lt
      clear hcc hrow hYr hBr hM hDb
      gi_wp2_with fail
      refine ⟨trivial, rfl, ?_⟩
      refine (callsIn_wide.2 (each_any gc i A cs[i].length c wr cC)).mono ?_
      rintro e W7 ⟨rfl, hW7⟩
      have hB7 : Cells W7 wr.heap.size 22 [.slice A cs[i].length c] := by rw [hW7]; exact Cells.fresh wr 22 _
      have hk7 : Kept noX wr W7 := by rw [hW7]; exact (Kept.refl _ _).alloc _
      have hs7 := hB7.lt
      have hOb2 := hOb _ HDB.out
      clear hW7 cP cC cB
      gi_wp2_with fail
      refine wpIn_rangeD (gf := 89) (lb := #[.pointer (some ⟨wr.heap.size, 0, none⟩)]) rfl (enters_of Try.func89 (by kernel_rfl) rfl)
        (values_seq (w0 := w0) (b0 := b0) cs[i] A c (by omega) HROW.out wr.heap.size wr.heap.size (Nat.le_refl _) W7 hB7) (by omega) (Kept.refl _ _) (fun _ => rfl)
        (fun O pre W => WtI J lk B Y p Ds O ((cs.take i).flatten ++ pre) W)
        (fun c O pre W => c = .ret ∧ Jx (fun k => O k ∨ ownW B Y Ds k) ((cs.take i).flatten ++ pre) W ∧ MarksAt W Ds ∧ ∀ D ∈ Ds, ¬ O D)
        (fun O pre x a1 W => WtI J lk B Y p Ds O ((cs.take i).flatten ++ pre) W ∧ (∀ k, O k → k < W.heap.size) ∧ ∃ u0 u1 u3 u5 u6 u7 u8 u9 u10 u11 u12 u13 u14 u15 u16 u17 u18 u19 u20 u21 u22 u23 u24 u25 u26 : Value, a1 = { tmps := #[u0, u1, .pointer (some ⟨Y, 0, none⟩), u3, .int .i64 x, u5, u6, u7, u8, u9, u10, u11, u12, u13, u14, u15, u16, u17, u18, u19, u20, u21, u22, u23, u24, u25, u26], defers := [] })
        ?hIK ?hI ?hIe ?hIx ?hAx ?h0 ?hassign ?hbody ?hdone ?hstop
      case hIK => intro O pre W1 h; exact hJK _ _ _ h.1
      case hI => intro O pre W1 W2 hO h hk; exact h.stab hst hOb2 (fun k hk => by have := hO k hk; omega) hk
      case hIe => intro O O' pre W1 h hO; exact h.ext hex hO
      case hIx =>
        rintro c O pre W1 W2 hO ⟨hc, h1, h2, h3⟩ hk
        exact ⟨hc, hstx _ _ W1 W2 (fun k hk => hk.elim (fun hk => by have := hO k hk; omega) (hOb2 k)) h1 (hk.mono (fun _ _ h => .inl h)), h2.kept hk h3, h3⟩
      case hAx =>
        rintro O pre x a1 W1 W2 hO ⟨h1, h2, hrest⟩ hk
        exact ⟨h1.stab hst hOb2 (fun k hk => by have := hO k hk; omega) hk, fun k ho => Nat.lt_of_lt_of_le (h2 k ho) hk.size, hrest⟩
      case h0 =>
        have hw : WtI J lk B Y p Ds (fun k => wr.heap.size ≤ k ∧ k < W7.heap.size) ((cs.take i).flatten ++ []) wr := by
          rw [List.append_nil]
          refine ⟨hex _ _ _ _ hJr (fun k hk ho => ho.elim (fun ho => by omega) id), HYr.out, HBr.out, HM.out, fun k hk ho => ?_⟩
          have : k < wr.heap.size := by
            rcases hk with rfl | rfl | hk
            · exact HBr.out.lt
            · exact HYr.out.lt
            · exact HM.out.lt hk
          omega
        exact hw.stab hst hOb2 (fun k hk => by omega) hk7.any
      case hassign =>
        rintro lq O pre x Wq hO hOs hmq hwi
        simp only [encN]
        gi_wp2
        exact ⟨Kept.refl _ _, hwi, hOs, _, _, _, _, _, _, _, _, _, _, _, _, _, _, _, _, _, _, _, _, _, _, _, _, _, rfl⟩
      case hbody =>
        rintro lq O pre x a1 Wq hO hmq ⟨hwi, hOs, u0, u1, u3, u5, u6, u7, u8, u9, u10, u11, u12, u13, u14, u15, u16, u17, u18, u19, u20, u21, u22, u23, u24, u25, u26, rfl⟩
        have hOall : ∀ k, (O k ∨ ownW B Y Ds k) → base ≤ k := fun k hk => hk.elim (fun hk => by have := hO k hk; omega) (hOb2 k)
        have hmq2 : ((cs.take i).flatten ++ pre) ++ [x] <+: cs.flatten := by
          rw [List.append_assoc]
          refine List.IsPrefix.trans ?_ (flat_prefix cs (i + 1))
          rw [HFT.out]
          exact (List.prefix_append_right_inj _).2 hmq
        have hy0 := HY.out (fun k => O k ∨ ownW B Y Ds k) ((cs.take i).flatten ++ pre) x Wq hOall (fun k hk => hk.elim (hOs k) (fun h => hwi.own_lt h)) hmq2 hwi.1
        obtain ⟨yfn, ytmps, yas, ybd, hy, hR⟩ := hy0
        unfold encN at hy
        have HR := Lib.hid hR
        have cY := hwi.2.1.cell 0
        simp only [List.getElem?_cons_zero] at cY
        have HWI := Lib.hid hwi
        clear hR hwi hOs hmq hmq2
        gi_wp2_with fail
        refine ⟨rfl, ?_⟩
        refine HR.out.mono ?_
        clear HR hy cY
        rintro e W6 (⟨rfl, _, hJ6, hk6⟩ | ⟨rfl, hJx6, hk6⟩)
        · rw [List.append_assoc] at hJ6
          gi_wp2
          exact ⟨trivial, hk6.mono (fun k _ h ho => h (.inl ho)), hJ6, HWI.out.2.1.kept hk6 (fun h => h (.inr (.inr (.inl rfl)))), HWI.out.2.2.1.kept hk6 (fun h => h (.inr (.inl rfl))), HWI.out.2.2.2.1.kept hk6 (fun D hD h => h (.inr (.inr (.inr hD)))), HWI.out.2.2.2.2⟩
        · rw [List.append_assoc] at hJx6
          gi_wp2
          exact ⟨hk6.mono (fun k _ h ho => h (.inl ho)), rfl, hJx6, HWI.out.2.2.2.1.kept hk6 (fun D hD h => h (.inr (.inr (.inr hD)))), fun D hD => HWI.out.2.2.2.2 D (.inr (.inr hD))⟩
      case hdone =>
        rintro D zs O W8 hD hO hOD hzs hI8 hDd
        obtain rfl : zs = cs[i] := hzs
        have HI8 := Lib.hid hI8
        have HDd := Lib.hid hDd
        clear hI8 hDd
        gi_wp2
        refine Handed.intro (cs.length - (i + 1)) (by omega) ?_
        refine hJ9 _ _ _ ⟨i + 1, D :: Ds, _, _, _, _, _, _, _, _, _, _, _, _, _, _, _, _, _, _, _, _, _, _, _, ⟨by omega, rfl, HI8.out.2.1, HI8.out.2.2.1, HI8.out.2.2.2.1.cons HDd.out (fun h => HI8.out.2.2.2.2 D (.inr (.inr h)) hOD), ?_, rfl, ?_⟩, rfl⟩
        · intro E hE
          rcases List.mem_cons.1 hE with rfl | hE
          · have := hO _ hOD; omega
          · exact HDB.out E hE
        · rw [HFT.out]
          refine hex _ _ _ _ HI8.out.1 (fun k _ hk => ?_)
          rcases hk with hk | hk | hk
          · exact .inr (.inl hk)
          · exact .inr (.inr (.inl hk))
          · rcases List.mem_cons.1 hk with rfl | hk
            · exact .inl hOD
            · exact .inr (.inr (.inr hk))
      case hstop =>
        rintro D c pre O W8 hD hO hOD hSp ⟨rfl, hJx8, hM8, hn8⟩ hDd
        have hOall : ∀ k, (O k ∨ ownW B Y Ds k) → base ≤ k := fun k hk => hk.elim (fun hk => by have := hO k hk; omega) (hOb2 k)
        have hpart2 : (cs.take i).flatten ++ pre <+: cs.flatten := by
          refine List.IsPrefix.trans ?_ (flat_prefix cs (i + 1))
          rw [HFT.out]
          exact (List.prefix_append_right_inj _).2 hSp
        have HM9 := Lib.hid (hM8.cons hDd (fun h => hn8 D h hOD))
        have HJX := Lib.hid hJx8
        clear hM8 hDd hJx8
        gi_wp2
        refine leave_marks (D :: Ds) W8 HM9.out (fun W' hk' => ⟨_, results_none rfl _ _ _, ⟨_, rfl⟩, .inr ⟨_, hpart2, _, hOall, hstx _ _ W8 W' hOall HJX.out (hk'.mono (fun k _ hk => ?_))⟩⟩)
        rcases List.mem_cons.1 hk with rfl | hk
        · exact .inl hOD
        · exact .inr (.inr (.inr hk))
    · have hil : i = cs.length := by omega
      have hdl : decide ((i : Int) < (cs.length : Int)) = false := by simp; omega
      have HM := Lib.hid hM
      have HDB := Lib.hid hDb
      clear hYr hBr hM hDb
      gi_wp2
      refine leave_marks Ds wr HM.out (fun W' hk' => ⟨_, results_none rfl _ _ _, ⟨_, rfl⟩, .inl ⟨_, ?_, _, hOb _ HDB.out, hst _ _ wr W' (hOb _ HDB.out) hJr (hk'.mono (fun k _ hk => .inr (.inr hk)))⟩⟩)
      show _ = cs.flatten
      rw [hil, List.take_length]
  case atStart9 => exact ⟨Nat.zero_le _, rfl, hYc, hBa, MarksAt.nil _, (fun _ h => by cases h), rfl, hJa⟩
end Go.Proofs.Ytehcfahfbdphpaa
