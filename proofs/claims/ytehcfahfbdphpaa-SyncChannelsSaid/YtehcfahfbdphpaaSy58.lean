/- The law SyncChannels: which values a channel has, by both (conditions: none). -/
import Derived.Test.YtehcfahfbdphpaaSy57
import Derived.Test.YtehcfahfbdphpaaSy42
namespace Go.Proofs.Ytehcfahfbdphpaa
open Go.RowKit Go.Shelf

/-- The loops of SyncChannels: at most so many calls. -/
def LkN (w wr : World) (gW p : Nat) (R0 : RS) (m : Nat) : Prop := ∃ n, n ≤ m ∧ LkI w wr gW p R0 n
theorem LkN.keep {w wr W' : World} {gW p m : Nat} {R0 : RS} (h : LkN w wr gW p R0 m) (hk : Kept noX wr W') : LkN w W' gW p R0 m := by
  obtain ⟨n, h1, h2⟩ := h
  exact ⟨n, h1, h2.keep hk⟩
theorem chans_skip (room : Int) (A B : Option Addr) (n c n2 c2 : Nat) (w : World) (h : room < 1 ∨ 16 < room ∨ 100 < n) : Calls Try.prog 6 #[.int .i64 room, .slice A n c, .slice B n2 c2] w fun e w' => e = .returned (.bool true) ∧ Kept noX w w' := by
  have HW := Lib.hid (works_any w)
  by_cases h1 : room < 1
  · have e1 : decide (room < 1) = true := by simpa using h1
    clear h
    go_enter Try.func6, Try.ntmps6
    go_wp2_with (go_at_call 11; refine HW.out.mono ?_; rintro e W1 ⟨rfl, hk⟩)
    go_ret
    exact ⟨rfl, hk⟩
  · have e1 : decide (room < 1) = false := by simpa using h1
    by_cases h2 : 16 < room
    · have e2 : decide (16 < room) = true := by simpa using h2
      clear h
      go_enter Try.func6, Try.ntmps6
      go_wp2_with (go_at_call 11; refine HW.out.mono ?_; rintro e W1 ⟨rfl, hk⟩)
      go_ret
      exact ⟨rfl, hk⟩
    · have e2 : decide (16 < room) = false := by simpa using h2
      have e3 : decide ((100 : Int) < (n : Int)) = true := by simp; omega
      clear h
      go_enter Try.func6, Try.ntmps6
      go_wp2_with (go_at_call 11; refine HW.out.mono ?_; rintro e W1 ⟨rfl, hk⟩)
      go_ret
      exact ⟨rfl, hk⟩
set_option maxRecDepth 100000 in
set_option maxHeartbeats 8000000 in
theorem chans_any (room : Int) (A B : Option Addr) (c c2 : Nat) (l takes : List Int) (w : World) (hA : RowV w noX (.slice A l.length c) (dI l)) (hB : RowV w noX (.slice B takes.length c2) (dI takes)) : Calls Try.prog 6 #[.int .i64 room, .slice A l.length c, .slice B takes.length c2] w fun e w' => e = .returned (.bool true) ∧ Kept noX w w' := by
  by_cases h : room < 1 ∨ 16 < room ∨ 100 < l.length
  · exact chans_skip room A B l.length c takes.length c2 w h
  have e1 : decide (room < 1) = false := by simp; omega
  have e2 : decide (16 < room) = false := by simp; omega
  have e3 : decide ((100 : Int) < (l.length : Int)) = false := by simp; omega
  have hr1 : 1 ≤ room := by omega
  have hr2 : room ≤ 16 := by omega
  have hl : l.length ≤ 100 := by omega
  have htl : takes.length ≤ 9223372036854775807 := by obtain ⟨_, _, _, hv, h1, h2, h3⟩ := hB.form; injection hv with _ h4 _; unfold maxLen at h3; omega
  have hrow : ∀ W : World, RowV (W.alloc (.cells #[.int .i64 room] 3)) noX (.slice (some ⟨W.heap.size, 0, none⟩) 1 1) ([room].map (D.int .i64)) := fun W => own_row (t := 3) (cells_own (Cells.fresh W 3 [.int .i64 room]) rfl rfl (by omega) (by unfold maxLen; omega) rfl) (fun _ _ h => h)
  have HN := Lib.hid (new_any 0 0 _ 1 [room] (by simp) _ (hrow w))
  have hok : okN 0 0 [room] = true := by simp [okN, inI]; omega
  have HA := Lib.hid hA
  have HB := Lib.hid hB
  have HROW := Lib.hid hrow
  have hka : Kept noX w (w.alloc (.cells #[.int .i64 room] 3)) := (Kept.refl _ _).alloc _
  have HKA := Lib.hid hka
  clear h hA hB hrow hka
  go_enter Try.func6, Try.ntmps6
  go_wp2_with fail
  refine HN.out.mono ?_
  rintro e W1 (⟨_, p, T, rfl, h1, h2, h3⟩ | ⟨hf, _⟩)
  rotate_left
  · rw [hok] at hf; cases hf
  have HZ := Lib.hid (znew_ok 0 0 (by omega) (by omega) _ 1 [room] (by simp) (by simp [inI]; omega) _ (HROW.out W1))
  have H1 := Lib.hid h1
  have H2 := Lib.hid (show ∀ g, T g ≠ 0 → w.heap.size ≤ g from fun g hg => by have := h2 g hg; have := HKA.out.size; omega)
  have H3 := Lib.hid (HKA.out.trans h3)
  clear h1 h2 h3
  go_wp2_with fail
  refine HZ.out.mono ?_
  rintro e W2 ⟨vs, rfl, hR, hk2⟩
  have hL0 := like_init 0 0 [room]
  have hO0 := ok_init (m := 0) (c := 0) (rooms := [room]) (by omega) (by omega) (by simp) (by simp [inI]; omega)
  have hZ0 : SzR (initR 0 0 [room]) (initR 0 0 [room]) := SzR.rfl'
  generalize hRR : initR 0 0 [room] = R0 at hR hL0 hO0 hZ0
  have HR2 := Lib.hid hR
  obtain ⟨q0', q1', q2', q3', q4', hvs, r0', r1', r2', r3', r4'⟩ := hR
  obtain ⟨B0, n0', e0, rfl, hn0', -⟩ := r0'.form
  obtain ⟨B1, n1', e1, rfl, hn1', -⟩ := r1'.form
  obtain ⟨B2, n2', e2, rfl, hn2', -⟩ := r2'.form
  obtain ⟨B3, n3', e3, rfl, hn3', -⟩ := r3'.form
  obtain ⟨B4, n4', e4, rfl, hn4', -⟩ := r4'.form
  rw [List.length_map] at hn0' hn1' hn2' hn3' hn4'
  subst hn0' hn1' hn2' hn3' hn4'
  subst hvs
  clear r0' r1' r2' r3' r4'
  have hka1 : Kept noX W1 (W1.alloc (.cells #[.int .i64 room] 3)) := (Kept.refl _ _).alloc _
  have HI : Hid (LkN w (W2.alloc (.cells #[.slice B0 R0.ow.length e0, .slice B1 R0.cs.length e1, .slice B2 R0.rm.length e2, .slice B3 R0.st.length e3, .slice B4 R0.tk.length e4] 33)) W2.heap.size p R0 0) := Lib.hid (by
    have hs1 := H3.out.size
    have hs2 := (hka1.trans hk2).size
    have hts := H1.out.tagLt
    have hka : Kept noX W1 (W2.alloc (.cells #[.slice B0 R0.ow.length e0, .slice B1 R0.cs.length e1, .slice B2 R0.rm.length e2, .slice B3 R0.st.length e3, .slice B4 R0.tk.length e4] 33)) := (hka1.trans hk2).alloc _
    refine ⟨0, Nat.le_refl _, T, _, _, R0, H1.out.keep hka, (HR2.out.mono (fun g hg h => ?_)).keep ((Kept.refl _ _).alloc _), ⟨hL0, hO0, hZ0⟩, Cells.fresh W2 33 _, ⟨Classical.byContradiction fun h => by have := hts _ h; omega, H2.out, by omega⟩, H3.out.trans hka⟩
    rw [World.size_alloc]
    rcases h with h | h
    · exact Nat.lt_succ_of_lt (hts g h)
    · omega)
  clear HR2 hk2 H1 H2 H3 HN HZ hok hka1
  go_wp2_with (go_at_call 23; refine (num_any _ _).mono ?_; rintro e Wn ⟨rfl, rfl⟩)
  go_loopw [12, 11] (fun i fi wr => ∃ k : Nat, k ≤ l.length ∧ i = .int .i64 k ∧ fi = .bool true ∧ LkN w wr W2.heap.size p R0 (k * 21)) (fun i _ _ => l.length - (intOf i).toNat)
  case atStart => exact ⟨0, Nat.zero_le _, rfl, rfl, by simpa using HI.out⟩
  case round =>
    obtain ⟨k, hk, rfl, rfl, n, hnk, T1, vs, S, R, h1, h2, ⟨h3, h4, h5⟩, h6, h7, h8⟩ := hrel
    have HWK := Lib.hid (works_any wr)
    by_cases hlt : k < l.length
    · have hdl : decide ((k : Int) < (l.length : Int)) = true := by simpa using hlt
      obtain ⟨b, o', c', hveq, hcell, _⟩ := rowN_at HA.out hlt
      injection hveq with hAA _ hcc
      subst hAA hcc
      have p0 := h8.cell hcell
      generalize l[k] = x at *
      have HR1 := Lib.hid h2
      have HS1 := Lib.hid h1
      have hgl := h6.lt
      have hts := h1.tagLt
      have mixed : Try.prog.follows .mixedOrders = true := by kernel_rfl
      obtain ⟨q0', q1', q2', q3', q4', hvs, r0', r1', r2', r3', r4'⟩ := h2
      obtain ⟨D0, n0', d0, rfl, hn0', -⟩ := r0'.form
      obtain ⟨D1, n1', d1, rfl, hn1', -⟩ := r1'.form
      obtain ⟨D2, n2', d2, rfl, hn2', -⟩ := r2'.form
      obtain ⟨D3, n3', d3, rfl, hn3', -⟩ := r3'.form
      obtain ⟨D4, n4', d4, rfl, hn4', -⟩ := r4'.form
      rw [List.length_map] at hn0' hn1' hn2' hn3' hn4'
      subst hn0' hn1' hn2' hn3' hn4'
      subst hvs
      clear r0' r1' r2' r3' r4'
      have HL1 := Lib.hid h3
      have HO1 := Lib.hid h4
      have HZ1 := Lib.hid h5
      have HC1 := Lib.hid h6
      have HT1 := Lib.hid h7
      have HK1 := Lib.hid h8
      have HTS := Lib.hid hts
      clear h1 h3 h4 h5 h6 h7 h8 hts hcell HI
      have hka : Kept noX wr wr.drew := (Kept.refl _ _).drew
      have hC0 := HC1.out.keep hka
      have s0 := HC1.out.cell 0
      have s1 := HC1.out.cell 1
      have s2 := HC1.out.cell 2
      have s3 := HC1.out.cell 3
      have s4 := HC1.out.cell 4
      simp only [List.getElem?_cons_zero, List.getElem?_cons_succ] at s0 s1 s2 s3 s4
      have HBB := Lib.hid (both_send (HS1.out.keep hka) (HR1.out.keep hka) HL1.out HO1.out (by omega) (fun g hg => Or.inl hg) (fun g hg => by show g < wr.heap.size; rcases hg with hg | hg; exact HTS.out g hg; omega) 0 0 x)
      have HC0 := Lib.hid hC0
      have HKA := Lib.hid hka
      clear hC0 hka
      go_wp2_with fail
      go_region_with_o (go_at_call 32; refine HBB.out.mono ?_; rintro e W3 ⟨S', R', ⟨vs', T', rfl, hS', hTT, hk3, hR'⟩, hL', hO', hz'⟩; (have hC3 := HC0.out.kept hk3 (fun h => h HT1.out.1)); (have HR3 := Lib.hid hR'); obtain ⟨q0', q1', q2', q3', q4', hvs, r0', r1', r2', r3', r4'⟩ := hR'; obtain ⟨F0, n0', f0, rfl, hn0', -⟩ := r0'.form; obtain ⟨F1, n1', f1, rfl, hn1', -⟩ := r1'.form; obtain ⟨F2, n2', f2, rfl, hn2', -⟩ := r2'.form; obtain ⟨F3, n3', f3, rfl, hn3', -⟩ := r3'.form; obtain ⟨F4, n4', f4, rfl, hn4', -⟩ := r4'.form; rw [List.length_map] at hn0' hn1' hn2' hn3' hn4'; subst hn0' hn1' hn2' hn3' hn4'; subst hvs; clear r0' r1' r2' r3' r4'; (have y0 := hC3.cell 0); (have z0 := hC3.free 0); (have y1 := hC3.cell 1); (have z1 := hC3.free 1); (have y2 := hC3.cell 2); (have z2 := hC3.free 2); (have y3 := hC3.cell 3); (have z3 := hC3.free 3); (have y4 := hC3.cell 4); (have z4 := hC3.free 4); simp only [List.getElem?_cons_zero, List.getElem?_cons_succ] at y0 y1 y2 y3 y4; (have HS' := Lib.hid hS'); (have HTT := Lib.hid hTT); (have HK3 := Lib.hid hk3); (have HL' := Lib.hid hL'); (have HO' := Lib.hid hO'); (have HZ' := Lib.hid hz'); (have HC3 := Lib.hid hC3); clear hS' hTT hk3 hL' hO' hz' hC3)
      all_goals
        (try simp only [Act.put, List.getElem_toArray, List.getElem_cons_succ, List.getElem_cons_zero, List.setIfInBounds_toArray, List.set_cons_zero, List.set_cons_succ])
        have hk4 : Kept (· = W2.heap.size) W3 (((((W3.setCell ⟨W2.heap.size, 0, none⟩ (.slice F0 R'.ow.length f0)).setCell ⟨W2.heap.size, 1, none⟩ (.slice F1 R'.cs.length f1)).setCell ⟨W2.heap.size, 2, none⟩ (.slice F2 R'.rm.length f2)).setCell ⟨W2.heap.size, 3, none⟩ (.slice F3 R'.st.length f3)).setCell ⟨W2.heap.size, 4, none⟩ (.slice F4 R'.tk.length f4)) := Kept.put5 _ _ _ _ _ _ _
        have hC4 := ((((HC3.out.put 0 (.slice F0 R'.ow.length f0)).put 1 (.slice F1 R'.cs.length f1)).put 2 (.slice F2 R'.rm.length f2)).put 3 (.slice F3 R'.st.length f3)).put 4 (.slice F4 R'.tk.length f4)
        simp only [List.set_cons_zero, List.set_cons_succ] at hC4
        have hN := LkI.next HT1.out hgl HK1.out HKA.out HS'.out HTT.out HK3.out HR3.out HL'.out HO'.out HZ'.out HZ1.out hk4 hC4
        generalize (((((W3.setCell ⟨W2.heap.size, 0, none⟩ (.slice F0 R'.ow.length f0)).setCell ⟨W2.heap.size, 1, none⟩ (.slice F1 R'.cs.length f1)).setCell ⟨W2.heap.size, 2, none⟩ (.slice F2 R'.rm.length f2)).setCell ⟨W2.heap.size, 3, none⟩ (.slice F3 R'.st.length f3)).setCell ⟨W2.heap.size, 4, none⟩ (.slice F4 R'.tk.length f4)) = W6 at hN ⊢
        have HN := Lib.hid hN
        clear hk4 hC4 hN y0 y1 y2 y3 y4 z0 z1 z2 z3 z4 HS' HTT HK3 HL' HO' HZ' HC3 HR3
        clear HBB HC0 HKA s0 s1 s2 s3 s4 HS1 HR1 HL1 HO1 HZ1 HC1 HT1 HK1 HTS p0
        go_wp2_with fail
        go_loopw [13, 11] (fun a fi wr2 => ∃ j : Nat, j ≤ 20 ∧ a = .int .i64 j ∧ fi = .bool true ∧ LkN w wr2 W2.heap.size p R0 (n + 1 + j)) (fun a _ _ => 20 - (intOf a).toNat)
        case atStart => exact ⟨0, by omega, rfl, rfl, n + 1, by omega, HN.out⟩
        case round =>
          obtain ⟨j, hj, rfl, rfl, n2, hn2, T2, vs2, S2, R2, g1, g2, ⟨g3, g4, g5⟩, g6, g7, g8⟩ := hrel
          have HNN : Hid (LkN w wr W2.heap.size p R0 ((k + 1) * 21)) := Lib.hid ⟨n2, by omega, T2, vs2, S2, R2, g1, g2, ⟨g3, g4, g5⟩, g6, g7, g8⟩
          have HR1 := Lib.hid g2
          have hts := g1.tagLt
          have hgl := g6.lt
          obtain ⟨q0', q1', q2', q3', q4', hvs, r0', r1', r2', r3', r4'⟩ := g2
          obtain ⟨G0, n0', gg0, rfl, hn0', -⟩ := r0'.form
          obtain ⟨G1, n1', gg1, rfl, hn1', -⟩ := r1'.form
          obtain ⟨G2, n2', gg2, rfl, hn2', -⟩ := r2'.form
          obtain ⟨G3, n3', gg3, rfl, hn3', -⟩ := r3'.form
          obtain ⟨G4, n4', gg4, rfl, hn4', -⟩ := r4'.form
          rw [List.length_map] at hn0' hn1' hn2' hn3' hn4'
          subst hn0' hn1' hn2' hn3' hn4'
          subst hvs
          clear r0' r1' r2' r3' r4'
          have HQ := Lib.hid (is_any g1 HR1.out.any g3)
          have HS1 := Lib.hid g1
          have HL1 := Lib.hid g3
          have HO1 := Lib.hid g4
          have HZ1 := Lib.hid g5
          have HC1 := Lib.hid g6
          have HC0 := HC1
          have HT1 := Lib.hid g7
          have HK1 := Lib.hid g8
          have s0 := g6.cell 0
          have s1 := g6.cell 1
          have s2 := g6.cell 2
          have s3 := g6.cell 3
          have s4 := g6.cell 4
          simp only [List.getElem?_cons_zero, List.getElem?_cons_succ] at s0 s1 s2 s3 s4
          clear g1 g3 g4 g5 g6 g7
          by_cases ht1 : k < takes.length
          · have hd1 : decide ((k : Int) < (takes.length : Int)) = true := by simpa using ht1
            obtain ⟨b2, o2, c3, hveq2, hcell2, _⟩ := rowN_at HB.out ht1
            injection hveq2 with hBB _ hcc2
            subst hBB hcc2
            have t0 := g8.cell hcell2
            generalize takes[k] = y at *
            clear g8 hcell2
            by_cases ht2 : (j : Int) < y
            · have hd2 : decide ((j : Int) < y) = true := by simpa using ht2
              by_cases ht3 : j < 20
              · have hd3 : decide ((j : Int) < 20) = true := by simp; omega
                have HBB := Lib.hid (both_recv HS1.out HR1.out HL1.out HO1.out (by omega) (fun g hg => Or.inl hg) (fun g hg => by rcases hg with hg | hg; exact hts g hg; omega) 6 (by decide) 0 0 0)
                have HKA := Lib.hid (Kept.refl noX wr)
                go_wp2_with fail
                refine HBB.out.mono ?_
                rintro e W3 ⟨S', R', ⟨vs', T', rfl, hS', hTT, hk3, hR'⟩, hL', hO', hz'⟩
                have hC3 := HC0.out.kept hk3 (fun h => h HT1.out.1)
                have HR3 := Lib.hid hR'
                obtain ⟨q0', q1', q2', q3', q4', hvs, r0', r1', r2', r3', r4'⟩ := hR'
                obtain ⟨F0, n0', f0, rfl, hn0', -⟩ := r0'.form
                obtain ⟨F1, n1', f1, rfl, hn1', -⟩ := r1'.form
                obtain ⟨F2, n2', f2, rfl, hn2', -⟩ := r2'.form
                obtain ⟨F3, n3', f3, rfl, hn3', -⟩ := r3'.form
                obtain ⟨F4, n4', f4, rfl, hn4', -⟩ := r4'.form
                rw [List.length_map] at hn0' hn1' hn2' hn3' hn4'
                subst hn0' hn1' hn2' hn3' hn4'
                subst hvs
                clear r0' r1' r2' r3' r4'
                have y0 := hC3.cell 0
                have z0 := hC3.free 0
                have y1 := hC3.cell 1
                have z1 := hC3.free 1
                have y2 := hC3.cell 2
                have z2 := hC3.free 2
                have y3 := hC3.cell 3
                have z3 := hC3.free 3
                have y4 := hC3.cell 4
                have z4 := hC3.free 4
                simp only [List.getElem?_cons_zero, List.getElem?_cons_succ] at y0 y1 y2 y3 y4
                have HS' := Lib.hid hS'
                have HTT := Lib.hid hTT
                have HK3 := Lib.hid hk3
                have HL' := Lib.hid hL'
                have HO' := Lib.hid hO'
                have HZ' := Lib.hid hz'
                have HC3 := Lib.hid hC3
                clear hS' hTT hk3 hL' hO' hz' hC3
                have hk4 : Kept (· = W2.heap.size) W3 (((((W3.setCell ⟨W2.heap.size, 0, none⟩ (.slice F0 R'.ow.length f0)).setCell ⟨W2.heap.size, 1, none⟩ (.slice F1 R'.cs.length f1)).setCell ⟨W2.heap.size, 2, none⟩ (.slice F2 R'.rm.length f2)).setCell ⟨W2.heap.size, 3, none⟩ (.slice F3 R'.st.length f3)).setCell ⟨W2.heap.size, 4, none⟩ (.slice F4 R'.tk.length f4)) := Kept.put5 _ _ _ _ _ _ _
                have hC4 := ((((HC3.out.put 0 (.slice F0 R'.ow.length f0)).put 1 (.slice F1 R'.cs.length f1)).put 2 (.slice F2 R'.rm.length f2)).put 3 (.slice F3 R'.st.length f3)).put 4 (.slice F4 R'.tk.length f4)
                simp only [List.set_cons_zero, List.set_cons_succ] at hC4
                have hN := LkI.next HT1.out hgl HK1.out HKA.out HS'.out HTT.out HK3.out HR3.out HL'.out HO'.out HZ'.out HZ1.out hk4 hC4
                have HN := Lib.hid hN
                clear hk4 hC4 hN HS' HTT HK3 HL' HO' HZ' HC3 HR3
                clear HBB HC0 HKA s0 s1 s2 s3 s4 HS1 HR1 HL1 HO1 HZ1 HC1 HT1 HK1 t0 HQ HNN
                go_wp2_with fail
                go_roundw
                case rel => exact ⟨j + 1, by omega, by go_num, by first | rfl | trivial, n2 + 1, by omega, HN.out⟩
                case measure => simp [intOf]; omega
              · have hd3 : decide ((j : Int) < 20) = false := by simp; omega
                clear hts HR1 HS1 HL1 HO1 HZ1 HC1 HC0 HT1 HK1
                go_wp2_with fail
                refine HQ.out.mono ?_
                rintro e W5 ⟨rfl, hk5⟩
                have HM := Lib.hid (HNN.out.keep hk5)
                go_wp2_with fail
                go_roundw
                case rel => exact ⟨k + 1, hlt, by go_num, by first | rfl | trivial, HM.out⟩
                case measure => simp [intOf]; omega
            · have hd2 : decide ((j : Int) < y) = false := by simpa using ht2
              clear hts HR1 HS1 HL1 HO1 HZ1 HC1 HC0 HT1 HK1
              go_wp2_with fail
              refine HQ.out.mono ?_
              rintro e W5 ⟨rfl, hk5⟩
              have HM := Lib.hid (HNN.out.keep hk5)
              go_wp2_with fail
              go_roundw
              case rel => exact ⟨k + 1, hlt, by go_num, by first | rfl | trivial, HM.out⟩
              case measure => simp [intOf]; omega
          · have hd1 : decide ((k : Int) < (takes.length : Int)) = false := by simpa using ht1
            clear hts HR1 HS1 HL1 HO1 HZ1 HC1 HC0 HT1 HK1 g8
            go_wp2_with fail
            refine HQ.out.mono ?_
            rintro e W5 ⟨rfl, hk5⟩
            have HM := Lib.hid (HNN.out.keep hk5)
            go_wp2_with fail
            go_roundw
            case rel => exact ⟨k + 1, hlt, by go_num, by first | rfl | trivial, HM.out⟩
            case measure => simp [intOf]; omega
    · have hdl : decide ((k : Int) < (l.length : Int)) = false := by simpa using hlt
      clear h1 h2 h3 h4 h5 h6 h7 HI
      go_wp2_with fail
      refine HWK.out.mono ?_
      rintro e W4 ⟨rfl, hk4⟩
      go_wp2_with fail
      go_ret
      exact ⟨rfl, h8.trans hk4⟩
end Go.Proofs.Ytehcfahfbdphpaa
