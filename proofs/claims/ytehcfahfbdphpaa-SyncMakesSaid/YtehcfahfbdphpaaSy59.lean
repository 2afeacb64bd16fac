/- Layer 4: the document's New of what may not be (conditions: none). -/
import Derived.Test.YtehcfahfbdphpaaSy38
import Derived.Test.YtehcfahfbdphpaaSy39
namespace Go.Proofs.Ytehcfahfbdphpaa
open Go.RowKit Go.Shelf

set_option maxRecDepth 100000 in
set_option maxHeartbeats 1000000 in
theorem znew_range (m c : Int) (A : Option Addr) (n rc : Nat) (h : m < 0 ∨ 64 < m ∨ c < 0 ∨ 64 < c ∨ 64 < n) (w : World) : Calls Try.prog 13 #[.int .i64 m, .int .i64 c, .slice A n rc] w fun e w' => e = .returned (.tuple #[.agg #[.slice none 0 0, .slice none 0 0, .slice none 0 0, .slice none 0 0, .slice none 0 0], .int .i64 2]) ∧ Kept noX w w' := by
  by_cases h0 : m < 0
  · have e0 : decide (m < 0) = true := by simpa using h0
    clear h
    go_enter Try.func13, Try.ntmps13
    go_wp2_with fail
    refine ret_2 Try.results13 rfl (resVal.box rfl ((Cells.fresh w 33 z5).alloc _) Try.underlying33 rfl (by kernel_rfl)) (resVal.tmp rfl) ?_
    exact ⟨rfl, ((Kept.refl _ _).alloc _).alloc _⟩
  have e0 : decide (m < 0) = false := by simpa using h0
  by_cases h1 : 64 < m
  · have e1 : decide ((64 : Int) < m) = true := by simpa using h1
    clear h
    go_enter Try.func13, Try.ntmps13
    go_wp2_with fail
    refine ret_2 Try.results13 rfl (resVal.box rfl ((Cells.fresh w 33 z5).alloc _) Try.underlying33 rfl (by kernel_rfl)) (resVal.tmp rfl) ?_
    exact ⟨rfl, ((Kept.refl _ _).alloc _).alloc _⟩
  have e1 : decide ((64 : Int) < m) = false := by simpa using h1
  by_cases h2 : c < 0
  · have e2 : decide (c < 0) = true := by simpa using h2
    clear h
    go_enter Try.func13, Try.ntmps13
    go_wp2_with fail
    refine ret_2 Try.results13 rfl (resVal.box rfl ((Cells.fresh w 33 z5).alloc _) Try.underlying33 rfl (by kernel_rfl)) (resVal.tmp rfl) ?_
    exact ⟨rfl, ((Kept.refl _ _).alloc _).alloc _⟩
  have e2 : decide (c < 0) = false := by simpa using h2
  by_cases h3 : 64 < c
  · have e3 : decide ((64 : Int) < c) = true := by simpa using h3
    clear h
    go_enter Try.func13, Try.ntmps13
    go_wp2_with fail
    refine ret_2 Try.results13 rfl (resVal.box rfl ((Cells.fresh w 33 z5).alloc _) Try.underlying33 rfl (by kernel_rfl)) (resVal.tmp rfl) ?_
    exact ⟨rfl, ((Kept.refl _ _).alloc _).alloc _⟩
  have e3 : decide ((64 : Int) < c) = false := by simpa using h3
  have hn : 64 < n := by omega
  have e4 : decide ((64 : Int) < (n : Int)) = true := by simp; omega
  clear h
  go_enter Try.func13, Try.ntmps13
  go_wp2_with fail
  refine ret_2 Try.results13 rfl (resVal.box rfl ((Cells.fresh w 33 z5).alloc _) Try.underlying33 rfl (by kernel_rfl)) (resVal.tmp rfl) ?_
  exact ⟨rfl, ((Kept.refl _ _).alloc _).alloc _⟩
set_option maxRecDepth 100000 in
set_option maxHeartbeats 4000000 in
theorem znew_room (m c : Nat) (hm : m ≤ 64) (hc : c ≤ 64) (A : Option Addr) (rc : Nat) (rooms : List Int) (hr : rooms.length ≤ 64) (hbad : rooms.all (inI 1 16) = false) (w : World) (hv : RowV w noX (.slice A rooms.length rc) (dI rooms)) :
    Calls Try.prog 13 #[.int .i64 m, .int .i64 c, .slice A rooms.length rc] w fun e w' => e = .returned (.tuple #[.agg #[.slice none 0 0, .slice none 0 0, .slice none 0 0, .slice none 0 0, .slice none 0 0], .int .i64 2]) ∧ Kept noX w w' := by
  have hmL := run_makeL c hc
  have hmS := run_makeL64 rooms.length hr
  have hmI := run_makeI rooms.length hr
  have HV := Lib.hid hv
  have HBAD := Lib.hid hbad
  clear hbad
  have e1 : decide ((m : Int) < 0) = false := by simp
  have e2 : decide ((64 : Int) < (m : Int)) = false := by simp; omega
  have e3 : decide ((c : Int) < 0) = false := by simp
  have e4 : decide ((64 : Int) < (c : Int)) = false := by simp; omega
  have e5 : decide ((64 : Int) < (rooms.length : Int)) = false := by simp; omega
  obtain ⟨i0, hi0, hz0, hz1, hz2⟩ := info_parts infoI
  clear hv
  go_enter Try.func13, Try.ntmps13
  go_wp2_with fail
  have hI : NwI w 0 ((w.alloc (.cells #[.slice none 0 0, .slice none 0 0, .slice none 0 0, .slice none 0 0, .slice none 0 0] 33)).alloc (.cells #[.slice none 0 0, .slice none 0 0, .slice none 0 0, .slice none 0 0, .slice none 0 0] 33)) := by
    have h2 := Cells.fresh (w.alloc (.cells #[.slice none 0 0, .slice none 0 0, .slice none 0 0, .slice none 0 0, .slice none 0 0] 33)) 33 z5
    rw [World.size_alloc] at h2
    exact ⟨.slice none 0 0, h2, (Cells.fresh w 33 z5).alloc _, World.ownsRow_nil _ _ _ _, ((Kept.refl _ _).alloc _).alloc _⟩
  go_loopw [9] (fun i wr => ∃ k : Nat, k ≤ m ∧ i = .int .i64 k ∧ NwI w k wr) (fun i _ => m - (intOf i).toNat)
  case atStart => exact ⟨0, Nat.zero_le _, rfl, hI⟩
  case round =>
    obtain ⟨k, hk, rfl, v, hC, hC6, hO, hkw⟩ := hrel
    obtain ⟨A0, n0, cc0, rfl⟩ := own_form0 hO
    by_cases hlt : k < m
    · have hdl : decide ((k : Int) < (m : Int)) = true := by simpa using hlt
      have x0 := hC.cell 0
      simp only [List.getElem?_cons_zero] at x0
      have HC := Lib.hid hC
      have HC6 := Lib.hid hC6
      have HO0 := Lib.hid hO
      have HO := Lib.hid (hO.alloc (.cells #[.int .i64 (-1)] 3))
      have HN := Lib.hid (cell_one_new wr (.int .i64 (-1)) 3)
      have hks := hkw.size
      have hBl := hC.lt
      clear hC hC6 hO
      go_wp2_with (at_builtin; refine wpList_append_own_at _ rfl _ _ 22 rfl w.heap.size 3 i0 (.int .i64 0) 1 8 Try.underlying22 hi0 hz0 hz1 hz2 rfl (by decide) (.slice A0 n0 cc0) k (List.replicate k (.int .i64 (-1))) rfl HO.out ⟨wr.heap.size, 0, none⟩ 1 1 [.int .i64 (-1)] rfl rfl HN.out (by intro u hu; obtain rfl := List.mem_singleton.1 hu; rfl) (by unfold maxLen; omega) (by omega) (by rw [World.size_alloc]; omega) ?_
                   intro v' W5 hown' hgrow _ hat
                   have hk5 : Kept (fun k => (Value.slice A0 n0 cc0).ownBlock = some k) wr W5 := ((Kept.refl _ _).alloc _).grown hgrow (fun k hk _ => hk)
                   have hC5 := HC.out.kept hk5 (fun e => own_ne HO0.out HC.out (by decide) e)
                   have c5 := hC5.cell 0
                   have f5 := hC5.free 0
                   simp only [List.getElem?_cons_zero] at c5
                   have HC5 := Lib.hid hC5
                   have HO5 := Lib.hid hown'
                   have HAT := Lib.hid hat
                   obtain ⟨A', n', c', rfl⟩ := own_form0 hown'
                   clear hC5 hown' hat hgrow)
      have hloc := HAT.out
      rw [World.size_alloc] at hloc
      have hkc : Kept (· = w.heap.size + 1) W5 (W5.setCell ⟨w.heap.size + 1, 0, none⟩ (.slice A' n' c')) := (Kept.refl (· = w.heap.size + 1) W5).setCell (p := ⟨w.heap.size + 1, 0, none⟩) (fun _ => rfl) _
      refine ⟨⟨k + 1, hlt, by go_num, .slice A' n' c', HC5.out.put 0 _, (HC6.out.kept hk5 (fun e => own_ne HO0.out HC6.out (by decide) e)).kept hkc (by omega), ?_, (hkw.join hk5 (fun i hi hl => by have := own_ge HO0.out hi; omega)).own hkc (by omega)⟩, by simp [intOf]; omega⟩
      rw [List.replicate_succ']
      exact own_kept HO5.out hkc (fun g hg e => own_ne HO5.out HC5.out (by decide) (by rw [hg, e]))
    · have hdl : decide ((k : Int) < (m : Int)) = false := by simpa using hlt
      obtain rfl : k = m := by omega
      have x1 := hC.cell 1
      have f1 := hC.free 1
      simp only [List.getElem?_cons_zero, List.getElem?_cons_succ] at x1
      have HC := Lib.hid hC
      have HC6 := Lib.hid hC6
      have HO0 := Lib.hid hO
      have hks := hkw.size
      have hBl := hC.lt
      clear hC hC6 hO
      go_wp2_with fail
      have hkc : Kept (· = w.heap.size + 1) wr (wr.setCell ⟨w.heap.size + 1, 1, none⟩ (.slice (some ⟨wr.heap.size, 0, none⟩) c c)) := (Kept.refl (· = w.heap.size + 1) _).setCell (p := ⟨w.heap.size + 1, 1, none⟩) (fun _ => rfl) _
      have hsz : (wr.setCell ⟨w.heap.size + 1, 1, none⟩ (.slice (some ⟨wr.heap.size, 0, none⟩) c c)).heap.size = wr.heap.size := by simp [World.setCell]
      have hCs := HC.out.put 1 (.slice (some ⟨wr.heap.size, 0, none⟩) c c)
      have hC6s := HC6.out.kept hkc (by omega)
      have hO0s := own_kept HO0.out hkc (fun g hg e => own_ne HO0.out HC.out (by decide) (by rw [hg, e]))
      have hkws := hkw.own hkc (by omega)
      have hJ : NwJ w k c rooms 0 ((wr.setCell ⟨w.heap.size + 1, 1, none⟩ (.slice (some ⟨wr.heap.size, 0, none⟩) c c)).alloc (.cells (List.replicate c (.slice none 0 0)).toArray 22)) := by
        have hg := Cells.fresh (wr.setCell ⟨w.heap.size + 1, 1, none⟩ (.slice (some ⟨wr.heap.size, 0, none⟩) c c)) 22 (List.replicate c (.slice none 0 0))
        rw [hsz] at hg
        exact ⟨.slice A0 n0 cc0, .slice none 0 0, wr.heap.size, hCs.alloc _, hC6s.alloc _, hO0s.alloc _, World.ownsRow_nil _ _ _ _, ⟨hg, hks⟩, ⟨fun g _ (h : (Value.slice none 0 0).ownBlock = some g) => (by cases h), hkws.alloc _⟩⟩
      rw [List.toArray_replicate] at hJ
      clear hkc hsz hCs hC6s hO0s hkws
      go_loopw [10] (fun i wr => ∃ j : Nat, j ≤ rooms.length ∧ i = .int .i64 j ∧ NwJ w k c rooms j wr ∧ (rooms.take j).all (inI 1 16) = true) (fun i _ => rooms.length - (intOf i).toNat)
      case atStart => exact ⟨0, Nat.zero_le _, rfl, hJ, by simp⟩
      case round =>
        clear hJ HC HC6 HO0 hks hBl x1 f1 hkw hI
        obtain ⟨j, hj, rfl, ⟨v0, v2, gc, hC, hC6, hO0, hO2, ⟨hCg, hgc⟩, hne, hkw⟩, hall⟩ := hrel
        obtain ⟨A1, n1, cc1, rfl⟩ := own_form0 hO0
        obtain ⟨A2, n2, cc2, rfl⟩ := own_form0 hO2
        by_cases hlt : j < rooms.length
        · have hdl : decide ((j : Int) < (rooms.length : Int)) = true := by simpa using hlt
          obtain ⟨b, o, c3, hveq, hcell, _⟩ := rowN_at HV.out hlt
          injection hveq with hA _ hcq
          subst hA hcq
          by_cases hin : 1 ≤ rooms[j] ∧ rooms[j] ≤ 16
          rotate_left
          · have b0 := hC6.cell 0
            have b1 := hC6.cell 1
            have b2 := hC6.cell 2
            have b3 := hC6.cell 3
            have b4 := hC6.cell 4
            have d0 := hC6.free 0
            have d1 := hC6.free 1
            have d2 := hC6.free 2
            have d3 := hC6.free 3
            have d4 := hC6.free 4
            simp only [z5, List.getElem?_cons_zero, List.getElem?_cons_succ] at b0 b1 b2 b3 b4
            have q0 := hkw.cell hcell
            have HC6 := Lib.hid hC6
            have HKW := Lib.hid hkw
            have hks := hkw.size
            have hbl := hC6.lt
            clear hC6 hkw hC hO0 hO2 hCg hall hcell
            generalize rooms[j] = rm at *
            by_cases hg : rm < 1
            · have g1 : decide (rm < 1) = true := by simpa using hg
              go_wp2_with fail
              refine ret_2 Try.results13 rfl (resVal.box rfl (((((HC6.out.put 0 _).put 1 _).put 2 _).put 3 _).put 4 _) Try.underlying33 rfl (by kernel_rfl)) (resVal.tmp rfl) ?_
              exact ⟨rfl, HKW.out.own (Kept.put5 _ _ _ _ _ _ _) (Nat.le_refl _)⟩
            · have g1 : decide (rm < 1) = false := by simpa using hg
              have g2 : decide ((16 : Int) < rm) = true := by simp; omega
              go_wp2_with fail
              refine ret_2 Try.results13 rfl (resVal.box rfl (((((HC6.out.put 0 _).put 1 _).put 2 _).put 3 _).put 4 _) Try.underlying33 rfl (by kernel_rfl)) (resVal.tmp rfl) ?_
              exact ⟨rfl, HKW.out.own (Kept.put5 _ _ _ _ _ _ _) (Nat.le_refl _)⟩
          have hall2 : (rooms.take (j + 1)).all (inI 1 16) = true := by
            rw [List.take_succ_eq_append_getElem hlt, List.all_append, hall]
            simp [inI, hin]
          have HALL := Lib.hid hall2
          clear hall hall2
          have g1 : decide (rooms[j] < 1) = false := by simp; omega
          have g2 : decide (16 < rooms[j]) = false := by simp; omega
          have htk : (rooms.take (j + 1)).map (Value.int .i64) = (rooms.take j).map (Value.int .i64) ++ [.int .i64 rooms[j]] := by rw [List.take_succ_eq_append_getElem hlt, List.map_append]; rfl
          have x2 := hC.cell 2
          have f2 := hC.free 2
          simp only [List.getElem?_cons_zero, List.getElem?_cons_succ] at x2
          have q0 := hkw.cell hcell
          generalize rooms[j] = rm at *
          have HTK := Lib.hid htk
          have HC := Lib.hid hC
          have HC6 := Lib.hid hC6
          have HO0 := Lib.hid hO0
          have HO2 := Lib.hid hO2
          have HCG := Lib.hid hCg
          have HNE := Lib.hid hne
          have HOA := Lib.hid ((hO2.alloc (.cells #[.int .i64 rm] 3)).drew)
          have HN := Lib.hid (cell_one_new wr (.int .i64 rm) 3)
          have mixed : Try.prog.follows .mixedOrders = true := by kernel_rfl
          have hks := hkw.size
          have x2a : (wr.alloc (.cells #[.int .i64 rm] 3)).drew.cell? ⟨w.heap.size + 1, 2, none⟩ = some (.slice A2 n2 cc2) := (((Kept.refl noX wr).alloc _).drew).cell x2
          clear hC hC6 hO0 hO2 hCg hne htk hcell hin
          go_wp2_with fail
          go_region_law_o (refine step_append_at rfl (.tmp 65) (.tmp 70) 22 rfl w.heap.size 3 i0 (.int .i64 0) 1 8 Try.underlying22 hi0 hz0 hz1 hz2 rfl (by decide) (.slice A2 n2 cc2) j ((rooms.take j).map (.int .i64)) (by simp [Act.eval]) HOA.out ⟨wr.heap.size, 0, none⟩ 1 1 [.int .i64 rm] (by simp [Act.eval]) rfl HN.out (by intro u hu; obtain rfl := List.mem_singleton.1 hu; rfl) (by unfold maxLen; omega) (by omega) (by show _ ≤ (wr.alloc _).heap.size; rw [World.size_alloc]; omega) ?_; intro v' W5 hown' hgrow hat; (have hk5 : Kept (fun k => (Value.slice A2 n2 cc2).ownBlock = some k) wr W5 := ((((Kept.refl _ _).alloc _).drew).grown hgrow (fun k hk _ => hk))); (have hC5 := HC.out.kept hk5 (fun e => own_ne HO2.out HC.out (by decide) e)); (have c5 := hC5.cell 2); (have f5 := hC5.free 2); simp only [List.getElem?_cons_zero, List.getElem?_cons_succ] at c5; (have HC5 := Lib.hid hC5); (have HO5 := Lib.hid hown'); (have HAT := Lib.hid hat); obtain ⟨A5, n5, c5', rfl⟩ := own_form0 hown'; clear hC5 hown' hgrow hat)
          all_goals
            have hloc : (Value.slice A5 n5 c5').ownBlock = (Value.slice A2 n2 cc2).ownBlock ∨ (Value.slice A5 n5 c5').ownBlock = some (wr.heap.size + 1) := by
              have h := HAT.out
              rwa [show ((wr.alloc (.cells #[.int .i64 rm] 3)).drew).heap.size = wr.heap.size + 1 from World.size_alloc _ _] at h
            have hkc : Kept (· = w.heap.size + 1) W5 (W5.setCell ⟨w.heap.size + 1, 2, none⟩ (.slice A5 n5 c5')) := (Kept.refl (· = w.heap.size + 1) W5).setCell (p := ⟨w.heap.size + 1, 2, none⟩) (fun _ => rfl) _
            have hnew : ∀ g, (Value.slice A1 n1 cc1).ownBlock = some g → (Value.slice A5 n5 c5').ownBlock ≠ some g := fun g hg he => by
              rcases hloc with h1 | h1
              · exact HNE.out g hg (h1.symm.trans he)
              · have h2 : wr.heap.size + 1 = g := Option.some.inj (h1.symm.trans he)
                have := own_lt HO0.out hg
                omega
            have hrel : NwJ w k c rooms (j + 1) (W5.setCell ⟨w.heap.size + 1, 2, none⟩ (.slice A5 n5 c5')) := by
              refine ⟨.slice A1 n1 cc1, .slice A5 n5 c5', gc, HC5.out.put 2 _, (HC6.out.kept hk5 (fun e => own_ne HO2.out HC6.out (by decide) e)).kept hkc (by omega), own_kept (own_kept HO0.out hk5 (fun g hg e => HNE.out g hg e)) hkc (fun g hg e => own_ne HO0.out HC.out (by decide) (by rw [hg, e])), ?_, ⟨(HCG.out.kept hk5 (fun e => own_ne HO2.out HCG.out (by decide) e)).kept hkc (cells_ne HCG.out HC.out (by decide)), hgc⟩, ⟨hnew, (hkw.join hk5 (fun i hi hl => by have := own_ge HO2.out hi; omega)).own hkc (by omega)⟩⟩
              rw [HTK.out]
              exact own_kept HO5.out hkc (fun g hg e => own_ne HO5.out HC5.out (by decide) (by rw [hg, e]))
            have HREL := Lib.hid hrel
            clear hrel hnew hkc hloc HC HC6 HO0 HO2 HCG HNE HOA HN HC5 HO5 HAT
            (try simp only [Act.put, List.getElem_toArray, List.getElem_cons_succ, List.getElem_cons_zero, List.setIfInBounds_toArray, List.set_cons_zero, List.set_cons_succ])
            go_wp2
            go_roundw
            case rel => exact ⟨j + 1, hlt, by go_num, HREL.out, HALL.out⟩
            case measure => simp [intOf]; omega
        · have hx : j = rooms.length := by omega
          rw [hx, List.take_length, HBAD.out] at hall
          cases hall
end Go.Proofs.Ytehcfahfbdphpaa
