/- Layer 4: the document's New (conditions: none). -/
import Derived.Test.YtehcfahfbdphpaaSy27
import Derived.Test.YtehcfahfbdphpaaSy11
import Derived.Test.YtehcfahfbdphpaaSy25
namespace Go.Proofs.Ytehcfahfbdphpaa
open Go.RowKit Go.Shelf

def initR (m c : Nat) (rooms : List Int) : RS := ⟨List.replicate m (-1), List.replicate c [], rooms, List.replicate rooms.length [], List.replicate rooms.length 0⟩
theorem infoL : (Try.prog.info? 22).map (fun i => (i.zero, i.size, i.bytes)) = some (some (.slice none 0 0), 1, 24) := by kernel_rfl
theorem infoL64 : (Try.prog.info? 47).map (fun i => (i.zero, i.size, i.bytes)) = some (some (.slice none 0 0), 1, 24) := by kernel_rfl
theorem made_one (z : Value) (hz : z.cells = #[z]) (n : Nat) : madeCells z.cells n = (List.replicate n z).toArray := by
  rw [hz]
  simp only [madeCells]
  apply Array.toList_inj.1
  apply List.ext_getElem
  · simp
  · intro i h1 h2
    simp [Nat.mod_one]
theorem run_makeL (n : Nat) (hn : n ≤ 64) (W : World) :
    (Instr.makeSlice 30 (.int .i64 (n : Int)) (.int .i64 (n : Int))).run Try.prog W = .ok (.slice (some ⟨W.heap.size, 0, none⟩) n n) (W.alloc (.cells (List.replicate n (.slice none 0 0)).toArray 22)) := by
  obtain ⟨i0, hi, hz0, hz1, hz2⟩ := info_parts infoL
  have := run_make (P := Try.prog) W 30 22 i0 _ Try.underlying30 hi hz0 .i64 .i64 n n (by omega) (by omega) (by rw [hz2]; omega) (by omega)
  rw [this, hz1, Int.toNat_natCast, Nat.mul_one, made_one _ rfl]
theorem run_makeL64 (n : Nat) (hn : n ≤ 64) (W : World) :
    (Instr.makeSlice 31 (.int .i64 (n : Int)) (.int .i64 (n : Int))).run Try.prog W = .ok (.slice (some ⟨W.heap.size, 0, none⟩) n n) (W.alloc (.cells (List.replicate n (.slice none 0 0)).toArray 47)) := by
  obtain ⟨i0, hi, hz0, hz1, hz2⟩ := info_parts infoL64
  have := run_make (P := Try.prog) W 31 47 i0 _ Try.underlying31 hi hz0 .i64 .i64 n n (by omega) (by omega) (by rw [hz2]; omega) (by omega)
  rw [this, hz1, Int.toNat_natCast, Nat.mul_one, made_one _ rfl]
theorem run_makeI (n : Nat) (hn : n ≤ 64) (W : World) :
    (Instr.makeSlice 22 (.int .i64 (n : Int)) (.int .i64 (n : Int))).run Try.prog W = .ok (.slice (some ⟨W.heap.size, 0, none⟩) n n) (W.alloc (.cells (List.replicate n (.int .i64 0)).toArray 3)) := by
  obtain ⟨i0, hi, hz0, hz1, hz2⟩ := info_parts infoI
  have := run_make (P := Try.prog) W 22 3 i0 _ Try.underlying22 hi hz0 .i64 .i64 n n (by omega) (by omega) (by rw [hz2]; omega) (by omega)
  rw [this, hz1, Int.toNat_natCast, Nat.mul_one, made_one _ rfl]
theorem step_append_at {P : Program} {ops : Array Oper} {o : Oper} {a : Act} {w : World} {K : Act → World → Prop} {Q : Exit → Act → World → Prop} {E : Prop}
    (hg : o.guard = none) (s x : Operand) (t : TypeId) (hop : o.op = Op.call { callee := Callee.builtin Builtin.append, args := #[s, x], argTypes := #[t, t] })
    (base : Nat) (e : TypeId) (i : TypeInfo) (z : Value) (size bytes : Nat) (h1 : P.underlying t = some (.slice e)) (h2 : P.info? e = some i) (h3 : i.zero = some z) (h4 : i.size = size) (h5 : i.bytes = bytes) (h6 : z.cells.size = size) (h7 : 0 < size)
    (v : Value) (k : Nat) (xs : List Value) (hs : a.eval s = v) (hown : w.ownsRow base e size v k xs) (ad : Addr) (m c : Nat) (news : List Value) (hx : a.eval x = .slice (some ad) m c) (hn : news.length = m * size)
    (hc : ∀ j u, news[j]? = some u → w.cell? (ad.add j) = some u) (h1c : ∀ u ∈ news, u.oneCell' = true) (b1 : k + m ≤ maxLen) (b2 : (k + m) * bytes ≤ 140737488355328) (b3 : base ≤ w.heap.size)
    (hK : ∀ v' w', w'.ownsRow base e size v' (k + m) (xs ++ news) → w.grownBy w' v.ownBlock → (v'.ownBlock = v.ownBlock ∨ v'.ownBlock = some w.heap.size) → K (a.put o.dst v') w') :
    if Region.wanted o (yielded ops a.tmps) = true then Oper.wp P o a w K Q else E := by
  have hw : Region.wanted o (yielded ops a.tmps) = true := by simp [Region.wanted, hg]
  rw [if_pos hw]
  obtain ⟨v', w', hrun, r1, r2, _, r3⟩ := run_append_own_at (P := P) w base t o.type e i z size bytes h1 h2 h3 h4 h5 h6 h7 v k xs hown ad m c news hn hc h1c b1 b2 b3
  unfold Oper.wp
  simp [execOp, hop, resolve, invoke, builtin, hs, hx, hrun, Result.andThen]
  exact hK _ _ r1 r2 r3
def z5 : List Value := [.slice none 0 0, .slice none 0 0, .slice none 0 0, .slice none 0 0, .slice none 0 0]
/-- The box of the state, as its owners grow. -/
def NwI (w : World) (k : Nat) (W : World) : Prop :=
  ∃ v, Cells W (w.heap.size + 1) 33 [v, .slice none 0 0, .slice none 0 0, .slice none 0 0, .slice none 0 0] ∧ Cells W w.heap.size 33 z5 ∧ W.ownsRow w.heap.size 3 1 v k (List.replicate k (.int .i64 (-1))) ∧ Kept noX w W
/-- The box of the state, as its rooms grow. -/
def NwJ (w : World) (m c : Nat) (rooms : List Int) (k : Nat) (W : World) : Prop :=
  ∃ v0 v2 gc, Cells W (w.heap.size + 1) 33 [v0, .slice (some ⟨gc, 0, none⟩) c c, v2, .slice none 0 0, .slice none 0 0] ∧ Cells W w.heap.size 33 z5 ∧ W.ownsRow w.heap.size 3 1 v0 m (List.replicate m (.int .i64 (-1))) ∧
    W.ownsRow w.heap.size 3 1 v2 k ((rooms.take k).map (.int .i64)) ∧ (Cells W gc 22 (List.replicate c (.slice none 0 0)) ∧ w.heap.size ≤ gc) ∧ (∀ g, v0.ownBlock = some g → v2.ownBlock ≠ some g) ∧ Kept noX w W
/-- All is made, but for the answer's own box. -/
def FinW (w : World) (m c : Nat) (rooms : List Int) (v0 v2 : Value) (gc gs gt : Nat) (W : World) : Prop :=
  (Cells W (w.heap.size + 1) 33 [v0, .slice (some ⟨gc, 0, none⟩) c c, v2, .slice (some ⟨gs, 0, none⟩) rooms.length rooms.length, .slice (some ⟨gt, 0, none⟩) rooms.length rooms.length] ∧ Cells W w.heap.size 33 z5) ∧ (W.ownsRow w.heap.size 3 1 v0 m (List.replicate m (.int .i64 (-1))) ∧ W.ownsRow w.heap.size 3 1 v2 rooms.length (rooms.map (.int .i64))) ∧
    (Cells W gc 22 (List.replicate c (.slice none 0 0)) ∧ w.heap.size ≤ gc) ∧ (Cells W gs 47 (List.replicate rooms.length (.slice none 0 0)) ∧ w.heap.size ≤ gs) ∧ (Cells W gt 3 (List.replicate rooms.length (.int .i64 0)) ∧ w.heap.size ≤ gt) ∧ Kept noX w W
theorem row_zeros {W : World} {Z : Nat → Prop} {g n : Nat} {t : TypeId} {u : Value} {d : D} (h : Cells W g t (List.replicate n u)) (hd : Rep W Z [u] d) (hz : ¬ Z g) (hn : n ≤ 64) : RowV W Z (.slice (some ⟨g, 0, none⟩) n n) (List.replicate n d) := by
  refine Rep.row ⟨g, 0, none⟩ n n 1 _ (fun _ => [u]) (by simp) (fun _ => rfl) (Nat.le_refl _) (by unfold maxLen; omega) (fun _ => hz) (by omega) (fun _ _ => rfl) (fun i hi j hj => ?_) (fun i hi => by simpa using hd)
  obtain rfl : j = 0 := by omega
  show W.cell? ⟨g, 0 + (i * 1 + 0), none⟩ = _
  rw [Nat.zero_add, Nat.mul_one, Nat.add_zero, h.cell]
  simp [hi]
theorem FinW.rv {w W W' : World} {m c : Nat} {rooms : List Int} {v0 v2 : Value} {gc gs gt : Nat} (h : FinW w m c rooms v0 v2 gc gs gt W) (hk : Kept (· = w.heap.size) W W') (hc : c ≤ 64) (hr : rooms.length ≤ 64) (hne : w.heap.size ≠ gt) (h0 : ∀ g, v0.ownBlock = some g → g ≠ w.heap.size) (h2 : ∀ g, v2.ownBlock = some g → g ≠ w.heap.size) :
    RV W' (· < w.heap.size) [v0, .slice (some ⟨gc, 0, none⟩) c c, v2, .slice (some ⟨gs, 0, none⟩) rooms.length rooms.length, .slice (some ⟨gt, 0, none⟩) rooms.length rooms.length] (initR m c rooms) := by
  obtain ⟨⟨a1, a2⟩, ⟨b1, b2⟩, ⟨c1, c2⟩, ⟨d1, d2⟩, ⟨e1, e2⟩, f⟩ := h
  have hnil : ∀ W : World, Rep W (· < w.heap.size) [.slice none 0 0] (.row (dI [])) := fun _ => .nilrow
  refine ⟨v0, _, v2, _, _, rfl, ?_, ?_, ?_, ?_, ?_⟩
  · exact own_row (t := 3) (xs := List.replicate m (-1)) (by simpa using own_low (own_kept b1 hk h0) (Nat.zero_le _)) (fun g hg h => by have := own_ge b1 hg; omega)
  · have := row_zeros (c1.kept hk (cells_ne c1 a2 (by decide))) (hnil _) (by omega) hc
    simpa [initR, dL] using this
  · exact own_row (t := 3) (by simpa [initR] using own_low (own_kept b2 hk h2) (Nat.zero_le _)) (fun g hg h => by have := own_ge b2 hg; omega)
  · have := row_zeros (d1.kept hk (cells_ne d1 a2 (by decide))) (hnil _) (by omega) hr
    simpa [initR, dL] using this
  · have := row_zeros (Z := (· < w.heap.size)) (d := D.int .i64 0) (e1.kept hk (fun h => hne h.symm)) (.int _ _) (by omega) hr
    simpa [initR, dN] using this
set_option maxRecDepth 100000 in
set_option maxHeartbeats 4000000 in
theorem znew_ok (m c : Nat) (hm : m ≤ 64) (hc : c ≤ 64) (A : Option Addr) (rc : Nat) (rooms : List Int) (hr : rooms.length ≤ 64) (hall : rooms.all (inI 1 16) = true) (w : World) (hv : RowV w noX (.slice A rooms.length rc) (dI rooms)) :
    Calls Try.prog 13 #[.int .i64 m, .int .i64 c, .slice A rooms.length rc] w fun e w' => ∃ vs, e = .returned (.tuple #[.agg vs.toArray, .int .i64 0]) ∧ RV w' (· < w.heap.size) vs (initR m c rooms) ∧ Kept noX w w' := by
  have hmL := run_makeL c hc
  have hmS := run_makeL64 rooms.length hr
  have hmI := run_makeI rooms.length hr
  have HV := Lib.hid hv
  have e1 : decide ((m : Int) < 0) = false := by simp
  have e2 : decide ((64 : Int) < (m : Int)) = false := by simp; omega
  have e3 : decide ((c : Int) < 0) = false := by simp
  have e4 : decide ((64 : Int) < (c : Int)) = false := by simp; omega
  have e5 : decide ((64 : Int) < (rooms.length : Int)) = false := by simp; omega
  obtain ⟨i0, hi0, hz0, hz1, hz2⟩ := info_parts infoI
  clear hv
  go_enter Try.func13, Try.ntmps13
  go_wp2_with fail
  have hI : NwI w 0 ((w.alloc (.cells #[.slice none 0 0, .slice none 0 0, .slice none 0 0, .slice none 0 0, .slice none 0 0] 33)).alloc (.cells #[.slice none 0 0, .slice none 0 0, .slice none 0 0, .slice none 0 0, .slice none 0 0] 33)) := by
    have h2 := Cells.fresh (w.alloc (.cells #[.slice none 0 0, .slice none 0 0, .slice none 0 0, .slice none 0 0, .slice none 0 0] 33)) 33 z5
    rw [World.size_alloc] at h2
    exact ⟨.slice none 0 0, h2, (Cells.fresh w 33 z5).alloc _, World.ownsRow_nil _ _ _ _, ((Kept.refl _ _).alloc _).alloc _⟩
  go_loopw [9] (fun i wr => ∃ k : Nat, k ≤ m ∧ i = .int .i64 k ∧ NwI w k wr) (fun i _ => m - (intOf i).toNat)
  case atStart => exact ⟨0, Nat.zero_le _, rfl, hI⟩
  case round =>
    obtain ⟨k, hk, rfl, v, hC, hC6, hO, hkw⟩ := hrel
    obtain ⟨A0, n0, cc0, rfl⟩ := own_form0 hO
    by_cases hlt : k < m
    · have hdl : decide ((k : Int) < (m : Int)) = true := by simpa using hlt
      have x0 := hC.cell 0
      simp only [List.getElem?_cons_zero] at x0
      have HC := Lib.hid hC
      have HC6 := Lib.hid hC6
      have HO0 := Lib.hid hO
      have HO := Lib.hid (hO.alloc (.cells #[.int .i64 (-1)] 3))
      have HN := Lib.hid (cell_one_new wr (.int .i64 (-1)) 3)
      have hks := hkw.size
      have hBl := hC.lt
      clear hC hC6 hO
      go_wp2_with (at_builtin; refine wpList_append_own_at _ rfl _ _ 22 rfl w.heap.size 3 i0 (.int .i64 0) 1 8 Try.underlying22 hi0 hz0 hz1 hz2 rfl (by decide) (.slice A0 n0 cc0) k (List.replicate k (.int .i64 (-1))) rfl HO.out ⟨wr.heap.size, 0, none⟩ 1 1 [.int .i64 (-1)] rfl rfl HN.out (by intro u hu; obtain rfl := List.mem_singleton.1 hu; rfl) (by unfold maxLen; omega) (by omega) (by rw [World.size_alloc]; omega) ?_
                   intro v' W5 hown' hgrow _ hat
                   have hk5 : Kept (fun k => (Value.slice A0 n0 cc0).ownBlock = some k) wr W5 := ((Kept.refl _ _).alloc _).grown hgrow (fun k hk _ => hk)
                   have hC5 := HC.out.kept hk5 (fun e => own_ne HO0.out HC.out (by decide) e)
                   have c5 := hC5.cell 0
                   have f5 := hC5.free 0
                   simp only [List.getElem?_cons_zero] at c5
                   have HC5 := Lib.hid hC5
                   have HO5 := Lib.hid hown'
                   have HAT := Lib.hid hat
                   obtain ⟨A', n', c', rfl⟩ := own_form0 hown'
                   clear hC5 hown' hat hgrow)
      have hloc := HAT.out
      rw [World.size_alloc] at hloc
      have hkc : Kept (· = w.heap.size + 1) W5 (W5.setCell ⟨w.heap.size + 1, 0, none⟩ (.slice A' n' c')) := (Kept.refl (· = w.heap.size + 1) W5).setCell (p := ⟨w.heap.size + 1, 0, none⟩) (fun _ => rfl) _
      refine ⟨⟨k + 1, hlt, by go_num, .slice A' n' c', HC5.out.put 0 _, (HC6.out.kept hk5 (fun e => own_ne HO0.out HC6.out (by decide) e)).kept hkc (by omega), ?_, (hkw.join hk5 (fun i hi hl => by have := own_ge HO0.out hi; omega)).own hkc (by omega)⟩, by simp [intOf]; omega⟩
      rw [List.replicate_succ']
      exact own_kept HO5.out hkc (fun g hg e => own_ne HO5.out HC5.out (by decide) (by rw [hg, e]))
    · have hdl : decide ((k : Int) < (m : Int)) = false := by simpa using hlt
      obtain rfl : k = m := by omega
      have x1 := hC.cell 1
      have f1 := hC.free 1
      simp only [List.getElem?_cons_zero, List.getElem?_cons_succ] at x1
      have HC := Lib.hid hC
      have HC6 := Lib.hid hC6
      have HO0 := Lib.hid hO
      have hks := hkw.size
      have hBl := hC.lt
      clear hC hC6 hO
      go_wp2_with fail
      have hkc : Kept (· = w.heap.size + 1) wr (wr.setCell ⟨w.heap.size + 1, 1, none⟩ (.slice (some ⟨wr.heap.size, 0, none⟩) c c)) := (Kept.refl (· = w.heap.size + 1) _).setCell (p := ⟨w.heap.size + 1, 1, none⟩) (fun _ => rfl) _
      have hsz : (wr.setCell ⟨w.heap.size + 1, 1, none⟩ (.slice (some ⟨wr.heap.size, 0, none⟩) c c)).heap.size = wr.heap.size := by simp [World.setCell]
      have hCs := HC.out.put 1 (.slice (some ⟨wr.heap.size, 0, none⟩) c c)
      have hC6s := HC6.out.kept hkc (by omega)
      have hO0s := own_kept HO0.out hkc (fun g hg e => own_ne HO0.out HC.out (by decide) (by rw [hg, e]))
      have hkws := hkw.own hkc (by omega)
      have hJ : NwJ w k c rooms 0 ((wr.setCell ⟨w.heap.size + 1, 1, none⟩ (.slice (some ⟨wr.heap.size, 0, none⟩) c c)).alloc (.cells (List.replicate c (.slice none 0 0)).toArray 22)) := by
        have hg := Cells.fresh (wr.setCell ⟨w.heap.size + 1, 1, none⟩ (.slice (some ⟨wr.heap.size, 0, none⟩) c c)) 22 (List.replicate c (.slice none 0 0))
        rw [hsz] at hg
        exact ⟨.slice A0 n0 cc0, .slice none 0 0, wr.heap.size, hCs.alloc _, hC6s.alloc _, hO0s.alloc _, World.ownsRow_nil _ _ _ _, ⟨hg, hks⟩, ⟨fun g _ (h : (Value.slice none 0 0).ownBlock = some g) => (by cases h), hkws.alloc _⟩⟩
      rw [List.toArray_replicate] at hJ
      clear hkc hsz hCs hC6s hO0s hkws
      go_loopw [10] (fun i wr => ∃ j : Nat, j ≤ rooms.length ∧ i = .int .i64 j ∧ NwJ w k c rooms j wr) (fun i _ => rooms.length - (intOf i).toNat)
      case atStart => exact ⟨0, Nat.zero_le _, rfl, hJ⟩
      case round =>
        clear hJ HC HC6 HO0 hks hBl x1 f1 hkw hI
        obtain ⟨j, hj, rfl, v0, v2, gc, hC, hC6, hO0, hO2, ⟨hCg, hgc⟩, hne, hkw⟩ := hrel
        obtain ⟨A1, n1, cc1, rfl⟩ := own_form0 hO0
        obtain ⟨A2, n2, cc2, rfl⟩ := own_form0 hO2
        by_cases hlt : j < rooms.length
        · have hdl : decide ((j : Int) < (rooms.length : Int)) = true := by simpa using hlt
          obtain ⟨b, o, c3, hveq, hcell, _⟩ := rowN_at HV.out hlt
          injection hveq with hA _ hcq
          subst hA hcq
          have hin : 1 ≤ rooms[j] ∧ rooms[j] ≤ 16 := by
            have := List.all_eq_true.1 hall _ (List.getElem_mem hlt)
            simpa [inI] using this
          have g1 : decide (rooms[j] < 1) = false := by simp; omega
          have g2 : decide (16 < rooms[j]) = false := by simp; omega
          have htk : (rooms.take (j + 1)).map (Value.int .i64) = (rooms.take j).map (Value.int .i64) ++ [.int .i64 rooms[j]] := by rw [List.take_succ_eq_append_getElem hlt, List.map_append]; rfl
          have x2 := hC.cell 2
          have f2 := hC.free 2
          simp only [List.getElem?_cons_zero, List.getElem?_cons_succ] at x2
          have q0 := hkw.cell hcell
          generalize rooms[j] = rm at *
          have HTK := Lib.hid htk
          have HC := Lib.hid hC
          have HC6 := Lib.hid hC6
          have HO0 := Lib.hid hO0
          have HO2 := Lib.hid hO2
          have HCG := Lib.hid hCg
          have HNE := Lib.hid hne
          have HOA := Lib.hid ((hO2.alloc (.cells #[.int .i64 rm] 3)).drew)
          have HN := Lib.hid (cell_one_new wr (.int .i64 rm) 3)
          have mixed : Try.prog.follows .mixedOrders = true := by kernel_rfl
          have hks := hkw.size
          have x2a : (wr.alloc (.cells #[.int .i64 rm] 3)).drew.cell? ⟨w.heap.size + 1, 2, none⟩ = some (.slice A2 n2 cc2) := (((Kept.refl noX wr).alloc _).drew).cell x2
          clear hC hC6 hO0 hO2 hCg hne htk hcell hin
          go_wp2_with fail
          go_region_law_o (refine step_append_at rfl (.tmp 65) (.tmp 70) 22 rfl w.heap.size 3 i0 (.int .i64 0) 1 8 Try.underlying22 hi0 hz0 hz1 hz2 rfl (by decide) (.slice A2 n2 cc2) j ((rooms.take j).map (.int .i64)) (by simp [Act.eval]) HOA.out ⟨wr.heap.size, 0, none⟩ 1 1 [.int .i64 rm] (by simp [Act.eval]) rfl HN.out (by intro u hu; obtain rfl := List.mem_singleton.1 hu; rfl) (by unfold maxLen; omega) (by omega) (by show _ ≤ (wr.alloc _).heap.size; rw [World.size_alloc]; omega) ?_; intro v' W5 hown' hgrow hat; (have hk5 : Kept (fun k => (Value.slice A2 n2 cc2).ownBlock = some k) wr W5 := ((((Kept.refl _ _).alloc _).drew).grown hgrow (fun k hk _ => hk))); (have hC5 := HC.out.kept hk5 (fun e => own_ne HO2.out HC.out (by decide) e)); (have c5 := hC5.cell 2); (have f5 := hC5.free 2); simp only [List.getElem?_cons_zero, List.getElem?_cons_succ] at c5; (have HC5 := Lib.hid hC5); (have HO5 := Lib.hid hown'); (have HAT := Lib.hid hat); obtain ⟨A5, n5, c5', rfl⟩ := own_form0 hown'; clear hC5 hown' hgrow hat)
          all_goals
            have hloc : (Value.slice A5 n5 c5').ownBlock = (Value.slice A2 n2 cc2).ownBlock ∨ (Value.slice A5 n5 c5').ownBlock = some (wr.heap.size + 1) := by
              have h := HAT.out
              rwa [show ((wr.alloc (.cells #[.int .i64 rm] 3)).drew).heap.size = wr.heap.size + 1 from World.size_alloc _ _] at h
            have hkc : Kept (· = w.heap.size + 1) W5 (W5.setCell ⟨w.heap.size + 1, 2, none⟩ (.slice A5 n5 c5')) := (Kept.refl (· = w.heap.size + 1) W5).setCell (p := ⟨w.heap.size + 1, 2, none⟩) (fun _ => rfl) _
            have hnew : ∀ g, (Value.slice A1 n1 cc1).ownBlock = some g → (Value.slice A5 n5 c5').ownBlock ≠ some g := fun g hg he => by
              rcases hloc with h1 | h1
              · exact HNE.out g hg (h1.symm.trans he)
              · have h2 : wr.heap.size + 1 = g := Option.some.inj (h1.symm.trans he)
                have := own_lt HO0.out hg
                omega
            have hrel : NwJ w k c rooms (j + 1) (W5.setCell ⟨w.heap.size + 1, 2, none⟩ (.slice A5 n5 c5')) := by
              refine ⟨.slice A1 n1 cc1, .slice A5 n5 c5', gc, HC5.out.put 2 _, (HC6.out.kept hk5 (fun e => own_ne HO2.out HC6.out (by decide) e)).kept hkc (by omega), own_kept (own_kept HO0.out hk5 (fun g hg e => HNE.out g hg e)) hkc (fun g hg e => own_ne HO0.out HC.out (by decide) (by rw [hg, e])), ?_, ⟨(HCG.out.kept hk5 (fun e => own_ne HO2.out HCG.out (by decide) e)).kept hkc (cells_ne HCG.out HC.out (by decide)), hgc⟩, ⟨hnew, (hkw.join hk5 (fun i hi hl => by have := own_ge HO2.out hi; omega)).own hkc (by omega)⟩⟩
              rw [HTK.out]
              exact own_kept HO5.out hkc (fun g hg e => own_ne HO5.out HC5.out (by decide) (by rw [hg, e]))
            have HREL := Lib.hid hrel
            clear hrel hnew hkc hloc HC HC6 HO0 HO2 HCG HNE HOA HN HC5 HO5 HAT
            (try simp only [Act.put, List.getElem_toArray, List.getElem_cons_succ, List.getElem_cons_zero, List.setIfInBounds_toArray, List.set_cons_zero, List.set_cons_succ])
            go_wp2
            go_roundw
            case rel => exact ⟨j + 1, hlt, by go_num, HREL.out⟩
            case measure => simp [intOf]; omega
        · have hdl : decide ((j : Int) < (rooms.length : Int)) = false := by simpa using hlt
          obtain rfl : j = rooms.length := by omega
          rw [List.take_length] at hO2
          have x3 := hC.cell 3
          have x4 := hC.cell 4
          have f3 := hC.free 3
          have f4 := hC.free 4
          simp only [List.getElem?_cons_zero, List.getElem?_cons_succ] at x3 x4
          have y3 : ∀ o, (wr.alloc o).cell? ⟨w.heap.size + 1, 3, none⟩ = some (.slice none 0 0) := fun o => ((Kept.refl noX wr).alloc o).cell x3
          have yy3 : ∀ o o', ((wr.alloc o).alloc o').cell? ⟨w.heap.size + 1, 3, none⟩ = some (.slice none 0 0) := fun o o' => (((Kept.refl noX wr).alloc o).alloc o').cell x3
          have z3 : ∀ o, (wr.alloc o).frozen? ⟨w.heap.size + 1, 3, none⟩ = false := fun o => (hC.alloc o).free 3
          have zz3 : ∀ o o', ((wr.alloc o).alloc o').frozen? ⟨w.heap.size + 1, 3, none⟩ = false := fun o o' => ((hC.alloc o).alloc o').free 3
          have y4 : ∀ o, (wr.alloc o).cell? ⟨w.heap.size + 1, 4, none⟩ = some (.slice none 0 0) := fun o => ((Kept.refl noX wr).alloc o).cell x4
          have yy4 : ∀ o o', ((wr.alloc o).alloc o').cell? ⟨w.heap.size + 1, 4, none⟩ = some (.slice none 0 0) := fun o o' => (((Kept.refl noX wr).alloc o).alloc o').cell x4
          have z4 : ∀ o, (wr.alloc o).frozen? ⟨w.heap.size + 1, 4, none⟩ = false := fun o => (hC.alloc o).free 4
          have zz4 : ∀ o o', ((wr.alloc o).alloc o').frozen? ⟨w.heap.size + 1, 4, none⟩ = false := fun o o' => ((hC.alloc o).alloc o').free 4
          have s4 : ∀ u, (wr.setCell ⟨w.heap.size + 1, 3, none⟩ u).cell? ⟨w.heap.size + 1, 4, none⟩ = some (.slice none 0 0) := fun u => by have h := (hC.put 3 u).cell 4; simpa using h
          have sy4 : ∀ u o, ((wr.setCell ⟨w.heap.size + 1, 3, none⟩ u).alloc o).cell? ⟨w.heap.size + 1, 4, none⟩ = some (.slice none 0 0) := fun u o => Lib.cell?_alloc_some o (s4 u)
          have syy4 : ∀ u o o', (((wr.setCell ⟨w.heap.size + 1, 3, none⟩ u).alloc o).alloc o').cell? ⟨w.heap.size + 1, 4, none⟩ = some (.slice none 0 0) := fun u o o' => Lib.cell?_alloc_some o' (sy4 u o)
          have sz4 : ∀ u o, ((wr.setCell ⟨w.heap.size + 1, 3, none⟩ u).alloc o).frozen? ⟨w.heap.size + 1, 4, none⟩ = false := fun u o => ((hC.put 3 u).alloc o).free 4
          have szz4 : ∀ u o o', (((wr.setCell ⟨w.heap.size + 1, 3, none⟩ u).alloc o).alloc o').frozen? ⟨w.heap.size + 1, 4, none⟩ = false := fun u o o' => (((hC.put 3 u).alloc o).alloc o').free 4
          have s3 : ∀ u, (wr.setCell ⟨w.heap.size + 1, 4, none⟩ u).cell? ⟨w.heap.size + 1, 3, none⟩ = some (.slice none 0 0) := fun u => by have h := (hC.put 4 u).cell 3; simpa using h
          have sy3 : ∀ u o, ((wr.setCell ⟨w.heap.size + 1, 4, none⟩ u).alloc o).cell? ⟨w.heap.size + 1, 3, none⟩ = some (.slice none 0 0) := fun u o => Lib.cell?_alloc_some o (s3 u)
          have syy3 : ∀ u o o', (((wr.setCell ⟨w.heap.size + 1, 4, none⟩ u).alloc o).alloc o').cell? ⟨w.heap.size + 1, 3, none⟩ = some (.slice none 0 0) := fun u o o' => Lib.cell?_alloc_some o' (sy3 u o)
          have sz3 : ∀ u o, ((wr.setCell ⟨w.heap.size + 1, 4, none⟩ u).alloc o).frozen? ⟨w.heap.size + 1, 3, none⟩ = false := fun u o => ((hC.put 4 u).alloc o).free 3
          have szz3 : ∀ u o o', (((wr.setCell ⟨w.heap.size + 1, 4, none⟩ u).alloc o).alloc o').frozen? ⟨w.heap.size + 1, 3, none⟩ = false := fun u o o' => (((hC.put 4 u).alloc o).alloc o').free 3
          have mixed : Try.prog.follows .mixedOrders = true := by kernel_rfl
          have hBl := hC.lt
          have HC := Lib.hid hC
          have HC6 := Lib.hid hC6
          have HO0 := Lib.hid hO0
          have HO2 := Lib.hid hO2
          have HCG := Lib.hid hCg
          have HNE := Lib.hid hne
          clear hC hC6 hO0 hO2 hCg hne
          go_wp2_with fail
          go_region
          · have HF : Hid (FinW w k c rooms (.slice A1 n1 cc1) (.slice A2 n2 cc2) gc (wr.heap.size) (wr.heap.size + 1) (((((wr.alloc (.cells (Array.replicate rooms.length (.slice none 0 0)) 47)).alloc (.cells (Array.replicate rooms.length (.int .i64 0)) 3)).setCell ⟨w.heap.size + 1, 3, none⟩ (.slice (some ⟨wr.heap.size, 0, none⟩) rooms.length rooms.length)).setCell ⟨w.heap.size + 1, 4, none⟩ (.slice (some ⟨wr.heap.size + 1, 0, none⟩) rooms.length rooms.length)).drew)) := Lib.hid (by
              rw [← List.toArray_replicate, ← List.toArray_replicate]
              refine ⟨⟨((((HC.out.alloc _).alloc _).put 3 _).put 4 _).drew, HC6.out.kept (X := (· = w.heap.size + 1)) (by repeat (first | (with_reducible exact Kept.refl _ _) | (with_reducible refine Kept.drew ?_) | (with_reducible refine Kept.alloc ?_ _) | (with_reducible refine Kept.setCell ?_ ?_ _) | (intro _; rfl))) (by omega)⟩, ⟨own_kept (X := (· = w.heap.size + 1)) HO0.out (by repeat (first | (with_reducible exact Kept.refl _ _) | (with_reducible refine Kept.drew ?_) | (with_reducible refine Kept.alloc ?_ _) | (with_reducible refine Kept.setCell ?_ ?_ _) | (intro _; rfl))) (fun g hg e => own_ne HO0.out HC.out (by decide) (by rw [hg, e])), own_kept (X := (· = w.heap.size + 1)) HO2.out (by repeat (first | (with_reducible exact Kept.refl _ _) | (with_reducible refine Kept.drew ?_) | (with_reducible refine Kept.alloc ?_ _) | (with_reducible refine Kept.setCell ?_ ?_ _) | (intro _; rfl))) (fun g hg e => own_ne HO2.out HC.out (by decide) (by rw [hg, e]))⟩, ⟨HCG.out.kept (X := (· = w.heap.size + 1)) (by repeat (first | (with_reducible exact Kept.refl _ _) | (with_reducible refine Kept.drew ?_) | (with_reducible refine Kept.alloc ?_ _) | (with_reducible refine Kept.setCell ?_ ?_ _) | (intro _; rfl))) (cells_ne HCG.out HC.out (by decide)), hgc⟩, ⟨Cells.kept (X := (· = w.heap.size + 1)) (Cells.new (W := wr) (t := 47) (cs := List.replicate rooms.length (.slice none 0 0)) (by first | rfl | (simp; done) | (simp [World.setCell]; done))) (by repeat (first | (with_reducible exact Kept.refl _ _) | (with_reducible refine Kept.drew ?_) | (with_reducible refine Kept.alloc ?_ _) | (with_reducible refine Kept.setCell ?_ ?_ _) | (intro _; rfl))) (by omega), by omega⟩, ⟨Cells.kept (X := (· = w.heap.size + 1)) (Cells.new (W := (wr.alloc (.cells (List.replicate rooms.length (.slice none 0 0)).toArray 47))) (t := 3) (cs := List.replicate rooms.length (.int .i64 0)) (by first | rfl | (simp; done) | (simp [World.setCell]; done))) (by repeat (first | (with_reducible exact Kept.refl _ _) | (with_reducible refine Kept.drew ?_) | (with_reducible refine Kept.alloc ?_ _) | (with_reducible refine Kept.setCell ?_ ?_ _) | (intro _; rfl))) (by omega), by omega⟩, hkw.own (show Kept (· = w.heap.size + 1) wr _ from (by repeat (first | (with_reducible exact Kept.refl _ _) | (with_reducible refine Kept.drew ?_) | (with_reducible refine Kept.alloc ?_ _) | (with_reducible refine Kept.setCell ?_ ?_ _) | (intro _; rfl)))) (by omega)⟩)
            generalize ((((wr.alloc (.cells (Array.replicate rooms.length (.slice none 0 0)) 47)).alloc (.cells (Array.replicate rooms.length (.int .i64 0)) 3)).setCell ⟨w.heap.size + 1, 3, none⟩ (.slice (some ⟨wr.heap.size, 0, none⟩) rooms.length rooms.length)).setCell ⟨w.heap.size + 1, 4, none⟩ (.slice (some ⟨wr.heap.size + 1, 0, none⟩) rooms.length rooms.length)).drew = W7 at HF ⊢
            have hg7 : w.heap.size ≠ wr.heap.size + 1 := by omega
            obtain ⟨⟨q1, q2⟩, ⟨q3, q4⟩, _⟩ := HF.out
            have a0 := q1.cell 0
            have a1 := q1.cell 1
            have a2 := q1.cell 2
            have a3 := q1.cell 3
            have a4 := q1.cell 4
            have b0 := q2.cell 0
            have b1 := q2.cell 1
            have b2 := q2.cell 2
            have b3 := q2.cell 3
            have b4 := q2.cell 4
            have d0 := q2.free 0
            have d1 := q2.free 1
            have d2 := q2.free 2
            have d3 := q2.free 3
            have d4 := q2.free 4
            have HQ2 := Lib.hid q2
            have HQ1 := Lib.hid q1
            have HQ3 := Lib.hid q3
            have HQ4 := Lib.hid q4
            simp only [z5, List.getElem?_cons_zero, List.getElem?_cons_succ] at a0 a1 a2 a3 a4 b0 b1 b2 b3 b4
            clear q1 q2 q3 q4 y3 y4 yy3 yy4 z3 z4 zz3 zz4 s3 s4 sy3 sy4 syy3 syy4 sz3 sz4 szz3 szz4 x3 x4 f3 f4
            (try simp only [Act.put, List.getElem_toArray, List.getElem_cons_succ, List.getElem_cons_zero, List.setIfInBounds_toArray, List.set_cons_zero, List.set_cons_succ])
            go_wp2_with fail
            have hk8 := (((((Kept.refl (· = w.heap.size) W7).setCell (p := ⟨w.heap.size, 0, none⟩) (fun _ => rfl) (.slice A1 n1 cc1)).setCell (p := ⟨w.heap.size, 1, none⟩) (fun _ => rfl) (.slice (some ⟨gc, 0, none⟩) c c)).setCell (p := ⟨w.heap.size, 2, none⟩) (fun _ => rfl) (.slice A2 n2 cc2)).setCell (p := ⟨w.heap.size, 3, none⟩) (fun _ => rfl) (.slice (some ⟨wr.heap.size, 0, none⟩) rooms.length rooms.length)).setCell (p := ⟨w.heap.size, 4, none⟩) (fun _ => rfl) (.slice (some ⟨wr.heap.size + 1, 0, none⟩) rooms.length rooms.length)
            refine ret_2 Try.results13 rfl (resVal.box rfl (((((HQ2.out.put 0 _).put 1 _).put 2 _).put 3 _).put 4 _) Try.underlying33 rfl (by kernel_rfl)) (resVal.tmp rfl) ?_
            exact ⟨_, rfl, HF.out.rv hk8 hc hr hg7 (fun g hg e => own_ne HQ3.out HQ2.out (by decide) (by rw [hg, e])) (fun g hg e => own_ne HQ4.out HQ2.out (by decide) (by rw [hg, e])), HF.out.2.2.2.2.2.own hk8 (Nat.le_refl _)⟩
          · have HF : Hid (FinW w k c rooms (.slice A1 n1 cc1) (.slice A2 n2 cc2) gc (wr.heap.size) (wr.heap.size + 1) (((((wr.setCell ⟨w.heap.size + 1, 3, none⟩ (.slice (some ⟨wr.heap.size, 0, none⟩) rooms.length rooms.length)).alloc (.cells (Array.replicate rooms.length (.slice none 0 0)) 47)).alloc (.cells (Array.replicate rooms.length (.int .i64 0)) 3)).setCell ⟨w.heap.size + 1, 4, none⟩ (.slice (some ⟨wr.heap.size + 1, 0, none⟩) rooms.length rooms.length)).drew)) := Lib.hid (by
              rw [← List.toArray_replicate, ← List.toArray_replicate]
              refine ⟨⟨((((HC.out.put 3 _).alloc _).alloc _).put 4 _).drew, HC6.out.kept (X := (· = w.heap.size + 1)) (by repeat (first | (with_reducible exact Kept.refl _ _) | (with_reducible refine Kept.drew ?_) | (with_reducible refine Kept.alloc ?_ _) | (with_reducible refine Kept.setCell ?_ ?_ _) | (intro _; rfl))) (by omega)⟩, ⟨own_kept (X := (· = w.heap.size + 1)) HO0.out (by repeat (first | (with_reducible exact Kept.refl _ _) | (with_reducible refine Kept.drew ?_) | (with_reducible refine Kept.alloc ?_ _) | (with_reducible refine Kept.setCell ?_ ?_ _) | (intro _; rfl))) (fun g hg e => own_ne HO0.out HC.out (by decide) (by rw [hg, e])), own_kept (X := (· = w.heap.size + 1)) HO2.out (by repeat (first | (with_reducible exact Kept.refl _ _) | (with_reducible refine Kept.drew ?_) | (with_reducible refine Kept.alloc ?_ _) | (with_reducible refine Kept.setCell ?_ ?_ _) | (intro _; rfl))) (fun g hg e => own_ne HO2.out HC.out (by decide) (by rw [hg, e]))⟩, ⟨HCG.out.kept (X := (· = w.heap.size + 1)) (by repeat (first | (with_reducible exact Kept.refl _ _) | (with_reducible refine Kept.drew ?_) | (with_reducible refine Kept.alloc ?_ _) | (with_reducible refine Kept.setCell ?_ ?_ _) | (intro _; rfl))) (cells_ne HCG.out HC.out (by decide)), hgc⟩, ⟨Cells.kept (X := (· = w.heap.size + 1)) (Cells.new (W := (wr.setCell ⟨w.heap.size + 1, 3, none⟩ (.slice (some ⟨wr.heap.size, 0, none⟩) rooms.length rooms.length))) (t := 47) (cs := List.replicate rooms.length (.slice none 0 0)) (by first | rfl | (simp; done) | (simp [World.setCell]; done))) (by repeat (first | (with_reducible exact Kept.refl _ _) | (with_reducible refine Kept.drew ?_) | (with_reducible refine Kept.alloc ?_ _) | (with_reducible refine Kept.setCell ?_ ?_ _) | (intro _; rfl))) (by omega), by omega⟩, ⟨Cells.kept (X := (· = w.heap.size + 1)) (Cells.new (W := ((wr.setCell ⟨w.heap.size + 1, 3, none⟩ (.slice (some ⟨wr.heap.size, 0, none⟩) rooms.length rooms.length)).alloc (.cells (List.replicate rooms.length (.slice none 0 0)).toArray 47))) (t := 3) (cs := List.replicate rooms.length (.int .i64 0)) (by first | rfl | (simp; done) | (simp [World.setCell]; done))) (by repeat (first | (with_reducible exact Kept.refl _ _) | (with_reducible refine Kept.drew ?_) | (with_reducible refine Kept.alloc ?_ _) | (with_reducible refine Kept.setCell ?_ ?_ _) | (intro _; rfl))) (by omega), by omega⟩, hkw.own (show Kept (· = w.heap.size + 1) wr _ from (by repeat (first | (with_reducible exact Kept.refl _ _) | (with_reducible refine Kept.drew ?_) | (with_reducible refine Kept.alloc ?_ _) | (with_reducible refine Kept.setCell ?_ ?_ _) | (intro _; rfl)))) (by omega)⟩)
            generalize ((((wr.setCell ⟨w.heap.size + 1, 3, none⟩ (.slice (some ⟨wr.heap.size, 0, none⟩) rooms.length rooms.length)).alloc (.cells (Array.replicate rooms.length (.slice none 0 0)) 47)).alloc (.cells (Array.replicate rooms.length (.int .i64 0)) 3)).setCell ⟨w.heap.size + 1, 4, none⟩ (.slice (some ⟨wr.heap.size + 1, 0, none⟩) rooms.length rooms.length)).drew = W7 at HF ⊢
            have hg7 : w.heap.size ≠ wr.heap.size + 1 := by omega
            obtain ⟨⟨q1, q2⟩, ⟨q3, q4⟩, _⟩ := HF.out
            have a0 := q1.cell 0
            have a1 := q1.cell 1
            have a2 := q1.cell 2
            have a3 := q1.cell 3
            have a4 := q1.cell 4
            have b0 := q2.cell 0
            have b1 := q2.cell 1
            have b2 := q2.cell 2
            have b3 := q2.cell 3
            have b4 := q2.cell 4
            have d0 := q2.free 0
            have d1 := q2.free 1
            have d2 := q2.free 2
            have d3 := q2.free 3
            have d4 := q2.free 4
            have HQ2 := Lib.hid q2
            have HQ1 := Lib.hid q1
            have HQ3 := Lib.hid q3
            have HQ4 := Lib.hid q4
            simp only [z5, List.getElem?_cons_zero, List.getElem?_cons_succ] at a0 a1 a2 a3 a4 b0 b1 b2 b3 b4
            clear q1 q2 q3 q4 y3 y4 yy3 yy4 z3 z4 zz3 zz4 s3 s4 sy3 sy4 syy3 syy4 sz3 sz4 szz3 szz4 x3 x4 f3 f4
            (try simp only [Act.put, List.getElem_toArray, List.getElem_cons_succ, List.getElem_cons_zero, List.setIfInBounds_toArray, List.set_cons_zero, List.set_cons_succ])
            go_wp2_with fail
            have hk8 := (((((Kept.refl (· = w.heap.size) W7).setCell (p := ⟨w.heap.size, 0, none⟩) (fun _ => rfl) (.slice A1 n1 cc1)).setCell (p := ⟨w.heap.size, 1, none⟩) (fun _ => rfl) (.slice (some ⟨gc, 0, none⟩) c c)).setCell (p := ⟨w.heap.size, 2, none⟩) (fun _ => rfl) (.slice A2 n2 cc2)).setCell (p := ⟨w.heap.size, 3, none⟩) (fun _ => rfl) (.slice (some ⟨wr.heap.size, 0, none⟩) rooms.length rooms.length)).setCell (p := ⟨w.heap.size, 4, none⟩) (fun _ => rfl) (.slice (some ⟨wr.heap.size + 1, 0, none⟩) rooms.length rooms.length)
            refine ret_2 Try.results13 rfl (resVal.box rfl (((((HQ2.out.put 0 _).put 1 _).put 2 _).put 3 _).put 4 _) Try.underlying33 rfl (by kernel_rfl)) (resVal.tmp rfl) ?_
            exact ⟨_, rfl, HF.out.rv hk8 hc hr hg7 (fun g hg e => own_ne HQ3.out HQ2.out (by decide) (by rw [hg, e])) (fun g hg e => own_ne HQ4.out HQ2.out (by decide) (by rw [hg, e])), HF.out.2.2.2.2.2.own hk8 (Nat.le_refl _)⟩
          · have HF : Hid (FinW w k c rooms (.slice A1 n1 cc1) (.slice A2 n2 cc2) gc (wr.heap.size + 1) (wr.heap.size) (((((wr.alloc (.cells (Array.replicate rooms.length (.int .i64 0)) 3)).alloc (.cells (Array.replicate rooms.length (.slice none 0 0)) 47)).setCell ⟨w.heap.size + 1, 3, none⟩ (.slice (some ⟨wr.heap.size + 1, 0, none⟩) rooms.length rooms.length)).setCell ⟨w.heap.size + 1, 4, none⟩ (.slice (some ⟨wr.heap.size, 0, none⟩) rooms.length rooms.length)).drew)) := Lib.hid (by
              rw [← List.toArray_replicate, ← List.toArray_replicate]
              refine ⟨⟨((((HC.out.alloc _).alloc _).put 3 _).put 4 _).drew, HC6.out.kept (X := (· = w.heap.size + 1)) (by repeat (first | (with_reducible exact Kept.refl _ _) | (with_reducible refine Kept.drew ?_) | (with_reducible refine Kept.alloc ?_ _) | (with_reducible refine Kept.setCell ?_ ?_ _) | (intro _; rfl))) (by omega)⟩, ⟨own_kept (X := (· = w.heap.size + 1)) HO0.out (by repeat (first | (with_reducible exact Kept.refl _ _) | (with_reducible refine Kept.drew ?_) | (with_reducible refine Kept.alloc ?_ _) | (with_reducible refine Kept.setCell ?_ ?_ _) | (intro _; rfl))) (fun g hg e => own_ne HO0.out HC.out (by decide) (by rw [hg, e])), own_kept (X := (· = w.heap.size + 1)) HO2.out (by repeat (first | (with_reducible exact Kept.refl _ _) | (with_reducible refine Kept.drew ?_) | (with_reducible refine Kept.alloc ?_ _) | (with_reducible refine Kept.setCell ?_ ?_ _) | (intro _; rfl))) (fun g hg e => own_ne HO2.out HC.out (by decide) (by rw [hg, e]))⟩, ⟨HCG.out.kept (X := (· = w.heap.size + 1)) (by repeat (first | (with_reducible exact Kept.refl _ _) | (with_reducible refine Kept.drew ?_) | (with_reducible refine Kept.alloc ?_ _) | (with_reducible refine Kept.setCell ?_ ?_ _) | (intro _; rfl))) (cells_ne HCG.out HC.out (by decide)), hgc⟩, ⟨Cells.kept (X := (· = w.heap.size + 1)) (Cells.new (W := (wr.alloc (.cells (List.replicate rooms.length (.int .i64 0)).toArray 3))) (t := 47) (cs := List.replicate rooms.length (.slice none 0 0)) (by first | rfl | (simp; done) | (simp [World.setCell]; done))) (by repeat (first | (with_reducible exact Kept.refl _ _) | (with_reducible refine Kept.drew ?_) | (with_reducible refine Kept.alloc ?_ _) | (with_reducible refine Kept.setCell ?_ ?_ _) | (intro _; rfl))) (by omega), by omega⟩, ⟨Cells.kept (X := (· = w.heap.size + 1)) (Cells.new (W := wr) (t := 3) (cs := List.replicate rooms.length (.int .i64 0)) (by first | rfl | (simp; done) | (simp [World.setCell]; done))) (by repeat (first | (with_reducible exact Kept.refl _ _) | (with_reducible refine Kept.drew ?_) | (with_reducible refine Kept.alloc ?_ _) | (with_reducible refine Kept.setCell ?_ ?_ _) | (intro _; rfl))) (by omega), by omega⟩, hkw.own (show Kept (· = w.heap.size + 1) wr _ from (by repeat (first | (with_reducible exact Kept.refl _ _) | (with_reducible refine Kept.drew ?_) | (with_reducible refine Kept.alloc ?_ _) | (with_reducible refine Kept.setCell ?_ ?_ _) | (intro _; rfl)))) (by omega)⟩)
            generalize ((((wr.alloc (.cells (Array.replicate rooms.length (.int .i64 0)) 3)).alloc (.cells (Array.replicate rooms.length (.slice none 0 0)) 47)).setCell ⟨w.heap.size + 1, 3, none⟩ (.slice (some ⟨wr.heap.size + 1, 0, none⟩) rooms.length rooms.length)).setCell ⟨w.heap.size + 1, 4, none⟩ (.slice (some ⟨wr.heap.size, 0, none⟩) rooms.length rooms.length)).drew = W7 at HF ⊢
            have hg7 : w.heap.size ≠ wr.heap.size := by omega
            obtain ⟨⟨q1, q2⟩, ⟨q3, q4⟩, _⟩ := HF.out
            have a0 := q1.cell 0
            have a1 := q1.cell 1
            have a2 := q1.cell 2
            have a3 := q1.cell 3
            have a4 := q1.cell 4
            have b0 := q2.cell 0
            have b1 := q2.cell 1
            have b2 := q2.cell 2
            have b3 := q2.cell 3
            have b4 := q2.cell 4
            have d0 := q2.free 0
            have d1 := q2.free 1
            have d2 := q2.free 2
            have d3 := q2.free 3
            have d4 := q2.free 4
            have HQ2 := Lib.hid q2
            have HQ1 := Lib.hid q1
            have HQ3 := Lib.hid q3
            have HQ4 := Lib.hid q4
            simp only [z5, List.getElem?_cons_zero, List.getElem?_cons_succ] at a0 a1 a2 a3 a4 b0 b1 b2 b3 b4
            clear q1 q2 q3 q4 y3 y4 yy3 yy4 z3 z4 zz3 zz4 s3 s4 sy3 sy4 syy3 syy4 sz3 sz4 szz3 szz4 x3 x4 f3 f4
            (try simp only [Act.put, List.getElem_toArray, List.getElem_cons_succ, List.getElem_cons_zero, List.setIfInBounds_toArray, List.set_cons_zero, List.set_cons_succ])
            go_wp2_with fail
            have hk8 := (((((Kept.refl (· = w.heap.size) W7).setCell (p := ⟨w.heap.size, 0, none⟩) (fun _ => rfl) (.slice A1 n1 cc1)).setCell (p := ⟨w.heap.size, 1, none⟩) (fun _ => rfl) (.slice (some ⟨gc, 0, none⟩) c c)).setCell (p := ⟨w.heap.size, 2, none⟩) (fun _ => rfl) (.slice A2 n2 cc2)).setCell (p := ⟨w.heap.size, 3, none⟩) (fun _ => rfl) (.slice (some ⟨wr.heap.size + 1, 0, none⟩) rooms.length rooms.length)).setCell (p := ⟨w.heap.size, 4, none⟩) (fun _ => rfl) (.slice (some ⟨wr.heap.size, 0, none⟩) rooms.length rooms.length)
            refine ret_2 Try.results13 rfl (resVal.box rfl (((((HQ2.out.put 0 _).put 1 _).put 2 _).put 3 _).put 4 _) Try.underlying33 rfl (by kernel_rfl)) (resVal.tmp rfl) ?_
            exact ⟨_, rfl, HF.out.rv hk8 hc hr hg7 (fun g hg e => own_ne HQ3.out HQ2.out (by decide) (by rw [hg, e])) (fun g hg e => own_ne HQ4.out HQ2.out (by decide) (by rw [hg, e])), HF.out.2.2.2.2.2.own hk8 (Nat.le_refl _)⟩
end Go.Proofs.Ytehcfahfbdphpaa
