/- What lex.End and the document's End answer: the place behind a text (conditions: the text is of at most 1000000 bytes). -/
import Derived.Test.YthknjkmkhjjmmaaWorks
namespace Go.Proofs.Ythknjkmkhjjmmaa
open Go.RowKit Go.Shelf

theorem runQ_all : ∀ l : List UInt8, runQ (fun _ => true) l = l.length := by
  intro l
  induction l with
  | nil => rfl
  | cons b l ih =>
    unfold runQ at ih ⊢
    unfold runS
    rw [if_pos rfl, ih]
    rfl

theorem results19_of {W : World} {R : Nat} {tmps : Array Value} {c0 c1 : Value} (h : Cells W R 25 [c0, c1]) (h2 : tmps.getD 2 undef = .pointer (some ⟨R, 0, none⟩)) :
    (results Try.f19 tmps).run Try.prog W = .ok (.agg #[c0, c1]) W := by
  have d0 := h.cell 0; have d1 := h.cell 1
  simp only [List.getElem?_cons_zero, List.getElem?_cons_succ] at d0 d1
  rw [Array.getD_eq_getD_getElem?] at h2
  simp [results, Try.results19, go_sem, h2, d0, d1]
theorem results20_of {W : World} {R : Nat} {tmps : Array Value} {c0 c1 : Value} (h : Cells W R 25 [c0, c1]) (h2 : tmps.getD 2 undef = .pointer (some ⟨R, 0, none⟩)) :
    (results Try.f20 tmps).run Try.prog W = .ok (.agg #[c0, c1]) W := by
  have d0 := h.cell 0; have d1 := h.cell 1
  simp only [List.getElem?_cons_zero, List.getElem?_cons_succ] at d0 d1
  rw [Array.getD_eq_getD_getElem?] at h2
  simp [results, Try.results20, go_sem, h2, d0, d1]
theorem results33_of {W : World} {R : Nat} {tmps : Array Value} {c0 c1 : Value} (h : Cells W R 25 [c0, c1]) (h2 : tmps.getD 4 undef = .pointer (some ⟨R, 0, none⟩)) :
    (results Try.f33 tmps).run Try.prog W = .ok (.agg #[c0, c1]) W := by
  have d0 := h.cell 0; have d1 := h.cell 1
  simp only [List.getElem?_cons_zero, List.getElem?_cons_succ] at d0 d1
  rw [Array.getD_eq_getD_getElem?] at h2
  simp [results, Try.results33, go_sem, h2, d0, d1]

def plV (s : ByteArray) (k : Nat) : Value := .agg #[.int .i64 ((plOf s.data.toList k).1 : Nat), .int .i64 ((plOf s.data.toList k).2 : Nat)]

set_option maxRecDepth 100000 in
set_option maxHeartbeats 1000000 in
theorem end_any (s : ByteArray) (hs : s.size ≤ 1000000) (w : World) :
    Calls Try.prog 19 #[.string s] w fun e w' => e = .returned (plV s s.size) ∧ Kept noX w w' := by
  go_enter Try.func19, Try.ntmps19
  go_wp2_with fail
  refine (begin_any s _).mono ?_
  rintro e W1 ⟨rfl, hW1⟩
  rw [World.size_alloc] at *
  have hr1 : Rdr W1 (w.heap.size + 1) s 0 := by
    rw [hW1]
    have := Cells.fresh (w.alloc (.cells #[.int .i64 0, .int .i64 0] 25)) 55 [.int .i64 1, .int .i64 1, .string s, .int .i64 0]
    rw [World.size_alloc] at this
    exact this
  have hR1 : Cells W1 w.heap.size 25 [.int .i64 0, .int .i64 0] := by rw [hW1]; exact (Cells.fresh w 25 [.int .i64 0, .int .i64 0]).alloc _
  have hk1 : Kept noX w W1 := by rw [hW1]; exact ((Kept.refl _ _).alloc _).alloc _
  clear hW1
  have hoff := Lib.hid (off_end (w.heap.size + 1) s hs 0 (Nat.zero_le _) W1 hr1)
  go_wp2_with fail
  refine hoff.out.mono ?_
  rintro e W2 ⟨rfl, hr2, hk2⟩
  rw [List.drop_zero, runQ_all, Nat.zero_add] at hr2
  rw [show s.data.toList.length = s.size from by simp] at hr2
  have hR2 := hR1.kept hk2 (fun h => by omega)
  have hk3 := hk1.join hk2 (fun i hi hlt => by omega)
  obtain ⟨c0, c1, c2, c3, f0, f1, f2, f3⟩ := hr2.is
  have r0 := hR2.cell 0; have r1 := hR2.cell 1; have q0 := hR2.free 0; have q1 := hR2.free 1
  simp only [List.getElem?_cons_zero, List.getElem?_cons_succ] at r0 r1
  clear hoff hR1 hk1 hk2 hr1
  go_wp2
  refine bodyPost_ret (results19_of ((hR2.put 0 _).put 1 _) rfl) rfl ?_
  exact ⟨rfl, (hk3.setCell (fun h => by dsimp only at h; omega) _).setCell (fun h => by dsimp only at h; omega) _⟩

set_option maxRecDepth 100000 in
set_option maxHeartbeats 1000000 in
theorem place_any (s : ByteArray) (hs : s.size ≤ 1000000) (n : Nat) (hn : n ≤ s.size) (w : World) :
    Calls Try.prog 33 #[.string s, .int .i64 n] w fun e w' => e = .returned (plV s n) ∧ Kept noX w w' := by
  go_enter Try.func33, Try.ntmps33
  go_wp2
  go_loopw [6] (fun i wr => ∃ k : Nat, i = .int .i64 k ∧ k ≤ n ∧ Cells wr w.heap.size 25 [.int .i64 0, .int .i64 0] ∧ Cells wr (w.heap.size + 1) 25 [.int .i64 ((plOf s.data.toList k).1 : Nat), .int .i64 ((plOf s.data.toList k).2 : Nat)] ∧ Kept noX w wr)
    (fun i _ => n - (intOf i).toNat)
  case atStart =>
    have h2 := Cells.fresh (w.alloc (.cells #[.int .i64 0, .int .i64 0] 25)) 25 [.int .i64 1, .int .i64 1]
    rw [World.size_alloc] at h2
    exact ⟨0, rfl, Nat.zero_le _, (Cells.fresh w 25 [.int .i64 0, .int .i64 0]).alloc _, h2, ((Kept.refl _ _).alloc _).alloc _⟩
  case round =>
    obtain ⟨k, rfl, hk, hR, hP, hkp⟩ := hrel
    have hpl := plOf_le s.data.toList k
    have p0 := hP.cell 0; have p1 := hP.cell 1; have f0 := hP.free 0; have f1 := hP.free 1
    simp only [List.getElem?_cons_zero, List.getElem?_cons_succ] at p0 p1
    by_cases hlt : k < n
    · have hlt2 : k < s.size := by omega
      by_cases h10 : s[k] = 10
      · have t10 : ((s[k].toNat : Int) == 10) = true := by rw [h10]; rfl
        have e : plOf s.data.toList (k + 1) = ((plOf s.data.toList k).1 + 1, 1) := by
          conv => lhs; unfold plOf
          rw [byte_at hlt2, h10, if_pos rfl]
        have E := Lib.hid e
        clear h10 e
        go_wp2
        go_roundw
        case rel =>
          refine ⟨k + 1, by go_num, by omega, ((hR.far (by simp) _).far (by simp) _).far (by simp) _, ?_, ?_⟩
          · rw [E.out]
            have := ((hP.put 1 (.int .i64 (((plOf s.data.toList k).2 : Nat) + 1))).put 0 (.int .i64 (((plOf s.data.toList k).1 : Nat) + 1))).put 1 (.int .i64 1)
            simpa using this
          · exact ((hkp.setCell (fun h => by dsimp only at h; omega) _).setCell (fun h => by dsimp only at h; omega) _).setCell (fun h => by dsimp only at h; omega) _
        case measure => simp [intOf]; omega
      · have t10 : ((s[k].toNat : Int) == 10) = false := by
          rw [beq_eq_false_iff_ne]; intro hh; apply h10; apply UInt8.toNat_inj.1; show _ = 10; omega
        have e : plOf s.data.toList (k + 1) = ((plOf s.data.toList k).1, (plOf s.data.toList k).2 + 1) := by
          conv => lhs; unfold plOf
          rw [byte_at hlt2, if_neg (by simpa using h10)]
        have E := Lib.hid e
        clear h10 e
        go_wp2
        go_roundw
        case rel =>
          refine ⟨k + 1, by go_num, by omega, hR.far (by simp) _, ?_, hkp.setCell (fun h => by dsimp only at h; omega) _⟩
          rw [E.out]
          have := hP.put 1 (.int .i64 (((plOf s.data.toList k).2 : Nat) + 1))
          simpa using this
        case measure => simp [intOf]; omega
    · obtain rfl : k = n := by omega
      have r0 := hR.cell 0; have r1 := hR.cell 1; have q0 := hR.free 0; have q1 := hR.free 1
      simp only [List.getElem?_cons_zero, List.getElem?_cons_succ] at r0 r1
      go_wp2
      refine bodyPost_ret (results33_of ((hR.put 0 _).put 1 _) rfl) rfl ?_
      exact ⟨rfl, (hkp.setCell (fun h => by dsimp only at h; omega) _).setCell (fun h => by dsimp only at h; omega) _⟩

set_option maxRecDepth 100000 in
set_option maxHeartbeats 1000000 in
theorem rend_any (s : ByteArray) (hs : s.size ≤ 1000000) (w : World) :
    Calls Try.prog 20 #[.string s] w fun e w' => e = .returned (plV s s.size) ∧ Kept noX w w' := by
  go_enter Try.func20, Try.ntmps20
  go_wp2_with fail
  refine (place_any s hs s.size (Nat.le_refl _) _).mono ?_
  rintro e W1 ⟨rfl, hk1⟩
  have hR := (Cells.fresh w 25 [.int .i64 0, .int .i64 0]).kept hk1 (fun h => h)
  have hk := ((Kept.refl noX w).alloc (.cells #[.int .i64 0, .int .i64 0] 25)).trans hk1
  have r0 := hR.cell 0; have r1 := hR.cell 1; have q0 := hR.free 0; have q1 := hR.free 1
  simp only [List.getElem?_cons_zero, List.getElem?_cons_succ] at r0 r1
  unfold plV
  go_wp2
  refine bodyPost_ret (results20_of ((hR.put 0 _).put 1 _) rfl) rfl ?_
  exact ⟨rfl, (hk.setCell (fun h => by dsimp only at h; omega) _).setCell (fun h => by dsimp only at h; omega) _⟩

set_option maxRecDepth 100000 in
set_option maxHeartbeats 1000000 in
theorem lexEnds_any (s : ByteArray) (w : World) : Calls Try.prog 6 #[.string s] w fun e w' => e = .returned (.bool true) ∧ Kept noX w w' := by
  by_cases hs : s.size ≤ 4000
  · have hd : decide ((4000 : Int) < (s.size : Int)) = false := by simp; omega
    go_enter Try.func6, Try.ntmps6
    go_wp2_with fail
    refine (end_any s (by omega) _).mono ?_
    rintro e W1 ⟨rfl, hk1⟩
    go_wp2_with fail
    refine (rend_any s (by omega) _).mono ?_
    rintro e W2 ⟨rfl, hk2⟩
    unfold plV
    have hk := hk1.trans hk2
    go_wp2_with (go_at_call 10; refine (works_any _).mono ?_; rintro e W3 ⟨rfl, hk3⟩)
    go_ret
    exact ⟨rfl, hk.trans hk3⟩
  · have hd : decide ((4000 : Int) < (s.size : Int)) = true := by simp; omega
    go_enter Try.func6, Try.ntmps6
    go_wp2_with (go_at_call 10; refine (works_any _).mono ?_; rintro e W3 ⟨rfl, hk3⟩)
    go_ret
    exact ⟨rfl, hk3⟩
end Go.Proofs.Ythknjkmkhjjmmaa
