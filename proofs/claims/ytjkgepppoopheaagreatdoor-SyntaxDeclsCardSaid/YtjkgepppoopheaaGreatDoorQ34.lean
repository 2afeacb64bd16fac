/- What the document's End answers: the place behind a text (conditions: the text is of at most 1000000 bytes). -/
import Derived.Test.YtjkgepppoopheaaGreatDoorAbb
import Derived.Test.YtjkgepppoopheaaGreatDoorQ30
set_option maxRecDepth 100000
set_option maxHeartbeats 1000000
namespace Go.Proofs.YtjkgepppoopheaaGreatDoor
open Go.RowKit Go.Shelf
theorem results20_of {W : World} {R : Nat} {tmps : Array Value} {c0 c1 : Value} (h : Cells W R 25 [c0, c1]) (h2 : tmps.getD 2 undef = .pointer (some ⟨R, 0, none⟩)) :
  (results Tryz.f42 tmps).run Tryz.prog W = .ok (.agg #[c0, c1]) W := by
 have d0 := h.cell 0; have d1 := h.cell 1
 simp only [aZ, aS] at d0 d1
 rw [Array.getD_eq_getD_getElem?] at h2
 simp [results, Tryz.results42, go_sem, h2, d0, d1]
theorem results33_of {W : World} {R : Nat} {tmps : Array Value} {c0 c1 : Value} (h : Cells W R 25 [c0, c1]) (h2 : tmps.getD 4 undef = .pointer (some ⟨R, 0, none⟩)) :
  (results Tryz.f88 tmps).run Tryz.prog W = .ok (.agg #[c0, c1]) W := by
 have d0 := h.cell 0; have d1 := h.cell 1
 simp only [aZ, aS] at d0 d1
 rw [Array.getD_eq_getD_getElem?] at h2
 simp [results, Tryz.results88, go_sem, h2, d0, d1]
theorem place_any (s : ByteArray) (hs : s.size ≤ 1000000) (n : Nat) (hn : n ≤ s.size) (w : World) :
  Calls Tryz.prog 88 #[.string s, .int .i64 n] w fun e w' => e = .returned (plV s n) ∧ Kept noX w w' := by
 go_enter Tryz.func88, Tryz.ntmps88
 go_wp2
 go_loopw [6] (fun i wr => ∃ k : Nat, i = .int .i64 k ∧ k ≤ n ∧ Cells wr w.heap.size 25 [.int .i64 0, .int .i64 0] ∧ Cells wr (w.heap.size + 1) 25 [.int .i64 ((plOf s.data.toList k).1 : Nat), .int .i64 ((plOf s.data.toList k).2 : Nat)] ∧ Kept noX w wr)
  (fun i _ => n - (intOf i).toNat)
 case atStart =>
  have h2 := Cells.fresh (w.alloc (.cells #[.int .i64 0, .int .i64 0] 25)) 25 [.int .i64 1, .int .i64 1]
  rw [World.size_alloc] at h2
  exact ⟨0, rfl, Nat.zero_le _, (Cells.fresh w 25 [.int .i64 0, .int .i64 0]).alloc _, h2, ((Kept.refl _ _).alloc _).alloc _⟩
 case round =>
  obtain ⟨k, rfl, hk, hR, hP, hkp⟩ := hrel
  have hpl := plOf_le s.data.toList k
  have p0 := hP.cell 0; have p1 := hP.cell 1; have f0 := hP.free 0; have f1 := hP.free 1
  simp only [aZ, aS] at p0 p1
  by_cases hlt : k < n
  ·have hlt2 : k < s.size := by omega
   by_cases h10 : s[k] = 10
   ·have t10 : ((s[k].toNat : Int) == 10) = true := by rw [h10] <;> rfl
    have e : plOf s.data.toList (k + 1) = ((plOf s.data.toList k).1 + 1, 1) := by
     conv => lhs; unfold plOf
     rw [byte_at hlt2, h10, if_pos rfl]
    have E := aP e
    clear h10 e
    go_wp2
    go_roundw
    case rel =>
     refine ⟨k + 1, by go_num, by omega, ((hR.far (by simp) _).far (by simp) _).far (by simp) _, ?_, ?_⟩
     ·rw [E.out]
      have := ((hP.put 1 (.int .i64 (((plOf s.data.toList k).2 : Nat) + 1))).put 0 (.int .i64 (((plOf s.data.toList k).1 : Nat) + 1))).put 1 (.int .i64 1)
      simpa using this
     ·exact ((hkp.setCell (fun h => by dsimp only at h; omega) _).setCell (fun h => by dsimp only at h; omega) _).setCell (fun h => by dsimp only at h; omega) _
    case measure => simp [intOf]; omega
   ·have t10 : ((s[k].toNat : Int) == 10) = false := by
     rw [beq_eq_false_iff_ne]; intro hh; apply h10; apply UInt8.toNat_inj.1; show _ = 10; omega
    have e : plOf s.data.toList (k + 1) = ((plOf s.data.toList k).1, (plOf s.data.toList k).2 + 1) := by
     conv => lhs; unfold plOf
     rw [byte_at hlt2, if_neg (by simpa using h10)]
    have E := aP e
    clear h10 e
    go_wp2
    go_roundw
    case rel =>
     refine ⟨k + 1, by go_num, by omega, hR.far (by simp) _, ?_, hkp.setCell (fun h => by dsimp only at h; omega) _⟩
     rw [E.out]
     have := hP.put 1 (.int .i64 (((plOf s.data.toList k).2 : Nat) + 1))
     simpa using this
    case measure => simp [intOf]; omega
  ·obtain rfl : k = n := by omega
   have r0 := hR.cell 0; have r1 := hR.cell 1; have q0 := hR.free 0; have q1 := hR.free 1
   simp only [aZ, aS] at r0 r1
   go_wp2
   refine bodyPost_ret (results33_of ((hR.put 0 _).put 1 _) rfl) rfl ?_
   exact ⟨rfl, (hkp.setCell (fun h => by dsimp only at h; omega) _).setCell (fun h => by dsimp only at h; omega) _⟩
theorem rend_any (s : ByteArray) (hs : s.size ≤ 1000000) (w : World) :
  Calls Tryz.prog 42 #[.string s] w fun e w' => e = .returned (plV s s.size) ∧ Kept noX w w' := by
 go_enter Tryz.func42, Tryz.ntmps42
 go_wp2_with fail
 refine (place_any s hs s.size (Nat.le_refl _) _).mono ?_
 rintro e W1 ⟨rfl, hk1⟩
 have hR := (Cells.fresh w 25 [.int .i64 0, .int .i64 0]).kept hk1 (fun h => h)
 have hk := ((Kept.refl noX w).alloc (.cells #[.int .i64 0, .int .i64 0] 25)).trans hk1
 have r0 := hR.cell 0; have r1 := hR.cell 1; have q0 := hR.free 0; have q1 := hR.free 1
 simp only [aZ, aS] at r0 r1
 unfold plV
 go_wp2
 refine bodyPost_ret (results20_of ((hR.put 0 _).put 1 _) rfl) rfl ?_
 exact ⟨rfl, (hk.setCell (fun h => by dsimp only at h; omega) _).setCell (fun h => by dsimp only at h; omega) _⟩
end Go.Proofs.YtjkgepppoopheaaGreatDoor
