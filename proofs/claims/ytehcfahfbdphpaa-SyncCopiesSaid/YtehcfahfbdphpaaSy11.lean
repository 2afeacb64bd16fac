/- Layer 4: New answers a state of so many parts, or that it may not be (conditions: fewer than 2^40 rooms). -/
import Derived.Test.YtehcfahfbdphpaaSy10
namespace Go.Proofs.Ytehcfahfbdphpaa
open Go.RowKit Go.Shelf

theorem initS_at {w0 w : World} {p gm gc gq : Nat} {m c : Nat} {rooms : List Int} (hp : Cells w p 79 [.bool true, .slice (some ⟨gm, 0, none⟩) m m, .slice (some ⟨gc, 0, none⟩) c c, .slice (some ⟨gq, 0, none⟩) rooms.length rooms.length])
    (hm : m ≤ 64) (hc : c ≤ 64) (hr : rooms.length ≤ 64) (hC3 : Cells w gm 86 (List.replicate m (.int .i64 (-1)))) (hC5 : Cells w gc 99 (zerosC c)) (hC8 : ChI w gq rooms.length rooms rooms.length)
    (hg : w0.heap.size ≤ p ∧ w0.heap.size ≤ gm ∧ w0.heap.size ≤ gc ∧ w0.heap.size ≤ gq) :
    ∃ T, SyAt w T p (initS m c rooms) ∧ ∀ g, T g ≠ 0 → w0.heap.size ≤ g := by
  obtain ⟨cur, hC8, hcl, hcur⟩ := hC8
  have n1 := cells_ne hp hC3 (by decide)
  have n2 := cells_ne hp hC5 (by decide)
  have n3 := cells_ne hp hC8 (by decide)
  have n4 := cells_ne hC3 hC5 (by decide)
  have n5 := cells_ne hC3 hC8 (by decide)
  have n6 := cells_ne hC5 hC8 (by decide)
  have n0 : ∀ t : TypeId, World.ownsRow w 0 t 1 (.slice none 0 0) 0 [] := fun t => World.ownsRow_nil w 0 t 1
  refine ⟨fun g => if g = p then 1 else if g = gm then 2 else if g = gc then 3 else if g = gq then 4 else 0, ⟨some ⟨gm, 0, none⟩, some ⟨gc, 0, none⟩, some ⟨gq, 0, none⟩, m, c, rooms.length, List.replicate m (.int .i64 (-1)), zerosC c, cur, ⟨?_, if_pos rfl⟩, ⟨fun _ => ⟨gm, rfl, hC3, ?_⟩, fun _ => ⟨gc, rfl, hC5, ?_⟩, fun _ => ⟨gq, rfl, hC8, ?_⟩⟩, ?_, ?_, ?_, ?_, ?_⟩, ?_⟩
  · simpa [initS] using hp
  · dsimp only; rw [if_neg (fun h => n1 h.symm), if_pos rfl]
  · dsimp only; rw [if_neg (fun h => n2 h.symm), if_neg (fun h => n4 h.symm), if_pos rfl]
  · dsimp only; rw [if_neg (fun h => n3 h.symm), if_neg (fun h => n5 h.symm), if_neg (fun h => n6 h.symm), if_pos rfl]
  · intro i hi
    have hi' : i < m := by simpa [initS] using hi
    simp [initS, hi']
  · intro i hi
    have hi' : i < c := by simpa [initS] using hi
    refine ⟨.slice none 0 0, by simp [zerosC, hi'], ?_⟩
    have e : (initS (m : Int) (c : Int) rooms).cs[i] = [] := by simp [initS]
    rw [e]
    exact ⟨n0 _, ⟨fun g (hg : (Value.slice none 0 0).ownBlock = some g) => (by cases hg), Nat.zero_le _⟩⟩
  · intro i hi
    have hi' : i < rooms.length := by simpa [initS] using hi
    obtain ⟨q0, q1, q2⟩ := hcur i hi'
    rw [if_pos hi', List.getD_eq_getElem?_getD, List.getElem?_eq_getElem hi'] at q1
    have e : (initS (m : Int) (c : Int) rooms).qs[i] = ⟨[], rooms[i], 0⟩ := by simp [initS]
    rw [e]
    exact ⟨.slice none 0 0, q0, q1, q2, ⟨n0 _, ⟨fun g (hg : (Value.slice none 0 0).ownBlock = some g) => (by cases hg), Nat.zero_le _⟩⟩⟩
  · intro g hg
    dsimp only at hg
    split at hg
    · rename_i h; rw [h]; exact hp.lt
    · split at hg
      · rename_i h; rw [h]; exact hC3.lt
      · split at hg
        · rename_i h; rw [h]; exact hC5.lt
        · split at hg
          · rename_i h; rw [h]; exact hC8.lt
          · exact absurd rfl hg
  · exact ⟨by simpa [initS] using hm, by simpa [initS] using hc, by simpa [initS] using hr⟩
  · intro g hg
    dsimp only at hg
    split at hg
    · omega
    · split at hg
      · omega
      · split at hg
        · omega
        · split at hg
          · omega
          · exact absurd rfl hg

set_option maxRecDepth 100000 in
set_option maxHeartbeats 1000000 in
theorem new_any (m c : Int) (A : Option Addr) (rc : Nat) (rooms : List Int) (hlen : rooms.length ≤ 1099511627776) (w : World) (hv : RowV w noX (.slice A rooms.length rc) (rooms.map (D.int .i64))) :
    Calls Try.prog 12 #[.int .i64 m, .int .i64 c, .slice A rooms.length rc] w fun e w' =>
      (okN m c rooms = true ∧ ∃ p T, e = .returned (.tuple #[.pointer (some ⟨p, 0, none⟩), .int .i64 0]) ∧ SyAt w' T p (initS m c rooms) ∧ (∀ g, T g ≠ 0 → w.heap.size ≤ g) ∧ Kept noX w w') ∨
      (okN m c rooms = false ∧ e = .returned (.tuple #[.pointer none, .int .i64 2]) ∧ Kept noX w w') := by
  have hC := Cells.fresh w 3 [.int .i64 m, .int .i64 c, .int .i64 (rooms.length : Nat)]
  have hka : Kept noX w (w.alloc (.cells #[.int .i64 m, .int .i64 c, .int .i64 (rooms.length : Nat)] 3)) := (Kept.refl _ _).alloc _
  have HW := Lib.hid (within_any 0 64 w.heap.size 0 3 [m, c, (rooms.length : Int)] (by simp) _ (cells_ints (xs := [m, c, (rooms.length : Int)]) hC))
  have HV := Lib.hid (hv.keep hka)
  have hokd : okN m c rooms = ([m, c, (rooms.length : Int)].all (inI 0 64) && rooms.all (inI 1 16)) := rfl
  clear hC hv
  cases ha : [m, c, (rooms.length : Int)].all (inI 0 64) with
  | false =>
    rw [ha] at HW
    have HO : Hid (okN m c rooms = false) := Lib.hid (by rw [hokd, ha]; rfl)
    clear hokd ha
    go_enter Try.func12, Try.ntmps12
    go_wp2_with fail
    refine HW.out.mono ?_
    rintro e W1 ⟨rfl, rfl⟩
    go_wp2
    go_ret2
    exact .inr ⟨HO.out, rfl, hka⟩
  | true =>
    rw [ha] at HW
    have hbnd : (0 ≤ m ∧ m ≤ 64) ∧ (0 ≤ c ∧ c ≤ 64) ∧ (rooms.length : Int) ≤ 64 := by
      simp [inI] at ha
      omega
    have HW2 := Lib.hid (within_row 1 16 A rc rooms (by omega) _ HV.out)
    cases hb : rooms.all (inI 1 16) with
    | false =>
      rw [hb] at HW2
      have HO : Hid (okN m c rooms = false) := Lib.hid (by rw [hokd, ha, hb]; rfl)
      clear hokd ha hb
      go_enter Try.func12, Try.ntmps12
      go_wp2_with fail
      refine HW.out.mono ?_
      rintro e W1 ⟨rfl, rfl⟩
      go_wp2_with fail
      refine HW2.out.mono ?_
      rintro e W1 ⟨rfl, rfl⟩
      go_wp2
      go_ret2
      exact .inr ⟨HO.out, rfl, hka⟩
    | true =>
      rw [hb] at HW2
      have HO : Hid (okN m c rooms = true) := Lib.hid (by rw [hokd, ha, hb]; rfl)
      obtain ⟨M, rfl⟩ : ∃ M : Nat, m = M := ⟨m.toNat, by omega⟩
      obtain ⟨C, rfl⟩ : ∃ C : Nat, c = C := ⟨c.toNat, by omega⟩
      have hM : M ≤ 64 := by omega
      have hC : C ≤ 64 := by omega
      have hR : rooms.length ≤ 64 := by omega
      have HL := Lib.hid (lay_any M C hM hC A rc rooms hR _ HV.out)
      clear hokd ha hb hbnd
      go_enter Try.func12, Try.ntmps12
      go_wp2_with fail
      refine HW.out.mono ?_
      rintro e W1 ⟨rfl, rfl⟩
      go_wp2_with fail
      refine HW2.out.mono ?_
      rintro e W1 ⟨rfl, rfl⟩
      go_wp2_with (go_at_call 35; refine HL.out.mono ?_; rintro e W1 ⟨gm, gc, gq, rfl, hk1, hg1, h3, h5, h8⟩)
      go_ret2
      have hkb : Kept noX W1 (W1.alloc (.cells #[.bool true, .slice (some ⟨gm, 0, none⟩) M M, .slice (some ⟨gc, 0, none⟩) C C, .slice (some ⟨gq, 0, none⟩) rooms.length rooms.length] 79)) := (Kept.refl _ _).alloc _
      have hs1 := hka.size
      have hs2 := hk1.size
      obtain ⟨cur, h8, hcl, hcur⟩ := h8
      obtain ⟨T, h1, h2⟩ := initS_at (w0 := w) (Cells.fresh W1 79 [.bool true, .slice (some ⟨gm, 0, none⟩) M M, .slice (some ⟨gc, 0, none⟩) C C, .slice (some ⟨gq, 0, none⟩) rooms.length rooms.length]) hM hC hR (h3.keep hkb) (h5.keep hkb) ⟨cur, h8.keep hkb, hcl, hcur⟩ ⟨by omega, by omega, by omega, by omega⟩
      exact .inl ⟨HO.out, _, T, rfl, h1, h2, (hka.trans hk1).trans hkb⟩
end Go.Proofs.Ytehcfahfbdphpaa
