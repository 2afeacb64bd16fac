/- Layer 4's queues: what is laid into one and taken out (conditions: at most 2^40 things). -/
import Derived.Test.YtehcfahfbdphpaaSy3
namespace Go.Proofs.Ytehcfahfbdphpaa
open Go.RowKit Go.Shelf

theorem own_form0 {w : World} {base : Nat} {t : TypeId} {size n : Nat} {v : Value} {xs : List Value} (h : w.ownsRow base t size v n xs) : ∃ A n' c, v = .slice A n' c := by
  rcases h.2 with ⟨rfl, _⟩ | ⟨g, cap, cur, rfl, _⟩
  · exact ⟨_, _, _, rfl⟩
  · exact ⟨_, _, _, rfl⟩
theorem own_some {w : World} {base : Nat} {t : TypeId} {size n : Nat} {v : Value} {xs : List Value} (h : w.ownsRow base t size v (n + 1) xs) : ∃ b cap, v = .slice (some ⟨b, 0, none⟩) (n + 1) cap ∧ cap ≤ 9223372036854775807 := by
  rcases h.2 with ⟨_, h0⟩ | ⟨g, cap, cur, rfl, _, _, _, hm, _⟩
  · omega
  · unfold maxLen at hm
    exact ⟨g, cap, rfl, by omega⟩
set_option maxRecDepth 100000 in
set_option maxHeartbeats 1000000 in
theorem put_any (x : Int) (xs : List Int) (g o : Nat) (t : TypeId) (cs : List Value) (v : Value) (w : World) (hC : Cells w g t cs) (hv : cs[o]? = some v) (hown : w.ownsRow 0 3 1 v xs.length (xs.map (.int .i64))) (hne : v.ownBlock ≠ some g) (hlen : xs.length ≤ 1099511627776) :
    Calls Try.prog 54 #[.pointer (some ⟨g, o, none⟩), .int .i64 x] w fun e w' => e = .returned (.tuple #[]) ∧ ∃ v', Cells w' g t (cs.set o v') ∧ w'.ownsRow 0 3 1 v' (xs ++ [x]).length ((xs ++ [x]).map (.int .i64)) ∧
      (v'.ownBlock = v.ownBlock ∨ v'.ownBlock = some (w.heap.size + 1)) ∧ Kept (fun k => k = g ∨ v.ownBlock = some k) w w' := by
  obtain ⟨A0, n0, cc0, rfl⟩ := own_form0 hown
  obtain ⟨i0, hi0, hz0, hz1, hz2⟩ := info_parts infoI
  have c0 := hC.cell o
  rw [hv] at c0
  have HC := Lib.hid hC
  have HO := Lib.hid (hown.alloc (.cells #[.int .i64 x] 3))
  have HN := Lib.hid (cell_one_new w (.int .i64 x) 3)
  have HX := Lib.hid hne
  have hgl := hC.lt
  clear hC hown hne
  go_enter Try.func54, Try.ntmps54
  go_wp2_with (at_builtin; refine wpList_append_own_at _ rfl _ _ 22 rfl 0 3 i0 (.int .i64 0) 1 8 Try.underlying22 hi0 hz0 hz1 hz2 rfl (by decide) (.slice A0 n0 cc0) xs.length (xs.map (.int .i64)) rfl HO.out ⟨w.heap.size, 0, none⟩ 1 1 [.int .i64 x] rfl rfl HN.out (by intro u hu; obtain rfl := List.mem_singleton.1 hu; rfl) (by unfold maxLen; omega) (by omega) (Nat.zero_le _) ?_
               intro v' W1 hown' hgrow _ hat
               have hk1 : Kept (fun k => (Value.slice A0 n0 cc0).ownBlock = some k) w W1 := ((Kept.refl _ _).alloc _).grown hgrow (fun k hk _ => hk)
               have hC1 := HC.out.kept hk1 HX.out
               have c1 := hC1.cell o
               rw [hv] at c1
               have f1 := hC1.free o
               have HC1 := Lib.hid hC1
               have HO1 := Lib.hid hown'
               have HAT := Lib.hid hat
               obtain ⟨A', n', c', rfl⟩ := own_form0 hown'
               clear hC1 hown' hat hgrow)
  go_end0
  have hloc := HAT.out
  rw [World.size_alloc] at hloc
  have hne' : (Value.slice A' n' c').ownBlock ≠ some g := fun h => by
    rcases hloc with h1 | h1
    · exact HX.out (h1.symm.trans h)
    · rw [h1] at h; injection h with h; omega
  refine ⟨rfl, _, HC1.out.put o _, ?_, hloc, ?_⟩
  · have := own_kept HO1.out ((Kept.refl (· = g) W1).setCell (p := ⟨g, o, none⟩) (fun _ => rfl) (.slice A' n' c')) (fun b hb h => hne' (by rw [hb, h]))
    simpa using this
  · exact ((hk1.mono (fun k _ h => Or.inr h) : Kept (fun k => k = g ∨ (Value.slice A0 n0 cc0).ownBlock = some k) w W1)).setCell (fun _ => Or.inl rfl) _
set_option maxRecDepth 100000 in
set_option maxHeartbeats 1000000 in
theorem put64_any (x : Int) (xs : List Int) (g o : Nat) (t : TypeId) (cs : List Value) (v : Value) (w : World) (hC : Cells w g t cs) (hv : cs[o]? = some v) (hown : w.ownsRow 0 2 1 v xs.length (xs.map (.int .i64))) (hne : v.ownBlock ≠ some g) (hlen : xs.length ≤ 1099511627776) :
    Calls Try.prog 47 #[.pointer (some ⟨g, o, none⟩), .int .i64 x] w fun e w' => e = .returned (.tuple #[]) ∧ ∃ v', Cells w' g t (cs.set o v') ∧ w'.ownsRow 0 2 1 v' (xs ++ [x]).length ((xs ++ [x]).map (.int .i64)) ∧
      (v'.ownBlock = v.ownBlock ∨ v'.ownBlock = some (w.heap.size + 1)) ∧ Kept (fun k => k = g ∨ v.ownBlock = some k) w w' := by
  obtain ⟨A0, n0, cc0, rfl⟩ := own_form0 hown
  obtain ⟨i0, hi0, hz0, hz1, hz2⟩ := info_parts infoI64
  have c0 := hC.cell o
  rw [hv] at c0
  have HC := Lib.hid hC
  have HO := Lib.hid (hown.alloc (.cells #[.int .i64 x] 2))
  have HN := Lib.hid (cell_one_new w (.int .i64 x) 2)
  have HX := Lib.hid hne
  have hgl := hC.lt
  clear hC hown hne
  go_enter Try.func47, Try.ntmps47
  go_wp2_with (at_builtin; refine wpList_append_own_at _ rfl _ _ 47 rfl 0 2 i0 (.int .i64 0) 1 8 Try.underlying47 hi0 hz0 hz1 hz2 rfl (by decide) (.slice A0 n0 cc0) xs.length (xs.map (.int .i64)) rfl HO.out ⟨w.heap.size, 0, none⟩ 1 1 [.int .i64 x] rfl rfl HN.out (by intro u hu; obtain rfl := List.mem_singleton.1 hu; rfl) (by unfold maxLen; omega) (by omega) (Nat.zero_le _) ?_
               intro v' W1 hown' hgrow _ hat
               have hk1 : Kept (fun k => (Value.slice A0 n0 cc0).ownBlock = some k) w W1 := ((Kept.refl _ _).alloc _).grown hgrow (fun k hk _ => hk)
               have hC1 := HC.out.kept hk1 HX.out
               have c1 := hC1.cell o
               rw [hv] at c1
               have f1 := hC1.free o
               have HC1 := Lib.hid hC1
               have HO1 := Lib.hid hown'
               have HAT := Lib.hid hat
               obtain ⟨A', n', c', rfl⟩ := own_form0 hown'
               clear hC1 hown' hat hgrow)
  go_end0
  have hloc := HAT.out
  rw [World.size_alloc] at hloc
  have hne' : (Value.slice A' n' c').ownBlock ≠ some g := fun h => by
    rcases hloc with h1 | h1
    · exact HX.out (h1.symm.trans h)
    · rw [h1] at h; injection h with h; omega
  refine ⟨rfl, _, HC1.out.put o _, ?_, hloc, ?_⟩
  · have := own_kept HO1.out ((Kept.refl (· = g) W1).setCell (p := ⟨g, o, none⟩) (fun _ => rfl) (.slice A' n' c')) (fun b hb h => hne' (by rw [hb, h]))
    simpa using this
  · exact ((hk1.mono (fun k _ h => Or.inr h) : Kept (fun k => k = g ∨ (Value.slice A0 n0 cc0).ownBlock = some k) w W1)).setCell (fun _ => Or.inl rfl) _
set_option maxRecDepth 100000 in
set_option maxHeartbeats 1000000 in
theorem take_nil (g o : Nat) (t : TypeId) (cs : List Value) (A : Option Addr) (c : Nat) (w : World) (hC : Cells w g t cs) (hv : cs[o]? = some (.slice A 0 c)) :
    Calls Try.prog 44 #[.pointer (some ⟨g, o, none⟩)] w fun e w' => e = .returned (.tuple #[.int .i64 0, .bool false]) ∧ w' = w := by
  have c0 := hC.cell o
  rw [hv] at c0
  clear hC
  go_enter Try.func44, Try.ntmps44
  go_wp2
  go_ret2
  exact ⟨rfl, rfl⟩
set_option maxRecDepth 100000 in
set_option maxHeartbeats 1000000 in
theorem take_some (x : Int) (xs : List Int) (g o : Nat) (t : TypeId) (cs : List Value) (v : Value) (w : World) (hC : Cells w g t cs) (hv : cs[o]? = some v) (hown : w.ownsRow 0 3 1 v (x :: xs).length ((x :: xs).map (.int .i64))) (hne : v.ownBlock ≠ some g) (hlen : xs.length ≤ 1099511627776) :
    Calls Try.prog 44 #[.pointer (some ⟨g, o, none⟩)] w fun e w' => e = .returned (.tuple #[.int .i64 x, .bool true]) ∧ ∃ v', Cells w' g t (cs.set o v') ∧ w'.ownsRow 0 3 1 v' xs.length (xs.map (.int .i64)) ∧ v'.ownBlock = v.ownBlock ∧ Kept (fun k => k = g ∨ v.ownBlock = some k) w w' := by
  obtain ⟨b, cap, rfl, hm⟩ := own_some hown
  have hbg : b ≠ g := fun h => hne (by rw [h]; rfl)
  have c0 := hC.cell o
  rw [hv] at c0
  obtain ⟨cur, rest, hB, hcur, hcl, hcap⟩ := own_cells hown
  have b0 := hB.cell 0
  rw [hcur] at b0
  simp only [List.map_cons, List.cons_append, List.getElem?_cons_zero] at b0
  have HC := Lib.hid hC
  have HW := Lib.hid (delete_any x xs b cap w hown hm)
  obtain ⟨N, hN⟩ : ∃ N, N = xs.length + 1 := ⟨_, rfl⟩
  have HN := Lib.hid hN
  have hN0 : (0 : Int) < (N : Int) := by omega
  have hN1 : ((N : Int) == 0) = false := by simp; omega
  simp only [← hN] at c0 HW
  clear hC hown hne hB hcur hcl hN hv
  go_enter Try.func44, Try.ntmps44
  go_wp2_with fail
  refine HW.out.mono ?_
  rintro e W1 ⟨rfl, hown1, hk1⟩
  have hC1 := HC.out.kept hk1 (fun h => hbg h.symm)
  have f1 := hC1.free o
  have c1 : W1.cell? ⟨g, o, none⟩ = some (.slice (some ⟨b, 0, none⟩) N cap) := (World.cell?_of_block (hk1.block _ HC.out.lt (fun h => hbg h.symm))).trans c0
  have HC1 := Lib.hid hC1
  have HO1 := Lib.hid hown1
  clear hC1 hown1
  go_wp2
  go_ret2
  refine ⟨rfl, _, HC1.out.put o _, ?_, rfl, ((hk1.mono (fun k _ h => Or.inr (congrArg some h.symm)) : Kept (fun k => k = g ∨ some b = some k) w W1)).setCell (fun _ => Or.inl rfl) _⟩
  exact own_kept HO1.out ((Kept.refl (· = g) W1).setCell (p := ⟨g, o, none⟩) (fun _ => rfl) _) (fun b' hb h => hbg ((Option.some.inj hb).trans h))
set_option maxRecDepth 100000 in
set_option maxHeartbeats 1000000 in
theorem take64_nil (g o : Nat) (t : TypeId) (cs : List Value) (A : Option Addr) (c : Nat) (w : World) (hC : Cells w g t cs) (hv : cs[o]? = some (.slice A 0 c)) :
    Calls Try.prog 49 #[.pointer (some ⟨g, o, none⟩)] w fun e w' => e = .returned (.tuple #[.int .i64 0, .bool false]) ∧ w' = w := by
  have c0 := hC.cell o
  rw [hv] at c0
  clear hC
  go_enter Try.func49, Try.ntmps49
  go_wp2
  go_ret2
  exact ⟨rfl, rfl⟩
set_option maxRecDepth 100000 in
set_option maxHeartbeats 1000000 in
theorem take64_some (x : Int) (xs : List Int) (g o : Nat) (t : TypeId) (cs : List Value) (v : Value) (w : World) (hC : Cells w g t cs) (hv : cs[o]? = some v) (hown : w.ownsRow 0 2 1 v (x :: xs).length ((x :: xs).map (.int .i64))) (hne : v.ownBlock ≠ some g) (hlen : xs.length ≤ 1099511627776) :
    Calls Try.prog 49 #[.pointer (some ⟨g, o, none⟩)] w fun e w' => e = .returned (.tuple #[.int .i64 x, .bool true]) ∧ ∃ v', Cells w' g t (cs.set o v') ∧ w'.ownsRow 0 2 1 v' xs.length (xs.map (.int .i64)) ∧ v'.ownBlock = v.ownBlock ∧ Kept (fun k => k = g ∨ v.ownBlock = some k) w w' := by
  obtain ⟨b, cap, rfl, hm⟩ := own_some hown
  have hbg : b ≠ g := fun h => hne (by rw [h]; rfl)
  have c0 := hC.cell o
  rw [hv] at c0
  obtain ⟨cur, rest, hB, hcur, hcl, hcap⟩ := own_cells hown
  have b0 := hB.cell 0
  rw [hcur] at b0
  simp only [List.map_cons, List.cons_append, List.getElem?_cons_zero] at b0
  have HC := Lib.hid hC
  have HW := Lib.hid (delete64_any x xs b cap w hown hm)
  obtain ⟨N, hN⟩ : ∃ N, N = xs.length + 1 := ⟨_, rfl⟩
  have HN := Lib.hid hN
  have hN0 : (0 : Int) < (N : Int) := by omega
  have hN1 : ((N : Int) == 0) = false := by simp; omega
  simp only [← hN] at c0 HW
  clear hC hown hne hB hcur hcl hN hv
  go_enter Try.func49, Try.ntmps49
  go_wp2_with fail
  refine HW.out.mono ?_
  rintro e W1 ⟨rfl, hown1, hk1⟩
  have hC1 := HC.out.kept hk1 (fun h => hbg h.symm)
  have f1 := hC1.free o
  have c1 : W1.cell? ⟨g, o, none⟩ = some (.slice (some ⟨b, 0, none⟩) N cap) := (World.cell?_of_block (hk1.block _ HC.out.lt (fun h => hbg h.symm))).trans c0
  have HC1 := Lib.hid hC1
  have HO1 := Lib.hid hown1
  clear hC1 hown1
  go_wp2
  go_ret2
  refine ⟨rfl, _, HC1.out.put o _, ?_, rfl, ((hk1.mono (fun k _ h => Or.inr (congrArg some h.symm)) : Kept (fun k => k = g ∨ some b = some k) w W1)).setCell (fun _ => Or.inl rfl) _⟩
  exact own_kept HO1.out ((Kept.refl (· = g) W1).setCell (p := ⟨g, o, none⟩) (fun _ => rfl) _) (fun b' hb h => hbg ((Option.some.inj hb).trans h))
end Go.Proofs.Ytehcfahfbdphpaa
