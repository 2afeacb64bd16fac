/- Layer 4's queues: a thing is laid behind all others, the first one is taken out (conditions: fewer than 2^40 things). -/
import Derived.Test.YtehcfahfbdphpaaSy2
import Derived.Shelf.RegionOpenPlain
import Derived.Deep.RegionLaw
import Derived.Lib.SliceRun
import Derived.Lib.SlicesDelete
namespace Go.Proofs.Ytehcfahfbdphpaa
open Go.RowKit Go.Shelf

def setL (cs : List Value) (o : Nat) : List Value → List Value
  | [] => cs
  | v :: vs => setL (cs.set o v) (o + 1) vs
theorem Cells.setCells {g : Nat} {t : TypeId} : ∀ (vs : List Value) (o : Nat) {w : World} (cs : List Value), Cells w g t cs → Cells (w.setCells g o vs) g t (setL cs o vs)
  | [], _, _, _, h => h
  | v :: vs, o, _, cs, h => Cells.setCells vs (o + 1) (cs.set o v) (h.put o v)
theorem Kept.setCells {X : Nat → Prop} {g : Nat} {a : World} (hg : g < a.heap.size → X g) : ∀ (vs : List Value) (o : Nat) {w : World}, Kept X a w → Kept X a (w.setCells g o vs)
  | [], _, _, h => h
  | v :: vs, o, _, h => Kept.setCells hg vs (o + 1) (h.setCell (p := ⟨g, o, none⟩) hg v)
theorem setL_eq : ∀ (vs : List Value) (o : Nat) (cs : List Value), o + vs.length ≤ cs.length → setL cs o vs = cs.take o ++ vs ++ cs.drop (o + vs.length)
  | [], o, cs, _ => by simp [setL]
  | v :: vs, o, cs, h => by
    have h' : o + 1 + vs.length ≤ (cs.set o v).length := by simp at h ⊢; omega
    have ho : o < cs.length := by simp at h; omega
    rw [setL, setL_eq vs (o + 1) (cs.set o v) h']
    have e1 : (cs.set o v).take (o + 1) = cs.take o ++ [v] := by
      rw [List.take_add_one, List.take_set_of_le (Nat.le_refl o), List.getElem?_set_self ho]
      rfl
    have e2 : (cs.set o v).drop (o + 1 + vs.length) = cs.drop (o + (v :: vs).length) := by
      rw [List.drop_set_of_lt (by omega)]
      congr 1
      simp
      omega
    rw [e1, e2]
    simp
theorem own_cells {w : World} {t : TypeId} {b n cap : Nat} {xs : List Value} (h : w.ownsRow 0 t 1 (.slice (some ⟨b, 0, none⟩) n cap) n xs) :
    ∃ cur rest, Cells w b t cur ∧ cur = xs ++ rest ∧ cur.length = cap ∧ n ≤ cap := by
  obtain ⟨h1, ⟨h2, _⟩ | ⟨g, cap', cur, hv, _, hg, h3, _, h4, h5⟩⟩ := h
  · cases h2
  · injection hv with ha _ hc
    injection ha with ha
    injection ha with ha
    subst ha hc
    refine ⟨cur.toList, cur.toList.drop (n * 1), hg, by rw [← h5, List.take_append_drop], by simpa using h4, h3⟩
theorem cells_own {w : World} {t : TypeId} {b n cap : Nat} {cur xs : List Value} (h : Cells w b t cur) (hl : cur.length = cap) (hx : xs.length = n) (hn : n ≤ cap) (hm : cap ≤ maxLen) (hp : cur.take n = xs) :
    w.ownsRow 0 t 1 (.slice (some ⟨b, 0, none⟩) n cap) n xs :=
  ⟨by rw [Nat.mul_one]; exact hx, .inr ⟨b, cap, cur.toArray, rfl, Nat.zero_le _, h, hn, hm, by simpa using hl, by simpa using hp⟩⟩
theorem infoI : (Try.prog.info? 3).map (fun i => (i.zero, i.size, i.bytes)) = some (some (.int .i64 0), 1, 8) := by kernel_rfl
theorem infoI64 : (Try.prog.info? 2).map (fun i => (i.zero, i.size, i.bytes)) = some (some (.int .i64 0), 1, 8) := by kernel_rfl
theorem zeroI : ∀ w, (zeroValue 3).run Try.prog w = .ok (.int .i64 0) w := fun w => by kernel_rfl
theorem zeroI64 : ∀ w, (zeroValue 2).run Try.prog w = .ok (.int .i64 0) w := fun w => by kernel_rfl
set_option maxRecDepth 100000 in
set_option maxHeartbeats 1000000 in
theorem delete_any (x : Int) (xs : List Int) (b cap : Nat) (w : World) (hown : w.ownsRow 0 3 1 (.slice (some ⟨b, 0, none⟩) (xs.length + 1) cap) (xs.length + 1) ((x :: xs).map (.int .i64))) (hm : cap ≤ 9223372036854775807) :
    Calls Try.prog 70 #[.slice (some ⟨b, 0, none⟩) ((xs.length + 1 : Nat)) cap, .int .i64 0, .int .i64 1] w fun e w' => e = .returned (.slice (some ⟨b, 0, none⟩) xs.length cap) ∧
      w'.ownsRow 0 3 1 (.slice (some ⟨b, 0, none⟩) xs.length cap) xs.length (xs.map (.int .i64)) ∧ Kept (· = b) w w' := by
  obtain ⟨cur, rest, hC, hcur, hlen, hncap⟩ := own_cells hown
  obtain ⟨i0, hi0, hz0, hz1, hz2⟩ := info_parts infoI
  have hrl : (xs.map (Value.int .i64)).length = xs.length := List.length_map _
  obtain ⟨news, hnews⟩ : ∃ news, news = xs.map (Value.int .i64) := ⟨_, rfl⟩
  have hcell : ∀ j, w.cell? ⟨b, j, none⟩ = ((Value.int .i64 x :: news) ++ rest)[j]? := fun j => by rw [hnews, hC.cell j, hcur]; rfl
  have hfree : ∀ j, w.frozen? ⟨b, j, none⟩ = false := fun j => hC.free j
  have s1 : Hid (news.length = xs.length * 1) := by rw [Nat.mul_one, hnews]; exact hrl
  have s2 : Hid (∀ u ∈ news, u.oneCell' = true) := by
    intro u hu
    rw [hnews] at hu
    obtain ⟨q, _, rfl⟩ := List.mem_map.1 hu
    rfl
  have s3 : Hid (∀ t, t < news.length → (w.drew.cell? ⟨b, 0 + 0 * 1 + t, none⟩).isSome = true ∧ w.drew.frozen? ⟨b, 0 + 0 * 1 + t, none⟩ = false) := by
    intro t ht
    have e : 0 + 0 * 1 + t = t := by omega
    rw [e]
    refine ⟨?_, hfree t⟩
    show (w.cell? _).isSome = true
    rw [hcell t]
    simp
    omega
  obtain ⟨A, hA, hsrc⟩ : ∃ A : Addr, (if cap = 1 then some (⟨b, 0, none⟩ : Addr) else some ⟨b, 1, none⟩) = some A ∧ Hid (∀ t u, news[t]? = some u → w.drew.cell? (A.add t) = some u) := by
    by_cases h : cap = 1
    · refine ⟨⟨b, 0, none⟩, by simp [h], fun t u hu => ?_⟩
      have h1 : news.length = xs.length := s1.out.trans (Nat.mul_one _)
      have h0 : news = [] := List.length_eq_zero_iff.1 (by omega)
      rw [h0] at hu
      cases hu
    · refine ⟨⟨b, 1, none⟩, by simp [h], fun t u hu => ?_⟩
      have ht := (List.getElem?_eq_some_iff.1 hu).1
      have e : (⟨b, 1, none⟩ : Addr).add t = ⟨b, 1 + t, none⟩ := by unfold Addr.add; split <;> simp_all
      rw [e]
      show w.cell? _ = _
      rw [hcell, Nat.add_comm 1 t]
      simp only [List.cons_append, List.getElem?_cons_succ]
      rw [List.getElem?_append_left ht, hu]
  obtain ⟨W1, hW1⟩ : ∃ W1, W1 = w.drew.setCells b (0 + 0 * 1) news := ⟨_, rfl⟩
  have hC1 : Cells W1 b 3 (setL cur 0 news) := by rw [hW1]; exact Cells.setCells (w := w.drew) news 0 _ hC
  have hcur1 : setL cur 0 news = news ++ (((Value.int .i64 x :: news) ++ rest).drop news.length) := by
    rw [hcur, List.map_cons, ← hnews]
    have := setL_eq news 0 ((Value.int .i64 x :: news) ++ rest) (by simp; omega)
    simpa using this
  obtain ⟨N, hN⟩ : ∃ N, N = xs.length + 1 := ⟨_, rfl⟩
  obtain ⟨M, hM⟩ : ∃ M, M = xs.length := ⟨_, rfl⟩
  rw [← hN, ← hM]
  have hN1 : 1 ≤ N := by omega
  have hNc : N ≤ cap := by omega
  have hcap1 : 1 ≤ cap := by omega
  have h1N : (1 : Int) ≤ (N : Int) := by omega
  have mixed : Try.prog.follows .mixedOrders = true := by kernel_rfl
  have hMN : N - 1 = M := by omega
  have hMc : M ≤ cap - 1 := by omega
  have s1' : Hid (news.length = M * 1) := by rw [hM]; exact s1
  have hW : Hid (W1 = w.drew.setCells b (0 + 0 * 1) news) := hW1
  have HK1 : Hid (Kept (· = b) w W1) := Lib.hid (by rw [hW1]; exact Kept.setCells (X := (· = b)) (fun _ => rfl) news _ ((Kept.refl _ _).drew))
  have HC1 := Lib.hid hC1
  have HCUR1 := Lib.hid hcur1
  have HCUR := Lib.hid hcur
  have HLEN := Lib.hid hlen
  have HNEWS := Lib.hid hnews
  clear hC1 hcur1 hW1 hcell hfree hC hown hcur hlen hnews hrl hN hM hncap s1
  go_enter Try.func70, Try.ntmps70
  go_wp2_with fail
  go_region_law_o (refine step_append_room rfl (.tmp 22) (.tmp 25) 22 rfl 3 i0 1 Try.underlying22 hi0 hz1 b 0 0 cap (by simp [Act.eval, Act.put]) A M (cap - 1) news (by simp [Act.eval, Act.put]; try omega) s1'.out hsrc.out s2.out (by omega) s3.out ?_; rw [← hW.out])
  have hcl : ∀ ty, (Builtin.clear_ #[22] ty #[.slice (some ⟨b, M, none⟩) (N - M) (cap - M)]).run Try.prog W1 = .ok (.tuple #[]) (W1.setCells b M (List.replicate (N - M) (.int .i64 0))) :=
    fun ty => Lib.run_clear_slice W1 _ _ ty _ Try.underlying22 zeroI rfl rfl b M _ _ (by omega) (fun t ht => by
      have h1 := s1'.out
      rw [HC1.out.cell, HCUR1.out]
      simp
      omega) (fun t _ => HC1.out.free _)
  have hne : ¬ cap = M := by omega
  have hne2 : ¬ cap - M = 0 := by omega
  have hMN2 : (M : Int) ≤ (N : Int) := by omega
  have hNc2 : (N : Int) ≤ (cap : Int) := by omega
  go_wp2_with fail
  go_ret
  have h1 := s1'.out
  have hl1 : (setL cur 0 news).length = cap := by
    rw [HCUR1.out, ← HLEN.out, HCUR.out, List.map_cons, ← HNEWS.out]
    simp
    omega
  have hrep : (List.replicate (N - M) (Value.int .i64 0)).length = N - M := List.length_replicate
  have hC2 := Cells.setCells (List.replicate (N - M) (Value.int .i64 0)) M _ HC1.out
  rw [setL_eq _ _ _ (by rw [hrep, hl1]; omega)] at hC2
  have htk : (setL cur 0 news).take M = xs.map (Value.int .i64) := by
    rw [HCUR1.out, List.take_append_of_le_length (by omega), List.take_of_length_le (by omega), HNEWS.out]
  refine ⟨rfl, cells_own hC2 ?_ ?_ (by omega) (by unfold maxLen; omega) ?_, Kept.setCells (X := (· = b)) (fun _ => rfl) _ _ HK1.out⟩
  · rw [List.length_append, List.length_append, List.length_take, List.length_drop, hrep, hl1]; omega
  · rw [← HNEWS.out]; omega
  · rw [List.append_assoc, List.take_append_of_le_length (by rw [List.length_take, hl1]; omega), List.take_take, Nat.min_self, htk]
set_option maxRecDepth 100000 in
set_option maxHeartbeats 1000000 in
theorem delete64_any (x : Int) (xs : List Int) (b cap : Nat) (w : World) (hown : w.ownsRow 0 2 1 (.slice (some ⟨b, 0, none⟩) (xs.length + 1) cap) (xs.length + 1) ((x :: xs).map (.int .i64))) (hm : cap ≤ 9223372036854775807) :
    Calls Try.prog 72 #[.slice (some ⟨b, 0, none⟩) ((xs.length + 1 : Nat)) cap, .int .i64 0, .int .i64 1] w fun e w' => e = .returned (.slice (some ⟨b, 0, none⟩) xs.length cap) ∧
      w'.ownsRow 0 2 1 (.slice (some ⟨b, 0, none⟩) xs.length cap) xs.length (xs.map (.int .i64)) ∧ Kept (· = b) w w' := by
  obtain ⟨cur, rest, hC, hcur, hlen, hncap⟩ := own_cells hown
  obtain ⟨i0, hi0, hz0, hz1, hz2⟩ := info_parts infoI64
  have hrl : (xs.map (Value.int .i64)).length = xs.length := List.length_map _
  obtain ⟨news, hnews⟩ : ∃ news, news = xs.map (Value.int .i64) := ⟨_, rfl⟩
  have hcell : ∀ j, w.cell? ⟨b, j, none⟩ = ((Value.int .i64 x :: news) ++ rest)[j]? := fun j => by rw [hnews, hC.cell j, hcur]; rfl
  have hfree : ∀ j, w.frozen? ⟨b, j, none⟩ = false := fun j => hC.free j
  have s1 : Hid (news.length = xs.length * 1) := by rw [Nat.mul_one, hnews]; exact hrl
  have s2 : Hid (∀ u ∈ news, u.oneCell' = true) := by
    intro u hu
    rw [hnews] at hu
    obtain ⟨q, _, rfl⟩ := List.mem_map.1 hu
    rfl
  have s3 : Hid (∀ t, t < news.length → (w.drew.cell? ⟨b, 0 + 0 * 1 + t, none⟩).isSome = true ∧ w.drew.frozen? ⟨b, 0 + 0 * 1 + t, none⟩ = false) := by
    intro t ht
    have e : 0 + 0 * 1 + t = t := by omega
    rw [e]
    refine ⟨?_, hfree t⟩
    show (w.cell? _).isSome = true
    rw [hcell t]
    simp
    omega
  obtain ⟨A, hA, hsrc⟩ : ∃ A : Addr, (if cap = 1 then some (⟨b, 0, none⟩ : Addr) else some ⟨b, 1, none⟩) = some A ∧ Hid (∀ t u, news[t]? = some u → w.drew.cell? (A.add t) = some u) := by
    by_cases h : cap = 1
    · refine ⟨⟨b, 0, none⟩, by simp [h], fun t u hu => ?_⟩
      have h1 : news.length = xs.length := s1.out.trans (Nat.mul_one _)
      have h0 : news = [] := List.length_eq_zero_iff.1 (by omega)
      rw [h0] at hu
      cases hu
    · refine ⟨⟨b, 1, none⟩, by simp [h], fun t u hu => ?_⟩
      have ht := (List.getElem?_eq_some_iff.1 hu).1
      have e : (⟨b, 1, none⟩ : Addr).add t = ⟨b, 1 + t, none⟩ := by unfold Addr.add; split <;> simp_all
      rw [e]
      show w.cell? _ = _
      rw [hcell, Nat.add_comm 1 t]
      simp only [List.cons_append, List.getElem?_cons_succ]
      rw [List.getElem?_append_left ht, hu]
  obtain ⟨W1, hW1⟩ : ∃ W1, W1 = w.drew.setCells b (0 + 0 * 1) news := ⟨_, rfl⟩
  have hC1 : Cells W1 b 2 (setL cur 0 news) := by rw [hW1]; exact Cells.setCells (w := w.drew) news 0 _ hC
  have hcur1 : setL cur 0 news = news ++ (((Value.int .i64 x :: news) ++ rest).drop news.length) := by
    rw [hcur, List.map_cons, ← hnews]
    have := setL_eq news 0 ((Value.int .i64 x :: news) ++ rest) (by simp; omega)
    simpa using this
  obtain ⟨N, hN⟩ : ∃ N, N = xs.length + 1 := ⟨_, rfl⟩
  obtain ⟨M, hM⟩ : ∃ M, M = xs.length := ⟨_, rfl⟩
  rw [← hN, ← hM]
  have hN1 : 1 ≤ N := by omega
  have hNc : N ≤ cap := by omega
  have hcap1 : 1 ≤ cap := by omega
  have h1N : (1 : Int) ≤ (N : Int) := by omega
  have mixed : Try.prog.follows .mixedOrders = true := by kernel_rfl
  have hMN : N - 1 = M := by omega
  have hMc : M ≤ cap - 1 := by omega
  have s1' : Hid (news.length = M * 1) := by rw [hM]; exact s1
  have hW : Hid (W1 = w.drew.setCells b (0 + 0 * 1) news) := hW1
  have HK1 : Hid (Kept (· = b) w W1) := Lib.hid (by rw [hW1]; exact Kept.setCells (X := (· = b)) (fun _ => rfl) news _ ((Kept.refl _ _).drew))
  have HC1 := Lib.hid hC1
  have HCUR1 := Lib.hid hcur1
  have HCUR := Lib.hid hcur
  have HLEN := Lib.hid hlen
  have HNEWS := Lib.hid hnews
  clear hC1 hcur1 hW1 hcell hfree hC hown hcur hlen hnews hrl hN hM hncap s1
  go_enter Try.func72, Try.ntmps72
  go_wp2_with fail
  go_region_law_o (refine step_append_room rfl (.tmp 22) (.tmp 25) 47 rfl 2 i0 1 Try.underlying47 hi0 hz1 b 0 0 cap (by simp [Act.eval, Act.put]) A M (cap - 1) news (by simp [Act.eval, Act.put]; try omega) s1'.out hsrc.out s2.out (by omega) s3.out ?_; rw [← hW.out])
  have hcl : ∀ ty, (Builtin.clear_ #[47] ty #[.slice (some ⟨b, M, none⟩) (N - M) (cap - M)]).run Try.prog W1 = .ok (.tuple #[]) (W1.setCells b M (List.replicate (N - M) (.int .i64 0))) :=
    fun ty => Lib.run_clear_slice W1 _ _ ty _ Try.underlying47 zeroI64 rfl rfl b M _ _ (by omega) (fun t ht => by
      have h1 := s1'.out
      rw [HC1.out.cell, HCUR1.out]
      simp
      omega) (fun t _ => HC1.out.free _)
  have hne : ¬ cap = M := by omega
  have hne2 : ¬ cap - M = 0 := by omega
  have hMN2 : (M : Int) ≤ (N : Int) := by omega
  have hNc2 : (N : Int) ≤ (cap : Int) := by omega
  go_wp2_with fail
  go_ret
  have h1 := s1'.out
  have hl1 : (setL cur 0 news).length = cap := by
    rw [HCUR1.out, ← HLEN.out, HCUR.out, List.map_cons, ← HNEWS.out]
    simp
    omega
  have hrep : (List.replicate (N - M) (Value.int .i64 0)).length = N - M := List.length_replicate
  have hC2 := Cells.setCells (List.replicate (N - M) (Value.int .i64 0)) M _ HC1.out
  rw [setL_eq _ _ _ (by rw [hrep, hl1]; omega)] at hC2
  have htk : (setL cur 0 news).take M = xs.map (Value.int .i64) := by
    rw [HCUR1.out, List.take_append_of_le_length (by omega), List.take_of_length_le (by omega), HNEWS.out]
  refine ⟨rfl, cells_own hC2 ?_ ?_ (by omega) (by unfold maxLen; omega) ?_, Kept.setCells (X := (· = b)) (fun _ => rfl) _ _ HK1.out⟩
  · rw [List.length_append, List.length_append, List.length_take, List.length_drop, hrep, hl1]; omega
  · rw [← HNEWS.out]; omega
  · rw [List.append_assoc, List.take_append_of_le_length (by rw [List.length_take, hl1]; omega), List.take_take, Nat.min_self, htk]
end Go.Proofs.Ytehcfahfbdphpaa
