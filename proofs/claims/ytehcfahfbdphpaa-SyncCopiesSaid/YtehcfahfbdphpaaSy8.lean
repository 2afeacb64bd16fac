/- Layer 4: mutexes that nobody owns are made (conditions: at most 64). -/
import Derived.Test.YtehcfahfbdphpaaSy7
import Derived.Test.YtehcfahfbdphpaaSy3
namespace Go.Proofs.Ytehcfahfbdphpaa
open Go.RowKit Go.Shelf

theorem infoM : (Try.prog.info? 86).map (fun i => (i.zero, i.size, i.bytes)) = some (some (.agg #[.int .i64 0]), 1, 8) := by kernel_rfl
theorem sizeM : (Try.prog.info? 86).map (·.size) = some 1 := by kernel_rfl
def zerosM (n : Nat) : List Value := List.replicate n (.int .i64 0)
theorem run_makeM (n : Nat) (hn : n ≤ 64) (W : World) :
    (Instr.makeSlice 72 (.int .i64 (n : Int)) (.int .i64 (n : Int))).run Try.prog W = .ok (.slice (some ⟨W.heap.size, 0, none⟩) n n) (W.alloc (.cells (zerosM n).toArray 86)) := by
  obtain ⟨i0, hi, hz0, hz1, hz2⟩ := info_parts infoM
  have := run_make (P := Try.prog) W 72 86 i0 _ Try.underlying72 hi hz0 .i64 .i64 n n (by omega) (by omega) (by rw [hz2]; omega) (by omega)
  rw [this, hz1, Int.toNat_natCast, Nat.mul_one]
  have e : madeCells (Value.agg #[.int .i64 0]).cells n = (zerosM n).toArray := by
    simp only [madeCells, zerosM, Value.cells]
    apply Array.toList_inj.1
    apply List.ext_getElem
    · simp
    · intro i h1 h2
      simp [Nat.mod_one]
  rw [e]

/-- The first k are nobody's. -/
def Nob (W : World) (G n k : Nat) : Prop := ∃ cs, Cells W G 86 cs ∧ cs.length = n ∧ cs.take k = List.replicate k (.int .i64 (-1))
theorem Nob.copied {W : World} {G n k m : Nat} (hkm : k + m ≤ n) (hmk : m ≤ k) {cs : List Value} (hl : cs.length = n) (ht : cs.take k = List.replicate k (.int .i64 (-1))) (h : Cells W G 86 (splice cs k (cs.take m))) : Nob W G n (k + m) := by
  have hml : (cs.take m).length = m := by rw [List.length_take]; omega
  have htm : cs.take m = List.replicate m (.int .i64 (-1)) := by
    have := congrArg (List.take m) ht
    rw [List.take_take, Nat.min_eq_left hmk, List.take_replicate, Nat.min_eq_left hmk] at this
    exact this
  refine ⟨_, h, by rw [length_splice _ _ _ (by omega), hl], ?_⟩
  unfold splice
  rw [ht, htm, ← List.append_assoc, List.replicate_append_replicate, List.take_append_of_le_length (by simp), List.take_of_length_le (by simp)]
theorem copyM {W : World} {G off dl dc sl sc : Nat} {ad : Addr} {cur cs : List Value} (h : Cells W G 86 cur) (hn : cs.length = Nat.min sl dl)
    (hsrc : ∀ j v, cs[j]? = some v → W.cell? (ad.add j) = some v) (hfit : off + cs.length ≤ cur.length) (h1 : ∀ v ∈ cs, v.oneCell' = true) :
    ∃ W2, (∀ ty, (Builtin.copy_ #[72, 72] ty #[.slice (some ⟨G, off, none⟩) dl dc, .slice (some ad) sl sc]).run Try.prog W = .ok (.int .i64 (cs.length : Nat)) W2) ∧ Cells W2 G 86 (splice cur off cs) ∧ Kept (· = G) W W2 := by
  by_cases h0 : cs.length = 0
  · obtain rfl : cs = [] := List.eq_nil_of_length_eq_zero h0
    exact ⟨W, fun ty => run_copy_none (P := Try.prog) W 72 72 ty 86 _ _ _ _ _ _ Try.underlying72 sizeM hn.symm, by simpa [splice] using h, Kept.refl _ _⟩
  · exact ⟨_, fun ty => run_copy_row (P := Try.prog) W 72 72 ty 86 G off dl dc ad sl sc cur.toArray 86 cs Try.underlying72 sizeM h hn hsrc (by simpa using hfit) h1,
      by have := setRow_heap W G _ (splice cur off cs).toArray _ _ h; simpa [splice, Cells] using this, ⟨rfl, rfl, rfl, by simp [World.setRow], fun k _ hk => setRow_other W G k _ hk⟩⟩
set_option maxRecDepth 100000 in
set_option maxHeartbeats 1000000 in
theorem repeat_any (n : Nat) (hn : n ≤ 64) (g0 : Nat) (w : World) (h0 : w.cell? ⟨g0, 0, none⟩ = some (.int .i64 (-1))) :
    Calls Try.prog 67 #[.slice (some ⟨g0, 0, none⟩) 1 1, .int .i64 n] w fun e w' => e = .returned (.slice (some ⟨w.heap.size, 0, none⟩) n n) ∧ Cells w' w.heap.size 86 (List.replicate n (.int .i64 (-1))) ∧ Kept noX w w' := by
  have hmk := run_makeM n hn
  have hg0 := block_lt_of h0
  have hd0 : decide ((n : Int) < 0) = false := by simp
  have hmin : Nat.min 1 n = if n = 0 then 0 else 1 := by
    by_cases h : n = 0
    · rw [h]; rfl
    · rw [if_neg h]; exact Nat.min_eq_left (by omega)
  obtain ⟨m0, hm0⟩ : ∃ m0, m0 = Nat.min 1 n := ⟨_, rfl⟩
  have hm01 : m0 ≤ 1 := by rw [hm0, hmin]; split <;> omega
  have hm0n : m0 ≤ n := by rw [hm0, hmin]; split <;> omega
  have hm0p : n = 0 ∨ m0 = 1 := by rw [hm0, hmin]; split <;> omega
  have hrl : (List.replicate m0 (Value.int .i64 (-1))).length = Nat.min 1 n := by rw [List.length_replicate, hm0]
  have hfr := Cells.fresh w 86 (zerosM n)
  have hkf : Below w.heap.size w (w.alloc (.cells (zerosM n).toArray 86)) := (Below.refl _ w).alloc (Nat.le_refl _) _
  have hcp := copyM hfr (off := 0) (dl := n) (dc := n) (ad := ⟨g0, 0, none⟩) (sl := 1) (sc := 1) (cs := List.replicate m0 (.int .i64 (-1))) hrl (fun j v hj => by
    have hj0 : j = 0 := by
      have := (List.getElem?_eq_some_iff.1 hj).1
      rw [List.length_replicate] at this
      omega
    subst hj0
    have hv : v = .int .i64 (-1) := by
      obtain ⟨h1, h2⟩ := List.getElem?_eq_some_iff.1 hj
      rw [List.getElem_replicate] at h2
      exact h2.symm
    rw [hv]
    exact Lib.cell?_alloc_some _ h0) (by rw [List.length_replicate]; simp [zerosM]; omega) (fun v hv => by rw [List.eq_of_mem_replicate hv]; rfl)
  obtain ⟨W2, hrun, hC2, hk2⟩ := hcp
  rw [List.length_replicate] at hrun
  have hb2 : Below w.heap.size w W2 := hkf.trans (hk2.below (by simp) (fun k hk => by have hk : k = w.heap.size := hk; omega))
  have hN2 : Nob W2 w.heap.size n m0 := ⟨_, hC2, by rw [length_splice]; simp [zerosM]; rw [List.length_replicate]; simp [zerosM]; omega, by unfold splice; simp⟩
  have HN2 := Lib.hid hN2
  have HB2 := Lib.hid hb2
  clear hC2 hk2 hfr hkf hN2 hb2 hrl
  have hmn : 0 < n → 1 ≤ m0 := fun h => by rcases hm0p with h0 | h0 <;> omega
  have HMN := Lib.hid hmn
  clear hmin hm0 hm0p hmn
  go_enter Try.func67, Try.ntmps67
  go_wp2_with (first
    | (go_at_call 88; refine (mul_any n hn _).mono ?_; rintro e W1 ⟨rfl, hW1⟩; rw [hW1]; clear hW1))
  clear hrun
  obtain ⟨G, hG⟩ : ∃ G, G = w.heap.size := ⟨_, rfl⟩
  rw [← hG] at HN2 HB2
  have HG := Lib.hid hG
  have mixed : Try.prog.follows .mixedOrders = true := by kernel_rfl
  go_loopw [8] (fun i wr => ∃ k : Nat, k ≤ n ∧ (0 < n → 1 ≤ k) ∧ i = .int .i64 k ∧ Nob wr G n k ∧ Below G w wr) (fun i _ => n - (intOf i).toNat)
  case atStart => exact ⟨m0, hm0n, HMN.out, rfl, HN2.out, HB2.out⟩
  case round =>
    obtain ⟨k, hk, hk1, rfl, ⟨cur, hC, hcl, hct⟩, hb⟩ := hrel
    by_cases hlt : k < n
    · have hdl : decide ((k : Int) < (n : Int)) = true := by simpa using hlt
      have hk1 := hk1 (by omega)
      obtain ⟨m, hm⟩ : ∃ m, m = Nat.min k (n - k) := ⟨_, rfl⟩
      have hmk : m ≤ k := by rw [hm]; exact Nat.min_le_left _ _
      have hkm : k + m ≤ n := by have : m ≤ n - k := by rw [hm]; exact Nat.min_le_right _ _
                                 omega
      have hm1 : 1 ≤ m := by rw [hm]; exact Nat.le_min.2 ⟨hk1, by omega⟩
      have hcs : (cur.take m).length = m := by rw [List.length_take]; omega
      have S1 : Hid ((cur.take m).length = Nat.min k (n - k)) := Lib.hid (hcs.trans hm)
      have S2 : Hid (∀ j v, (cur.take m)[j]? = some v → wr.drew.cell? ((⟨G, 0, none⟩ : Addr).add j) = some v) := Lib.hid (fun j v hj => by
        have e : (⟨G, 0, none⟩ : Addr).add j = ⟨G, j, none⟩ := by unfold Addr.add; split <;> simp_all
        rw [e]
        show wr.cell? _ = _
        rw [hC.cell]
        rw [List.getElem?_take] at hj
        split at hj
        · exact hj
        · cases hj)
      have S3 : Hid (k + (cur.take m).length ≤ cur.length) := Lib.hid (by rw [hcs, hcl]; exact hkm)
      have S4 : Hid (∀ v ∈ cur.take m, v.oneCell' = true) := Lib.hid (fun v hv => by
        have h1 : v ∈ cur.take k := by
          have : cur.take m = (cur.take k).take m := by rw [List.take_take, Nat.min_eq_left hmk]
          rw [this] at hv
          exact List.mem_of_mem_take hv
        rw [hct] at h1
        rw [List.eq_of_mem_replicate h1]
        rfl)
      have HC := Lib.hid hC
      have HB := Lib.hid hb
      have HCS := Lib.hid hcs
      have HCL := Lib.hid hcl
      have HCT := Lib.hid hct
      have hnk : ¬ n = k := by omega
      have hnk2 : ¬ n - k = 0 := by omega
      clear hC hb hct hcs hcl hm HN2 HB2
      go_wp2_with fail
      go_region_law_o (refine step_copy_splice rfl (.tmp 41) (.tmp 44) 72 72 rfl 86 Try.underlying72 sizeM (some ⟨G, k, none⟩) (some ⟨G, 0, none⟩) (n - k) (n - k) k n (by simp [Act.eval, Act.put]) (by simp [Act.eval, Act.put]) G k cur 86 HC.out (cur.take m) S1.out (fun _ => ⟨rfl, _, rfl, S2.out⟩) S3.out S4.out G w (HB.out.drew) (Nat.le_refl _) ?_; intro W4 hC4 hb4)
      rw [show min m cur.length = m by rw [HCL.out]; omega]
      have HN4 := Lib.hid (Nob.copied hkm hmk HCL.out HCT.out (show Cells W4 G 86 (splice cur k (cur.take m)) from hC4.out))
      clear S1 S2 S3 S4 HC HB HCS HCL HCT hC4
      rw [show Value.int .i64 (IntKind.i64.wrap ((k : Int) + (m : Int))) = .int .i64 ((k + m : Nat) : Int) by rw [IntWalk.i64_in _ (by omega)]; rfl]
      simp only [Act.put, List.setIfInBounds_toArray, List.set_cons_zero, List.set_cons_succ, List.getElem_toArray, List.getElem_cons_succ, List.getElem_cons_zero]
      go_roundw
      case rel => exact ⟨_, _, _, _, _, _, _, _, _, _, _, _, _, _, ⟨k + m, hkm, fun _ => by omega, rfl, HN4.out, hb4⟩, rfl⟩
      case measure => simp [intOf]; omega
    · have hdl : decide ((k : Int) < (n : Int)) = false := by simpa using hlt
      obtain rfl : k = n := by omega
      rw [List.take_of_length_le (by omega)] at hct
      have HC := Lib.hid hC
      have HCT := Lib.hid hct
      have HB := Lib.hid hb
      clear hC hct hb
      go_wp2
      go_ret
      refine ⟨rfl, ?_, Kept.of_below HB.out (fun k h1 h2 => by rw [HG.out] at h1; omega)⟩
      rw [← HCT.out, ← HG.out]
      exact HC.out
end Go.Proofs.Ytehcfahfbdphpaa
