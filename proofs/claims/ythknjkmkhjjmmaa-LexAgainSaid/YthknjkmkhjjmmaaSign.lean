/- What (*reader).sign does: it takes off the longest sign that is there (conditions: the text is of at most 1000000 bytes). -/
import Derived.Test.YthknjkmkhjjmmaaReader
import Derived.Test.YthknjkmkhjjmmaaMaps
namespace Go.Proofs.Ythknjkmkhjjmmaa
open Go.RowKit Go.Shelf

/-- How long the sign is with which a text begins; 0: none. -/
def sgN (l : List UInt8) : Nat := if 2 ≤ l.length ∧ l.take 2 ∈ sgL then 2 else if 1 ≤ l.length ∧ l.take 1 ∈ sgL then 1 else 0

theorem extract_list (s : ByteArray) (i n : Nat) : (s.extract i (i + n)).data.toList = (s.data.toList.drop i).take n := by
  rw [ByteArray.data_extract, Array.toList_extract, List.extract_eq_take_drop, Nat.add_sub_cancel_left]

theorem extract_none (s : ByteArray) (i : Nat) : s.extract i i = ⟨#[]⟩ := by
  apply ByteArray.ext
  rw [ByteArray.data_extract]
  simp
  omega

theorem sgN_hit {l : List UInt8} {n i0 sz m0 : Nat} (hl : l.length = sz - i0) (h1 : m0 ≤ 2) (h2 : i0 + m0 ≤ sz) (h3 : m0 = 2 ∨ m0 = 1 ∧ sz = i0 + 1) (hn : 0 < n) (hm : n ≤ m0) (hin : l.take n ∈ sgL)
    (hnot : ∀ m', n < m' → m' ≤ m0 → l.take m' ∉ sgL) : sgN l = n := by
  unfold sgN
  by_cases h : n = 2
  · subst h
    rw [if_pos ⟨by omega, hin⟩]
  · obtain rfl : n = 1 := by omega
    rw [if_neg (fun hh => ?_), if_pos ⟨by omega, hin⟩]
    exact hnot 2 (by omega) (by omega) hh.2
theorem sgN_miss {l : List UInt8} {i0 sz m0 : Nat} (hl : l.length = sz - i0) (h3 : m0 = 2 ∨ m0 = 1 ∧ sz = i0 + 1)
    (hnot : ∀ m', 0 < m' → m' ≤ m0 → l.take m' ∉ sgL) : sgN l = 0 := by
  unfold sgN
  rw [if_neg (fun hh => hnot 2 (by omega) (by omega) hh.2), if_neg (fun hh => hnot 1 (by omega) (by omega) hh.2)]

set_option maxRecDepth 100000 in
set_option maxHeartbeats 1000000 in
theorem sign_any (B M : Nat) (s : ByteArray) (hs : s.size ≤ 1000000) (i0 : Nat) (hi0 : i0 < s.size) (w : World) (hr : Rdr w B s i0) (hM : Tab w M 4 sgL) :
    Calls Try.prog 46 #[.pointer (some ⟨B, 0, none⟩), .map (some M)] w fun e w' => e = .returned (.string (s.extract i0 (i0 + sgN (s.data.toList.drop i0)))) ∧ Rdr w' B s (i0 + sgN (s.data.toList.drop i0)) ∧ Kept (· = B) w w' := by
  have hB : B < w.heap.size := Cells.lt hr
  obtain ⟨c0, c1, c2, c3, f0, f1, f2, f3⟩ := hr.is
  obtain ⟨m0, hm1, hm2, hm3⟩ : ∃ m0 : Nat, m0 ≤ 2 ∧ i0 + m0 ≤ s.size ∧ (m0 = 2 ∨ (m0 = 1 ∧ s.size = i0 + 1)) := by
    by_cases h : i0 + 2 ≤ s.size
    · exact ⟨2, by omega, h, .inl rfl⟩
    · exact ⟨1, by omega, by omega, .inr ⟨rfl, by omega⟩⟩
  have hdl : (s.data.toList.drop i0).length = s.size - i0 := drop_len
  have HM3 := Lib.hid hm3
  have HDL := Lib.hid hdl
  clear hm3 hdl
  go_enter Try.func46, Try.ntmps46
  go_wp2_with fail
  go_quiet (fail)
  all_goals go_wp2
  all_goals
    go_loopg [5] m0 (fun g n wr => ∃ m : Nat, n = .int .i64 m ∧ g = m ∧ m ≤ m0 ∧ (∀ m', m < m' → m' ≤ m0 → (s.data.toList.drop i0).take m' ∉ sgL) ∧ Rdr wr B s i0 ∧ Cells wr w.heap.size 49 [.pointer (some ⟨B, 0, none⟩)] ∧ Tab wr M 4 sgL ∧ Kept (· = B) w wr)
    case atStart =>
      refine ⟨m0, ?_, rfl, Nat.le_refl _, fun m' h1 h2 => by omega, Cells.alloc hr _, Cells.fresh w 49 [.pointer (some ⟨B, 0, none⟩)], hM.kept (((Kept.refl noX w).alloc _).drewN _) (fun h => h), ((Kept.refl _ _).alloc _).drewN _⟩
      have := HM3.out
      have e : ∀ a b : Int, a = b → Value.int .i64 a = .int .i64 b := fun a b h => by rw [h]
      exact e _ _ (by omega)
    case round =>
      clear c0 c1 c2 c3 f0 f1 f2 f3 hr hM
      obtain ⟨_, rfl, rfl, hmm, hnot, hr, hb, hM, hk⟩ := hrel
      obtain ⟨c0, c1, c2, c3, f0, f1, f2, f3⟩ := hr.is
      have cb := hb.cell 0
      have fb := hb.free 0
      simp only [List.getElem?_cons_zero] at cb
      have HN := Lib.hid hnot
      clear hnot
      have hlk : ∀ q, (Instr.lookup 52 (.map (some M)) (.string (s.extract i0 (i0 + gk))) false).run Try.prog (wr.drewN q) = .ok (.int .i64 (if (s.extract i0 (i0 + gk)).data.toList ∈ sgL then 4 else 0)) (wr.drewN q) := fun q =>
        Tab.look (hM.kept ((Kept.refl noX wr).drewN q) (fun h => h)) _ (by
          unfold maxLen
          rw [ByteArray.size_extract]
          omega)
      by_cases hm : 0 < gk
      · by_cases hin : (s.data.toList.drop i0).take gk ∈ sgL
        · have hin' : (s.extract i0 (i0 + gk)).data.toList ∈ sgL := by rw [extract_list]; exact hin
          simp only [if_pos hin'] at hlk
          have HG : Hid (sgN (s.data.toList.drop i0) = gk) := sgN_hit (HDL.out) hm1 hm2 HM3.out hm hmm hin HN.out
          clear hin hin'
          go_wp2_with fail
          go_quiet (fail)
          have hr2 : Rdr (wr.drewN nq) B s i0 := hr
          have hb2 : Cells (wr.drewN nq) w.heap.size 49 [.pointer (some ⟨B, 0, none⟩)] := hb
          have hk2 : Kept (· = B) w (wr.drewN nq) := hk.drewN _
          clear hr hb hM hk c0 c1 c2 c3 f0 f1 f2 f3 cb fb hlk
          generalize wr.drewN nq = W2 at hr2 hb2 hk2 ⊢
          obtain ⟨c0, c1, c2, c3, f0, f1, f2, f3⟩ := hr2.is
          have cb := hb2.cell 0
          simp only [List.getElem?_cons_zero] at cb
          have HO := Lib.hid (off_to B w.heap.size W2.heap.size s hs i0 gk (by omega) (W2.alloc (.cells #[.int .i64 ((i0 + gk : Nat) : Int)] 3)) (Cells.alloc hr2 _) (Cells.alloc hb2 _) (Cells.fresh W2 3 [.int .i64 ((i0 + gk : Nat) : Int)]) (by omega) (by have := hk2.size; omega))
          have en : ((i0 + gk : Nat) : Int) = (i0 : Int) + (gk : Int) := by omega
          rw [en] at HO
          clear en
          have hca : ∀ o, (W2.alloc o).cell? ⟨w.heap.size, 0, none⟩ = some (.pointer (some ⟨B, 0, none⟩)) := fun o => by
            have := (hb2.alloc o).cell 0
            simpa only [List.getElem?_cons_zero] using this
          go_wp2_with fail
          refine HO.out.mono ?_
          rintro e w1 ⟨rfl, h4, h5⟩
          go_wp2
          go_ret
          refine ⟨by rw [HG.out]; rfl, by rw [HG.out]; exact h4, ?_⟩
          exact hk2.trans ((Kept.alloc (Kept.refl (· = B) W2) _).join h5 (fun i hx _ => hx))
        · have hin' : (s.extract i0 (i0 + gk)).data.toList ∉ sgL := by rw [extract_list]; exact hin
          simp only [if_neg hin'] at hlk
          have HI := Lib.hid hin
          clear hin hin'
          go_wp2_with fail
          go_quiet (fail)
          go_wp2
          go_roundg (gk - 1)
          case measure => omega
          case rel =>
            refine ⟨gk - 1, ?_, rfl, by omega, ?_, hr, hb, hM.kept ((Kept.refl noX wr).drewN _) (fun h => h), hk.drewN _⟩
            · have e : ∀ a b : Int, a = b → Value.int .i64 a = .int .i64 b := fun a b h => by rw [h]
              exact e _ _ (by omega)
            · intro m' h1 h2
              by_cases h3 : m' = gk
              · rw [h3]; exact HI.out
              · exact HN.out m' (by omega) h2
      · obtain rfl : gk = 0 := by omega
        have HG : Hid (sgN (s.data.toList.drop i0) = 0) := sgN_miss (HDL.out) HM3.out HN.out
        clear hlk
        go_wp2
        go_ret
        refine ⟨?_, by rw [HG.out]; exact hr, hk⟩
        rw [HG.out, Nat.add_zero, extract_none]
        rfl
end Go.Proofs.Ythknjkmkhjjmmaa
