/- What lex.words' iterator does: it hands out the words of a text, one by one (conditions: the text is of at most 1000000 bytes). -/
import Derived.Test.YthknjkmkhjjmmaaRangeO
import Derived.Test.YthknjkmkhjjmmaaWord
import Derived.RangeFuncNested
import Derived.RangeFuncBound
import Derived.RangeFuncCalls
import Derived.RangeFuncLeaves
import Derived.Shelf.Abstract
import Derived.Shelf.RegionOpen
import Derived.OwnWalkIn
import Derived.TacticsInMore
import Derived.LoopNIn
import Derived.LoopIn
import Derived.Sort.QuietTacIn
import Derived.Sort.LoopGhostIn
namespace Go.Proofs.Ythknjkmkhjjmmaa
open Go.RowKit Go.Shelf
attribute [local go_sem] Oper.semAt_some

set_option maxHeartbeats 400000 in
theorem words_any (s : ByteArray) (w : World) :
    Calls Try.prog 23 #[.string s] w fun e w' => e = .returned (.func (.func 34) #[] #[.pointer (some ⟨w.heap.size, 0, none⟩)]) ∧ w' = w.alloc (.cells #[.string s] 9) := by
  go_enter Try.func23, Try.ntmps23
  go_wp2
  go_ret
  exact ⟨rfl, rfl⟩

/-- Where the word behind the one at i begins. -/
def nextW (s : List UInt8) (i : Nat) : Nat := i + (wordR (s.drop i)).2.1 + skN (s.drop (i + (wordR (s.drop i)).2.1))
/-- Where word k begins. -/
def posW (s : List UInt8) : Nat → Nat
  | 0 => skN s
  | k + 1 => nextW s (posW s k)
def errW (s : List UInt8) (i : Nat) : Int := (wordR (s.drop i)).2.2.2
def encW (s : ByteArray) (i : Nat) : Array Value := #[.agg (tokV s i (wordR (s.data.toList.drop i))).toArray, .int .i64 (errW s.data.toList i)]

def goodW (s : List UInt8) (n : Nat) : Prop := ∀ k, k < n → posW s k < s.length ∧ errW s (posW s k) = 0
def mayW (s : List UInt8) (pre : List Nat) (x : Nat) : Prop := ∃ n, pre = (List.range n).map (posW s) ∧ x = posW s n ∧ posW s n < s.length ∧ goodW s n
def allW (s : List UInt8) (xs : List Nat) : Prop := ∃ n, xs = (List.range n).map (posW s) ∧ posW s n = s.length ∧ goodW s n
def partW (s : List UInt8) (pre : List Nat) : Prop := ∃ n, pre = (List.range (n + 1)).map (posW s) ∧ posW s n < s.length ∧ goodW s n

theorem runQ_le (q : Int → Bool) (l : List UInt8) : runQ q l ≤ l.length := runS_le _ _ _ _
theorem skN_le (l : List UInt8) : skN l ≤ l.length := runS_le _ _ _ _
theorem runQ_pos {q : Int → Bool} {b : UInt8} {l : List UInt8} (h : q (b.toNat : Nat) = true) : 0 < runQ q (b :: l) := by
  unfold runQ runS
  rw [if_pos h]
  omega
theorem wordR_le (l : List UInt8) : (wordR l).2.1 ≤ l.length := by
  cases l with
  | nil => exact Nat.le_refl _
  | cons b l =>
    unfold wordR
    dsimp only
    split
    · exact runQ_le _ _
    · split
      · exact runQ_le _ _
      · dsimp only
        unfold sgN
        split
        · omega
        · split
          · omega
          · exact Nat.zero_le _
theorem wordR_pos {l : List UInt8} (h : (wordR l).2.2.2 = 0) : 0 < (wordR l).2.1 := by
  cases l with
  | nil => simp [wordR] at h
  | cons b l =>
    unfold wordR at h ⊢
    dsimp only at h ⊢
    split at h
    · rename_i hb
      rw [if_pos hb]
      exact runQ_pos (by simp [alnB, hb])
    · rename_i hb
      rw [if_neg hb]
      split at h
      · rename_i hd
        rw [if_pos hd]
        exact runQ_pos (by simp [alnB, hd])
      · rename_i hd
        rw [if_neg hd]
        dsimp only at h ⊢
        split at h
        · simp at h
        · omega
theorem nextW_le {s : List UInt8} {i : Nat} (hi : i ≤ s.length) : nextW s i ≤ s.length := by
  unfold nextW
  have h1 := wordR_le (s.drop i)
  have h2 := skN_le (s.drop (i + (wordR (s.drop i)).2.1))
  rw [List.length_drop] at h1 h2
  omega
theorem posW_le (s : List UInt8) (k : Nat) : posW s k ≤ s.length := by
  induction k with
  | zero => exact skN_le s
  | succ k ih => exact nextW_le ih
theorem nextW_lt {s : List UInt8} {i : Nat} (h : errW s i = 0) : i < nextW s i := by
  unfold nextW
  have := wordR_pos h
  omega

set_option maxRecDepth 100000 in
set_option maxHeartbeats 1000000 in
theorem words1_seq (s : ByteArray) (hs : s.size ≤ 1000000) (T base : Nat) (hT : base ≤ T) (w : World) (hTc : Cells w T 9 [.string s]) :
    SeqO Try.prog 34 #[.pointer (some ⟨T, 0, none⟩)] (encW s) (fun x => errW s.data.toList x = 0) (mayW s.data.toList) (allW s.data.toList) (partW s.data.toList) base w := by
  intro l J Jx W hwW hst hex hstx hY h0
  have hlen : s.data.toList.length = s.size := by simp
  have hTW := hTc.kept hwW (fun h => h)
  have hTlt := hTW.lt
  have hTw := hTc.lt
  clear hTc
  refine callsIn_of_wp Try.func34 rfl trivial ?_ rfl
  simp only [Try.ntmps34, List.size_toArray, List.length_cons, List.length_nil, Nat.reduceAdd, Nat.reduceSub, Array.replicate_succ, Array.replicate_zero, List.push_toArray, List.append_toArray, List.nil_append, List.cons_append]
  gi_wp2_with fail
  refine ⟨trivial, rfl, ?_⟩
  refine (callsIn_wide.2 (keywords_any W)).mono ?_
  rintro e W1 ⟨rfl, hK1, hk1⟩
  gi_wp2_with fail
  refine ⟨trivial, rfl, ?_⟩
  refine (callsIn_wide.2 (signs_any W1)).mono ?_
  rintro e W2 ⟨rfl, hS2, hk2⟩
  have hT2 := (hTW.kept hk1 (fun h => h)).kept hk2 (fun h => h)
  have hK2 := hK1.kept hk2 (fun h => h)
  obtain ⟨K, hK, hbK, hWK⟩ : ∃ K, K = W.heap.size + 1 ∧ base ≤ K ∧ W.heap.size ≤ K := ⟨_, rfl, by omega, by omega⟩
  obtain ⟨S, hS, hbS, hWS⟩ : ∃ S, S = W1.heap.size + 1 ∧ base ≤ S ∧ W.heap.size ≤ S := ⟨_, rfl, by have := hk1.size; omega, by have := hk1.size; omega⟩
  rw [← hK] at hK2 ⊢
  rw [← hS] at hS2 ⊢
  have hkW2 := hk1.trans hk2
  clear hK hS hK1 hk1 hk2 hTW
  have ct := hT2.cell 0
  simp only [List.getElem?_cons_zero] at ct
  gi_wp2_with fail
  refine ⟨trivial, rfl, ?_⟩
  refine (callsIn_wide.2 (begin_any s W2)).mono ?_
  rintro e W3 ⟨rfl, hW3⟩
  have hr3 : Rdr W3 W2.heap.size s 0 := by rw [hW3]; exact Cells.fresh W2 55 _
  have hk3 : Kept noX W2 W3 := by rw [hW3]; exact (Kept.refl _ _).alloc _
  have hBT : W2.heap.size ≠ T := by have := hT2.lt; omega
  have hBW : W.heap.size ≤ W2.heap.size := hkW2.size
  obtain ⟨B, hB⟩ : ∃ B, B = W2.heap.size := ⟨_, rfl⟩
  rw [← hB] at hr3 hBT hBW ⊢
  have hT3 := hT2.kept hk3 (fun h => h)
  have hK3 := hK2.kept hk3 (fun h => h)
  have hS3 := hS2.kept hk3 (fun h => h)
  have hkW3 := hkW2.trans hk3
  clear hW3 hk3 hB ct hT2 hK2 hS2 hkW2
  gi_wp2_with fail
  refine ⟨trivial, rfl, ?_⟩
  refine (callsIn_wide.2 (between_any B s hs 0 (Nat.zero_le _) W3 hr3)).mono ?_
  rintro e W4 ⟨rfl, hr4, hk4⟩
  rw [Nat.zero_add, List.drop_zero] at hr4
  have hT4 := hT3.kept hk4 (fun h => hBT h.symm)
  have hK4 := hK3.kept hk4 (hK3.ne hr3)
  have hS4 := hS3.kept hk4 (hS3.ne hr3)
  have hbB : base ≤ B := by omega
  have hJ4 : J (fun k => k = B ∨ k = K ∨ k = S ∨ k = T) [] W4 := by
    refine hst _ _ W W4 (fun k hk => by rcases hk with rfl | rfl | rfl | rfl <;> omega) ?_ ?_
    · refine hex _ _ _ _ h0 (fun k hk ho => ?_)
      rcases ho with rfl | rfl | rfl | rfl
      · omega
      · omega
      · omega
      · exact ⟨hT, hTw⟩
    · exact (hkW3.any).join hk4 (fun i hi _ => .inl hi)
  clear hT3 hK3 hS3 hr3 hk4 h0
  have hOb : ∀ k, (k = B ∨ k = K ∨ k = S ∨ k = T) → base ≤ k := fun k hk => by rcases hk with rfl | rfl | rfl | rfl <;> omega
  have HB := Lib.hid hBT
  have HL := Lib.hid hlen
  clear hBT hlen
  gi_wp2_with fail
  gi_loopg [] (s.size - skN s.data.toList) (fun g wr => ∃ n, g = s.size - posW s.data.toList n ∧ goodW s.data.toList n ∧ Rdr wr B s (posW s.data.toList n) ∧ Tab wr K 3 kwL ∧ Tab wr S 4 sgL ∧ Cells wr T 9 [.string s] ∧ J (fun k => k = B ∨ k = K ∨ k = S ∨ k = T) ((List.range n).map (posW s.data.toList)) wr)
  case atStart => exact ⟨0, rfl, fun k hk => by omega, hr4, hK4, hS4, hT4, hJ4⟩
  case round =>
    obtain ⟨n, hg, hgood, hr, hK, hS, hT', hJ⟩ := hrel
    have hple := posW_le s.data.toList n
    rw [HL.out] at hple
    obtain ⟨p, hp⟩ : ∃ p, p = posW s.data.toList n := ⟨_, rfl⟩
    rw [← hp] at hr hple hg
    have HP := Lib.hid hp
    have HG := Lib.hid hg
    clear hp hg hr4 hK4 hS4 hT4 hJ4
    have c3 := hr.is.c3
    have ct := hT'.cell 0
    simp only [List.getElem?_cons_zero] at ct
    by_cases hlt : p < s.size
    · have hlt' : decide ((p : Int) < (s.size : Int)) = true := by simpa using hlt
      gi_wp2_with fail
      gi_quiet_th (fail)
      gi_wp2_with fail
      refine ⟨trivial, rfl, ?_⟩
      refine (callsIn_wide.2 (word_any B K S s hs p hlt (wr.drewN nq) hr (hK.kept ((Kept.refl noX wr).drewN _) (fun h => h)) (hS.kept ((Kept.refl noX wr).drewN _) (fun h => h)))).mono ?_
      rintro e W5 ⟨rfl, hr5, hk5⟩
      have hk5' : Kept (· = B) wr W5 := ((Kept.refl (· = B) wr).drewN nq).trans hk5
      have hT5 := hT'.kept hk5' (fun h => HB.out h.symm)
      have hK5 := hK.kept hk5' (hK.ne hr)
      have hS5 := hS.kept hk5' (hS.ne hr)
      have hJ5 := hst _ _ _ _ hOb hJ (hk5'.mono (fun k _ h => .inl h))
      have hmay : mayW s.data.toList ((List.range n).map (posW s.data.toList)) p := ⟨n, rfl, HP.out, by rw [← HP.out, HL.out]; exact hlt, hgood⟩
      have hOs : ∀ k, (k = B ∨ k = K ∨ k = S ∨ k = T) → k < W5.heap.size := fun k hk => by
        have h1 := hr5.lt; have h2 := hK5.lt; have h3 := hS5.lt; have h4 := hT5.lt
        rcases hk with rfl | rfl | rfl | rfl <;> assumption
      have hy0 := hY _ _ p _ hOb hOs hmay hJ5
      obtain ⟨yfn, ytmps, yas, ybd, hy, hR⟩ := hy0
      clear hk5 hk5' c3 ct hr hK hS hT' hJ hJ5
      have HR := Lib.hid hR
      clear hR hY
      unfold encW errW at hy
      have HM := Lib.hid hmay
      have HGD := Lib.hid hgood
      clear hmay hgood
      gi_wp2_with fail
      refine ⟨rfl, ?_⟩
      refine HR.out.mono ?_
      rintro e W6 (⟨rfl, hgo, hJ6, hk6⟩ | ⟨rfl, hJx6⟩)
      · have hr6 := hr5.kept hk6 (fun h => h (.inl rfl))
        have hT6 := hT5.kept hk6 (fun h => h (.inr (.inr (.inr rfl))))
        have hK6 := hK5.kept hk6 (fun h => h (.inr (.inl rfl)))
        have hS6 := hS5.kept hk6 (fun h => h (.inr (.inr (.inl rfl))))
        have hle : p + (wordR (s.data.toList.drop p)).2.1 ≤ s.size := by
          have := wordR_le (s.data.toList.drop p)
          rw [List.length_drop, HL.out] at this
          omega
        have hlt3 := nextW_lt hgo
        have hle3 := nextW_le (s := s.data.toList) (i := p) (by rw [HL.out]; omega)
        rw [HL.out] at hle3
        have HGO := Lib.hid hgo
        clear hr5 hT5 hK5 hS5 hk6 HR hgo hy
        gi_wp2_with fail
        refine ⟨trivial, rfl, ?_⟩
        refine (callsIn_wide.2 (between_any B s hs _ hle W6 hr6)).mono ?_
        rintro e W7 ⟨rfl, hr7, hk7⟩
        have hT7 := hT6.kept hk7 (fun h => HB.out h.symm)
        have hK7 := hK6.kept hk7 (hK6.ne hr6)
        have hS7 := hS6.kept hk7 (hS6.ne hr6)
        have hJ7 := hst _ _ _ _ hOb hJ6 (hk7.mono (fun k _ h => .inl h))
        have enx : p + (wordR (s.data.toList.drop p)).2.1 + skN (s.data.toList.drop (p + (wordR (s.data.toList.drop p)).2.1)) = nextW s.data.toList p := rfl
        rw [enx] at hr7
        clear enx hr6 hT6 hK6 hS6 hk7 hJ6 hle
        gi_wp2
        go_roundg (s.size - nextW s.data.toList p)
        case measure => rw [HG.out]; omega
        case rel =>
          have e1 : posW s.data.toList (n + 1) = nextW s.data.toList p := by rw [HP.out]; rfl
          refine ⟨n + 1, by rw [e1], ?_, by rw [e1]; exact hr7, hK7, hS7, hT7, ?_⟩
          · intro k hk
            by_cases hkn : k < n
            · exact HGD.out k hkn
            · obtain rfl : k = n := by omega
              rw [← HP.out, HL.out]
              exact ⟨hlt, HGO.out⟩
          · rw [List.range_succ, List.map_append, List.map_cons, List.map_nil, ← HP.out]
            exact hJ7
      · gi_wp2
        refine bodyPost_ret (results_none rfl _ _ _) rfl ?_
        refine ⟨⟨_, rfl⟩, .inr ⟨_, ⟨n, ?_, by rw [← HP.out, HL.out]; exact hlt, HGD.out⟩, _, hOb, hJx6⟩⟩
        rw [List.range_succ, List.map_append, List.map_cons, List.map_nil, ← HP.out]
    · have hlt' : decide ((p : Int) < (s.size : Int)) = false := by simpa using hlt
      have hJ5 := hst _ _ wr wr hOb hJ (Kept.refl _ _)
      have HGD := Lib.hid hgood
      clear hgood hY
      gi_wp2_with fail
      gi_quiet_th (fail)
      gi_wp2
      go_end0
      refine ⟨⟨_, rfl⟩, .inl ⟨_, ⟨n, rfl, by rw [← HP.out, HL.out]; omega, HGD.out⟩, _, hOb, ?_⟩⟩
      exact hst _ _ _ _ hOb hJ ((Kept.refl _ _).drewN _)
end Go.Proofs.Ythknjkmkhjjmmaa
