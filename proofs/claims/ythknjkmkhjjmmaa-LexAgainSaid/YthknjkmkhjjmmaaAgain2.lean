/- What LexAgain answers: true (conditions: none). -/
import Derived.Test.YthknjkmkhjjmmaaAgain
namespace Go.Proofs.Ythknjkmkhjjmmaa
open Go.RowKit Go.Shelf

theorem num_same2 (x : Int) (w : World) : Calls Try.prog 14 #[.int .i64 x] w fun e w' => e = .returned (.int .i64 x) ∧ w' = w := (num_any x w).mono fun _ _ h => ⟨h.1, h.2.symm⟩

/-- The words of a list, the places of the first i of them already of another one. -/
def mixT (T T2 : Nat → TokD) (i k : Nat) : TokD := if k < i then T k else { T k with line := (T2 k).line, col := (T2 k).col }

theorem TokRow.congr {W : World} {v : Value} {n : Nat} {T T' : Nat → TokD} (h : TokRow W v n T) (hT : ∀ k, k < n → T k = T' k) : TokRow W v n T' := by
  obtain ⟨xs, h1, h2⟩ := h
  exact ⟨xs, h1, fun k hk j hj => by rw [h2 k hk j hj, hT k hk]⟩

theorem TokRow.place {W : World} {g n c : Nat} {T T2 : Nat → TokD} {i : Nat} (h : TokRow W (.slice (some ⟨g, 0, none⟩) n c) n (mixT T T2 i)) (hi : i < n) :
    TokRow ((W.setCell ⟨g, i * 5 + 3, none⟩ (.int .i64 (T i).line)).setCell ⟨g, i * 5 + 4, none⟩ (.int .i64 (T i).col)) (.slice (some ⟨g, 0, none⟩) n c) n (mixT T T2 (i + 1)) := by
  obtain ⟨xs, h1, h2⟩ := h
  have h3 := (h1.stored (i * 5 + 3) (.int .i64 (T i).line)).1
  have h4 := (h3.stored (i * 5 + 4) (.int .i64 (T i).col)).1
  refine ⟨_, h4, ?_⟩
  intro k hk j hj
  have hlen : xs.length = n * 5 := h1.1
  by_cases hki : k = i
  · subst hki
    have e : mixT T T2 (k + 1) k = T k := by unfold mixT; rw [if_pos (by omega)]
    have e0 : mixT T T2 k k = { T k with line := (T2 k).line, col := (T2 k).col } := by unfold mixT; rw [if_neg (by omega)]
    have hx := h2 k hk j hj
    rw [e0] at hx
    rw [e]
    by_cases j4 : j = 4
    · subst j4
      rw [List.getElem?_set_self (by rw [List.length_set, hlen]; omega)]
      rfl
    · rw [List.getElem?_set_ne (by omega)]
      by_cases j3 : j = 3
      · subst j3
        rw [List.getElem?_set_self (by rw [hlen]; omega)]
        rfl
      · rw [List.getElem?_set_ne (by omega), hx]
        have : j = 0 ∨ j = 1 ∨ j = 2 := by omega
        rcases this with rfl | rfl | rfl <;> rfl
  · have e : mixT T T2 (i + 1) k = mixT T T2 i k := by
      unfold mixT
      by_cases hlt : k < i
      · rw [if_pos (by omega), if_pos hlt]
      · rw [if_neg (by omega), if_neg hlt]
    rw [e, List.getElem?_set_ne (by omega), List.getElem?_set_ne (by omega)]
    exact h2 k hk j hj

theorem join_bound {s : ByteArray} (hs : s.size ≤ 2000) {n k : Nat} (hg : goodW s.data.toList n) (hk : k ≤ n) : (joinW s k).size ≤ 4000 := by
  have h1 := join_small (s := s) (k := k) (fun j hj => hg j (by omega))
  have h2 := posW_ge (s := s.data.toList) (n := k) (fun j hj => hg j (by omega))
  have h3 := posW_le s.data.toList k
  have h4 : s.data.toList.length = s.size := by simp
  omega

theorem slice_word (s : ByteArray) (p m : Nat) (h : p + m ≤ s.size) (W : World) :
    (Instr.slice 9 (.string s) (some (.int .i64 (p : Int))) (some (.int .i64 ((p : Int) + (m : Int)))) none).run Try.prog W = .ok (.string (s.extract p (p + m))) W := by
  have := run_slice_string (P := Try.prog) W 9 s .i64 .i64 (p : Int) ((p : Int) + (m : Int)) Try.underlying9 (by omega) (by omega) (by omega)
  rw [this]
  congr 3

theorem lt_of_cell2 {w : World} {g i : Nat} {v : Value} (h : w.cell? ⟨g, i, none⟩ = some v) : g < w.heap.size := by
  refine Nat.lt_of_not_le (fun hn => ?_)
  have : w.heap[g]? = none := Array.getElem?_eq_none hn
  simp [World.cell?, this] at h

/-- Where the last word ended that was looked at. -/
def lastW (s : List UInt8) : Nat → Int
  | 0 => -1
  | k + 1 => (posW s k : Int) + ((wordR (s.drop (posW s k))).2.1 : Nat) - 1
theorem lastW_lt {s : List UInt8} {n k : Nat} (hg : goodW s n) (hk : k ≤ n) : -1 ≤ lastW s k ∧ lastW s k < posW s k := by
  cases k with
  | zero => exact ⟨Int.le_refl _, by show (-1 : Int) < _; omega⟩
  | succ k =>
    have h1 := wordR_pos (hg k (by omega)).2
    have : posW s (k + 1) = nextW s (posW s k) := rfl
    unfold nextW at this
    have e : lastW s (k + 1) = (posW s k : Int) + ((wordR (s.drop (posW s k))).2.1 : Nat) - 1 := rfl
    rw [e]
    omega

set_option maxRecDepth 100000 in
set_option maxHeartbeats 1000000 in
theorem lexAgain_any (s : ByteArray) (w : World) : Calls Try.prog 9 #[.string s] w fun e w' => e = .returned (.bool true) ∧ Kept noX w w' := by
  by_cases hs : s.size ≤ 2000
  · have hd : decide ((2000 : Int) < (s.size : Int)) = false := by simp; omega
    go_enter Try.func9, Try.ntmps9
    go_wp2_with fail
    refine (lex_calls s (by omega) _).mono ?_
    intro e W1 h1
    rcases h1 with ⟨n, v, hg, hend, rfl, hown, hnew, hk1⟩ | ⟨n, hg, hlt, hbad, rfl, hk1⟩
    · have hrow : TokRow W1 v n (fun k => tokD s (posW s.data.toList k)) := ⟨_, hown, fun k hk j hj => toks_at s _ _ k j hk hj⟩
      have hglt := hown.lt
      obtain ⟨A, c, rfl, hc, hm⟩ := hrow.form
      have hnb : n ≤ 2000 := by
        have h1 := posW_ge hg
        have h2 : s.data.toList.length = s.size := by simp
        omega
      have HG := Lib.hid hg
      have HROW := Lib.hid (fun W (hk : Kept noX W1 W) => hrow.kept hk (fun _ _ h => h))
      clear hown hnew hend hg hrow
      have hkw := hk1.alloc (.cells #[.int .i64 0, .int .i64 0] 25)
      have hk2 := (Kept.refl noX W1).alloc (.cells #[.int .i64 0, .int .i64 0] 25)
      go_wp2_with (first | (go_at_call 14; refine (num_any _ _).mono ?_; rintro e W3' ⟨rfl, rfl⟩))
      generalize W1.alloc (.cells #[.int .i64 0, .int .i64 0] 25) = W2 at hkw hk2 ⊢
      go_loopw [6, 7, 8] (fun a b i wr => ∃ k : Nat, i = .int .i64 k ∧ k ≤ n ∧ a = .string (joinW s k) ∧ b = .int .i64 (lastW s.data.toList k) ∧ Kept noX W2 wr) (fun _ _ i _ => n - (intOf i).toNat)
      case atStart => exact ⟨0, rfl, Nat.zero_le _, rfl, rfl, Kept.refl _ _⟩
      case round =>
        obtain ⟨k, rfl, hk, rfl, rfl, hkr⟩ := hrel
        by_cases hlt : k < n
        · have hr := HROW.out _ (hk2.trans hkr)
          obtain ⟨g, c', hv, _, hcell⟩ := hr.at_ hlt
          injection hv with hA _ hcc
          subst hA
          subst hcc
          have hgk := HG.out k hlt
          have hpl : posW s.data.toList k < s.size := by
            have h2 : s.data.toList.length = s.size := by simp
            omega
          have hlast := lastW_lt HG.out (k := k) (by omega)
          have hwp := wordR_pos hgk.2
          have hle : posW s.data.toList k + (wordR (s.data.toList.drop (posW s.data.toList k))).2.1 ≤ s.size := by
            have := wordR_le (s.data.toList.drop (posW s.data.toList k))
            have h2 : s.data.toList.length = s.size := by simp
            rw [List.length_drop] at this
            omega
          have a1 := hcell 1 (by omega); have a3 := hcell 3 (by omega); have a4 := hcell 4 (by omega)
          simp only [TokD.cells, List.getElem?_cons_zero, List.getElem?_cons_succ] at a1 a3 a4
          have hjb := join_bound hs HG.out hk
          have hjn : joinW s (k + 1) = joinW s k ++ wd s (posW s.data.toList k) ++ ⟨#[32]⟩ := rfl
          have hln : lastW s.data.toList (k + 1) = (posW s.data.toList k : Int) + ((wordR (s.data.toList.drop (posW s.data.toList k))).2.1 : Nat) - 1 := rfl
          have hws := wd_size s (posW s.data.toList k)
          have hsl := fun W => slice_word s (posW s.data.toList k) _ hle W
          have hat := fun W => at_any s (by omega) (posW s.data.toList k) hpl W
          have e1 : (tokD s (posW s.data.toList k)).text = wd s (posW s.data.toList k) := rfl
          have e2 : s.extract (posW s.data.toList k) (posW s.data.toList k + (wordR (s.data.toList.drop (posW s.data.toList k))).2.1) = wd s (posW s.data.toList k) := rfl
          have e3 : (tokD s (posW s.data.toList k)).line = ((plOf s.data.toList (posW s.data.toList k)).1 : Nat) := rfl
          have e4 : (tokD s (posW s.data.toList k)).col = ((plOf s.data.toList (posW s.data.toList k)).2 : Nat) := rfl
          rw [e1] at a1
          rw [e3] at a3
          rw [e4] at a4
          rw [e2] at hsl
          rw [← hws] at hsl hwp hle hln
          have HLN := Lib.hid hln
          have HJN := Lib.hid hjn
          clear hjn hln hgk hr hcell e1 e2 e3 e4 hws hpl
          generalize wd s (posW s.data.toList k) = t at a1 hsl hwp hle HLN HJN
          generalize joinW s k = J at hjb HJN ⊢
          generalize lastW s.data.toList k = La at hlast ⊢
          generalize plOf s.data.toList (posW s.data.toList k) = pl at a3 a4 hat
          generalize posW s.data.toList k = p at hlast hsl hle HLN hat
          have HAT := Lib.hid hat
          clear hat
          have HHK := Lib.hid hkr
          go_wp2_with fail
          refine (HAT.out _).mono ?_
          rintro e W5 ⟨rfl, hk5⟩
          have hgl : g < wr.heap.size := lt_of_cell2 a1
          have b1 : W5.cell? ⟨g, k * 5 + 1, none⟩ = some (.string t) := (World.cell?_of_block (w := wr) (w' := W5) (a := ⟨g, k * 5 + 1, none⟩) (hk5.block g hgl (fun h => h))).trans a1
          have HHK5 := Lib.hid (hkr.trans hk5)
          clear hkr hk5 a1 a3 a4 HHK HAT hgl
          have c1 : decide ((p : Int) ≤ La) = false := by simp; omega
          have c2 : decide ((s.size : Int) < (p : Int) + (t.size : Int)) = false := by simp; omega
          have c3 : (t.toList != t.toList) = false := by simp
          have c4 : t.toList.isEmpty = false := by
            rw [ByteArray.toList_eq, List.isEmpty_eq_false_iff]
            intro h
            have h2 : t.data.toList.length = t.size := by simp
            rw [h] at h2
            have h3 : 0 = t.size := h2
            omega
          have htb : t.size ≤ 2000 := by omega
          have hpb : p ≤ 2000 := by omega
          go_wp2_with fail
          go_quiet (fail)
          go_wp2_with fail
          go_roundw
          case rel => exact ⟨k + 1, by go_num, by omega, by rw [HJN.out], by rw [HLN.out], HHK5.out.drewN _⟩
          case measure => simp [intOf]; omega
        · obtain rfl : k = n := by omega
          have hjb := join_bound hs HG.out hk
          have hjg := join_good HG.out
          have hje := join_end HG.out
          have hjt := Lib.hid (fun i (hi : i < k) => join_tok HG.out hi)
          generalize joinW s k = J at hjb hjg hje hjt ⊢
          go_wp2_with fail
          refine (lex_calls J (by omega) wr).mono ?_
          intro e W3 h3
          obtain ⟨v2, rfl, hrow2, hnew2, hk3⟩ := h3.all hjg hje
          clear h3 hjg hje hjb
          obtain ⟨A2, d2, rfl, hd2, hm2⟩ := hrow2.form
          have teq : ((k : Int) != (k : Int)) = false := by simp
          have hrow2' := hrow2.kept ((Kept.refl noX W3).alloc (.cells #[.int .i64 0, .int .i64 0] 25)) (fun _ _ h => h)
          have hk14 := ((hk2.trans hkr).trans hk3).alloc (.cells #[.int .i64 0, .int .i64 0] 25)
          have hkw4 := ((hkw.trans hkr).trans hk3).alloc (.cells #[.int .i64 0, .int .i64 0] 25)
          have hws : W1.heap.size ≤ wr.heap.size := (hk2.trans hkr).size
          have hws0 : w.heap.size ≤ wr.heap.size := (hkw.trans hkr).size
          clear hrow2 hk2 hkr hk3 hkw hk1
          go_wp2_with (first | (go_at_call 14; refine (num_any _ _).mono ?_; rintro e W3' ⟨rfl, rfl⟩))
          generalize W3.alloc (.cells #[.int .i64 0, .int .i64 0] 25) = W4 at hrow2' hk14 hkw4 ⊢
          have hnw : ∀ g, (Value.slice A2 k d2).ownBlock = some g → W1.heap.size ≤ g ∧ w.heap.size ≤ g := fun g hg => by have := hnew2 g hg; omega
          obtain ⟨T, hT⟩ : ∃ T : Nat → TokD, T = fun i => tokD s (posW s.data.toList i) := ⟨_, rfl⟩
          obtain ⟨T2, hT2⟩ : ∃ T2 : Nat → TokD, T2 = fun i => tokD J (posW J.data.toList i) := ⟨_, rfl⟩
          have hmix : TokRow W4 (.slice A2 k d2) k (mixT T T2 0) := by
            refine hrow2'.congr (fun i hi => ?_)
            obtain ⟨h1, h2, h3⟩ := hjt.out i hi
            unfold mixT
            rw [if_neg (Nat.not_lt_zero _), hT, hT2]
            dsimp only
            rw [← h1, ← h2, ← h3]
          have HRT : Hid (∀ W, Kept noX W1 W → TokRow W (.slice A k c) k T) := by rw [hT]; exact HROW
          clear hjt hT hT2 HROW hrow2' hnew2 hws hws0
          go_loopw [13] (fun i wr => ∃ m : Nat, i = .int .i64 m ∧ m ≤ k ∧ TokRow wr (.slice A2 k d2) k (mixT T T2 m) ∧ Kept (fun g => (Value.slice A2 k d2).ownBlock = some g) W4 wr) (fun i _ => k - (intOf i).toNat)
          case atStart => exact ⟨0, rfl, Nat.zero_le _, hmix, Kept.refl _ _⟩
          case round =>
            obtain ⟨m, rfl, hmk, hrm, hkm⟩ := hrel
            have hk1m : Kept noX W1 wr := hk14.join hkm (fun i hi hlt => by have := (hnw i hi).1; omega)
            by_cases hlt : m < k
            · obtain ⟨g, c', hv, _, hcell⟩ := (HRT.out _ hk1m).at_ hlt
              injection hv with hA _ hcc
              subst hA
              subst hcc
              obtain ⟨g2, c2', hv2, _, hcell2⟩ := hrm.at_ hlt
              injection hv2 with hA2 _ hcc2
              subst hA2
              subst hcc2
              have a3 := hcell 3 (by omega); have a4 := hcell 4 (by omega)
              have b3 := hcell2 3 (by omega); have b4 := hcell2 4 (by omega)
              simp only [TokD.cells, List.getElem?_cons_zero, List.getElem?_cons_succ] at a3 a4 b3 b4
              have f3 : wr.frozen? ⟨g2, m * 5 + 3, none⟩ = false := by obtain ⟨xs, h1, _⟩ := hrm; exact h1.frozenAt _
              have f4 : wr.frozen? ⟨g2, m * 5 + 4, none⟩ = false := by obtain ⟨xs, h1, _⟩ := hrm; exact h1.frozenAt _
              have HP := Lib.hid (hrm.place hlt)
              have HKM := Lib.hid ((hkm.setCell (p := ⟨g2, m * 5 + 3, none⟩) (fun _ => rfl) (.int .i64 (T m).line)).setCell (p := ⟨g2, m * 5 + 4, none⟩) (fun _ => rfl) (.int .i64 (T m).col))
              clear hcell hcell2 hrm hkm hk1m
              go_wp2_with fail
              go_roundw
              case rel => exact ⟨m + 1, by go_num, by omega, HP.out, HKM.out⟩
              case measure => simp [intOf]; omega
            · obtain rfl : m = k := by omega
              have hrl := HRT.out _ hk1m
              have hr2 : TokRow wr (.slice A2 m d2) m T := hrm.congr (fun i hi => by unfold mixT; rw [if_pos hi])
              have HS := Lib.hid (same_any (.slice A2 m d2) (.slice A m c) m (by omega) T wr hr2 hrl)
              have HKW := Lib.hid (hkw4.join hkm (fun i hi hlt => by have := (hnw i hi).2; omega))
              clear hrm hkm hk1m hrl hr2 hkw4 hk14 hmix hnw HRT
              go_wp2_with fail
              refine HS.out.mono ?_
              rintro e W6 ⟨rfl, hk6⟩
              go_wp2_with (first | (go_at_call 10; refine (works_any _).mono ?_; rintro e W7 ⟨rfl, hk7⟩))
              go_ret
              exact ⟨rfl, (HKW.out.trans hk6).trans hk7⟩
    · obtain ⟨er, her⟩ : ∃ er, er = errW s.data.toList (posW s.data.toList n) := ⟨_, rfl⟩
      rw [← her] at hbad ⊢
      have hne : (er != (0 : Int)) = true := by simpa using hbad
      generalize plOf s.data.toList (posW s.data.toList n) = pl
      have hkw := hk1.alloc (.cells #[.int .i64 (pl.1 : Nat), .int .i64 (pl.2 : Nat)] 25)
      clear her hbad hg hlt hk1
      go_wp2_with (first | (go_at_call 14; refine (num_any _ _).mono ?_; rintro e W3' ⟨rfl, rfl⟩) | (go_at_call 10; refine (works_any _).mono ?_; rintro e W7 ⟨rfl, hk7⟩))
      go_ret
      exact ⟨rfl, hkw.trans hk7⟩
  · have hd : decide ((2000 : Int) < (s.size : Int)) = true := by simp; omega
    go_enter Try.func9, Try.ntmps9
    go_wp2_with (go_at_call 10; refine (works_any _).mono ?_; rintro e W3 ⟨rfl, hk3⟩)
    go_ret
    exact ⟨rfl, hk3⟩
end Go.Proofs.Ythknjkmkhjjmmaa
