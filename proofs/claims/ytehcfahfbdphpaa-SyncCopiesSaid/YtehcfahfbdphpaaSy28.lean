/- Layer 4: a state stands as the document's (conditions: at most 10^9 values were sent to each channel). -/
import Derived.Test.YtehcfahfbdphpaaSy27
import Derived.Test.YtehcfahfbdphpaaSy23
namespace Go.Proofs.Ytehcfahfbdphpaa
open Go.RowKit Go.Shelf

/-- The two say the same. -/
structure Like (S : SS) (R : RS) : Prop where
  os : S.os = R.ow
  cs : S.cs = R.cs
  qs : S.qs.length = R.rm.length
  st : R.st.length = R.rm.length
  tk : R.tk.length = R.rm.length
  q : ∀ i (h : i < R.rm.length), S.qs[i]'(qs ▸ h) = ⟨(R.st[i]'(st ▸ h)).drop (R.tk[i]'(tk ▸ h)), R.rm[i], ((R.st[i]'(st ▸ h)).length : Int)⟩ ∧ R.tk[i]'(tk ▸ h) ≤ (R.st[i]'(st ▸ h)).length ∧ (R.st[i]'(st ▸ h)).length ≤ 1000000000

theorem own_formN0 {W : World} {b n : Nat} {t : TypeId} {v : Value} {xs : List Value} (h : W.ownsRow b t 1 v n xs) : ∃ A c, v = .slice A n c ∧ n ≤ c ∧ c ≤ 9223372036854775807 := by
  rcases h.2 with ⟨rfl, h0⟩ | ⟨g1, c1, cur1, rfl, _, _, h1, h2, _⟩
  · exact ⟨none, 0, by rw [h0], by omega, by omega⟩
  · unfold maxLen at h2
    exact ⟨_, _, rfl, h1, by omega⟩
set_option maxRecDepth 100000 in
set_option maxHeartbeats 1000000 in
theorem is_any {W : World} {T : Nat → Nat} {p : Nat} {S : SS} {vs : List Value} {R : RS} (h : SyAt W T p S) (hR : RV W noX vs R) (hL : Like S R) :
    Calls Try.prog 29 #[.pointer (some ⟨p, 0, none⟩), .agg vs.toArray] W fun e W' => e = .returned (.bool true) ∧ Kept noX W W' := by
  have hb : S.os.length ≤ 64 ∧ S.cs.length ≤ 64 ∧ S.qs.length ≤ 64 := by
    obtain ⟨_, _, _, _, _, _, _, _, _, _, _, _, _, _, _, hh⟩ := h
    exact hh
  obtain ⟨v0, v1, v2, v3, v4, rfl, h0, h1, h2, h3, h4⟩ := hR
  have HRV := Lib.hid (show RV W noX [v0, v1, v2, v3, v4] R from ⟨v0, v1, v2, v3, v4, rfl, h0, h1, h2, h3, h4⟩)
  have H0 := Lib.hid h0
  have H1 := Lib.hid h1
  have H2 := Lib.hid h2
  obtain ⟨A0, n0, c0, rfl, hn0, -⟩ := h0.form
  obtain ⟨A1, n1, c1, rfl, hn1, -⟩ := h1.form
  obtain ⟨A2, n2, c2, rfl, hn2, -⟩ := h2.form
  obtain ⟨A3, n3, c3, rfl, -⟩ := h3.form
  obtain ⟨A4, n4, c4, rfl, -⟩ := h4.form
  rw [List.length_map] at hn0 hn1 hn2
  subst hn0 hn1 hn2
  have HY := Lib.hid h
  have HL := Lib.hid hL
  have hb0 : R.ow.length ≤ 64 := by rw [← hL.os]; exact hb.1
  have hb1 : R.cs.length ≤ 64 := by rw [← hL.cs]; exact hb.2.1
  have hb2 : R.rm.length ≤ 64 := by rw [← hL.qs]; exact hb.2.2
  have hX := Cells.fresh W 33 [.slice A0 R.ow.length c0, .slice A1 R.cs.length c1, .slice A2 R.rm.length c2, .slice A3 n3 c3, .slice A4 n4 c4]
  have hka : Kept noX W (W.alloc (.cells #[.slice A0 R.ow.length c0, .slice A1 R.cs.length c1, .slice A2 R.rm.length c2, .slice A3 n3 c3, .slice A4 n4 c4] 33)) := (Kept.refl _ _).alloc _
  obtain ⟨W1, hW1⟩ : ∃ W1, W1 = W.alloc (.cells #[.slice A0 R.ow.length c0, .slice A1 R.cs.length c1, .slice A2 R.rm.length c2, .slice A3 n3 c3, .slice A4 n4 c4] 33) := ⟨_, rfl⟩
  rw [← hW1] at hka
  have HX : Hid (Cells W1 W.heap.size 33 [.slice A0 R.ow.length c0, .slice A1 R.cs.length c1, .slice A2 R.rm.length c2, .slice A3 n3 c3, .slice A4 n4 c4]) := Lib.hid (by rw [hW1]; exact hX)
  clear h hL h0 h1 h2 h3 h4 hX hb
  go_enter Try.func29, Try.ntmps29
  go_wp2_with fail
  rw [← hW1]
  clear hW1
  go_loopw [5] (fun i wr => ∃ k : Nat, k ≤ R.ow.length ∧ i = .int .i64 k ∧ Kept noX W1 wr) (fun i _ => R.ow.length - (intOf i).toNat)
  case atStart => exact ⟨0, Nat.zero_le _, rfl, Kept.refl _ _⟩
  case round =>
    obtain ⟨k, hk, rfl, hkr⟩ := hrel
    have x0 := (HX.out.keep hkr).cell 0
    simp only [List.getElem?_cons_zero] at x0
    have hkw := hka.trans hkr
    by_cases hlt : k < R.ow.length
    · have hdl : decide ((k : Int) < (R.ow.length : Int)) = true := by simpa using hlt
      obtain ⟨b, o, c, hveq, hcell, _⟩ := rowN_at H0.out hlt
      injection hveq with hA _ hc
      subst hA hc
      have hls : k < S.os.length := by rw [HL.out.os]; exact hlt
      have hse : S.os[k] = R.ow[k] := by simp [HL.out.os]
      have HC := Lib.hid (owner_in (HY.out.keep hkw) k hls)
      rw [hse] at HC
      have q0 := hkw.cell hcell
      generalize R.ow[k] = ow at *
      clear hcell hse hls
      go_wp2_with fail
      refine HC.out.mono ?_
      rintro e W2 ⟨rfl, hk2⟩
      have x0 := hk2.cell x0
      have q0 := hk2.cell q0
      go_wp2_with (go_at_call 23; refine (num_any _ _).mono ?_; rintro e Wn ⟨rfl, rfl⟩)
      go_roundw
      case rel => exact ⟨k + 1, hlt, by go_num, hkr.trans hk2⟩
      case measure => simp [intOf]; omega
    · have hdl : decide ((k : Int) < (R.ow.length : Int)) = false := by simpa using hlt
      clear hk
      go_wp2_with fail
      obtain ⟨W2, hW2⟩ : ∃ W2, W2 = wr := ⟨_, rfl⟩
      rw [← hW2] at hkw hkr ⊢
      have HX := Lib.hid (HX.out.keep hkr)
      clear hkr hdl hW2 hka x0 hlt
      go_loopw [8] (fun i wr => ∃ k : Nat, k ≤ R.cs.length ∧ i = .int .i64 k ∧ Kept noX W2 wr) (fun i _ => R.cs.length - (intOf i).toNat)
      case atStart => exact ⟨0, Nat.zero_le _, rfl, Kept.refl _ _⟩
      case round =>
        obtain ⟨k, hk, rfl, hkr⟩ := hrel
        have x1 := (HX.out.keep hkr).cell 1
        simp only [List.getElem?_cons_zero, List.getElem?_cons_succ] at x1
        have hkv := hkw.trans hkr
        by_cases hlt : k < R.cs.length
        · have hdl : decide ((k : Int) < (R.cs.length : Int)) = true := by simpa using hlt
          obtain ⟨b, o, c, A, n, ci, hveq, hcell, hn, hrow⟩ := rowL_at H1.out hlt
          injection hveq with hA _ hc
          subst hA hc hn
          have hls : k < S.cs.length := by rw [HL.out.cs]; exact hlt
          have hse : S.cs[k] = R.cs[k] := by simp [HL.out.cs]
          have hln : R.cs[k].length ≤ 1000000000 := by
            obtain ⟨_, _, _, _, _, _, _, _, _, _, _, _, hcs, _⟩ := HY.out
            obtain ⟨_, _, q⟩ := hcs k hls
            rw [← hse]
            exact q.2.2
          have HC := Lib.hid (waits_in (HY.out.keep hkv) k hls)
          rw [hse] at HC
          have q0 := hkv.cell hcell
          have HROW := Lib.hid (Rep.keep (show Rep W noX [_] _ from hrow) hkv)
          generalize R.cs[k] = xs at *
          clear hcell hse hls hrow
          go_wp2_with fail
          refine HC.out.mono ?_
          rintro e W3 ⟨⟨v, rfl, hv⟩, hk3⟩
          obtain ⟨Av, cv, rfl, _, _⟩ := own_formN0 hv
          have x1 := hk3.cell x1
          have q0 := hk3.cell q0
          have HI := Lib.hid (ints_same xs Av A cv ci (by omega) W3 (own_row (own_low hv (Nat.zero_le _)) (fun _ _ h => h)) (Rep.keep HROW.out hk3))
          clear hv HC
          go_wp2_with (first
            | (go_at_call 23; refine (num_any _ _).mono ?_; rintro e Wn ⟨rfl, rfl⟩)
            | (go_at_call 28; refine HI.out.mono ?_; rintro e W4 ⟨rfl, hk4⟩))
          go_roundw
          case rel => exact ⟨k + 1, hlt, by go_num, (hkr.trans hk3).trans hk4⟩
          case measure => simp [intOf]; omega
        · have hdl : decide ((k : Int) < (R.cs.length : Int)) = false := by simpa using hlt
          clear hk
          go_wp2_with fail
          obtain ⟨W3, hW3⟩ : ∃ W3, W3 = wr := ⟨_, rfl⟩
          rw [← hW3] at hkv hkr ⊢
          have HX := Lib.hid (HX.out.keep hkr)
          clear hkr hdl hW3 x1 hlt
          go_loopw [11] (fun i wr => ∃ k : Nat, k ≤ R.rm.length ∧ i = .int .i64 k ∧ Kept noX W3 wr) (fun i _ => R.rm.length - (intOf i).toNat)
          case atStart => exact ⟨0, Nat.zero_le _, rfl, Kept.refl _ _⟩
          case round =>
            obtain ⟨k, hk, rfl, hkr⟩ := hrel
            have x2 := (HX.out.keep hkr).cell 2
            simp only [List.getElem?_cons_zero, List.getElem?_cons_succ] at x2
            have hku := hkv.trans hkr
            by_cases hlt : k < R.rm.length
            · have hdl : decide ((k : Int) < (R.rm.length : Int)) = true := by simpa using hlt
              obtain ⟨b, o, c, hveq, hcell, _⟩ := rowN_at H2.out hlt
              injection hveq with hA _ hc
              subst hA hc
              have hls : k < S.qs.length := by rw [HL.out.qs]; exact hlt
              have hst : k < R.st.length := by rw [HL.out.st]; exact hlt
              have htk : k < R.tk.length := by rw [HL.out.tk]; exact hlt
              have hq := HL.out.q k hlt
              have HC := Lib.hid (room_in (HY.out.keep hku) k hls)
              have q0 := hku.cell hcell
              have hq1 : S.qs[k].room = R.rm[k] := by rw [hq.1]
              have hq2 : S.qs[k].it = R.st[k].drop R.tk[k] := by rw [hq.1]
              rw [hq1] at HC
              have HQ := Lib.hid hq
              have HQ2 := Lib.hid hq2
              have HLS := Lib.hid hls
              have HST := Lib.hid hst
              have HTK := Lib.hid htk
              have HKU := Lib.hid hku
              generalize R.rm[k] = rm at q0 HC
              clear hcell hq hq1 hq2
              go_wp2_with fail
              refine HC.out.mono ?_
              rintro e W4 ⟨rfl, hk4⟩
              have HV := Lib.hid (values_in (HY.out.keep (hku.trans hk4)) k HLS.out)
              rw [HQ2.out] at HV
              clear HC
              go_wp2_with fail
              refine HV.out.mono ?_
              rintro e W5 ⟨⟨v, rfl, hv⟩, hk5⟩
              have hk45 := (hkr.trans hk4).trans hk5
              have HZ := Lib.hid (zvalues_any (HRV.out.keep ((HKU.out.trans hk4).trans hk5)) k HST.out HTK.out HQ.out.2.1 ⟨by rw [HL.out.st]; omega, HQ.out.2.2⟩)
              have HOV := Lib.hid hv
              have hle9 : (R.st[k].drop R.tk[k]).length ≤ 1000000000 := by rw [List.length_drop]; have := HQ.out.2.2; omega
              obtain ⟨Av, cv, rfl, _, _⟩ := own_formN0 hv
              have y0 := (HX.out.keep hk45).cell 0
              have y1 := (HX.out.keep hk45).cell 1
              have y2 := (HX.out.keep hk45).cell 2
              have y3 := (HX.out.keep hk45).cell 3
              have y4 := (HX.out.keep hk45).cell 4
              simp only [List.getElem?_cons_zero, List.getElem?_cons_succ] at y0 y1 y2 y3 y4
              have q0 := (hk4.trans hk5).cell q0
              generalize R.st[k].drop R.tk[k] = xs at HZ HOV hle9 hv ⊢
              clear hv HV x2
              go_wp2_with fail
              refine HZ.out.mono ?_
              rintro e W6 ⟨⟨A6, c6, rfl, hr6⟩, hk6⟩
              have q0 := hk6.cell q0
              have y2 := hk6.cell y2
              have HR5 := Lib.hid (own_row (own_low (own_kept HOV.out hk6 (fun _ _ h => h)) (Nat.zero_le _)) (Z := noX) (fun _ _ h => h))
              have HR6 := Lib.hid hr6
              have hk456 := hk45.trans hk6
              clear hr6 HZ HOV y0 y1 y3 y4
              go_wp2_with (go_at_call 23; refine (num_any _ _).mono ?_; rintro e Wn ⟨rfl, rfl⟩)
              go_loopw [17] (fun i wr => ∃ j : Nat, j ≤ xs.length ∧ i = .int .i64 j ∧ Kept noX W6 wr) (fun i _ => xs.length - (intOf i).toNat)
              case atStart => exact ⟨0, Nat.zero_le _, rfl, Kept.refl _ _⟩
              case round =>
                obtain ⟨j, hj, rfl, hjr⟩ := hrel
                by_cases hjl : j < xs.length
                · have hdj : decide ((j : Int) < (xs.length : Int)) = true := by simpa using hjl
                  obtain ⟨b5, o5, c5, hv5, hc5, _⟩ := rowN_at HR5.out hjl
                  obtain ⟨b6, o6, c6', hv6, hc6, _⟩ := rowN_at HR6.out hjl
                  injection hv5 with h5a _ h5c
                  injection hv6 with h6a _ h6c
                  subst h5a h5c h6a h6c
                  have p1 := hjr.cell hc5
                  have p2 := hjr.cell hc6
                  generalize xs[j] = x at *
                  clear hc5 hc6
                  go_wp2_with fail
                  refine wp_region_held_drew (S := (fun w' => w'.cell? ⟨b5, o5 + j, none⟩ = some (.int .i64 x) ∧ w'.cell? ⟨b6, o6 + j, none⟩ = some (.int .i64 x))) (by kernel_rfl) ⟨p1, p2⟩ (fun hHeld => ?_)
                  refine wpAnyH_take (i := 0) (v := ?_) rfl (by kernel_rfl) (by kernel_rfl) (by kernel_rfl) (fun _ _ _ h => h) (Or.inl ⟨by rfl, ?_⟩) (by assumption) ?_
                  rotate_left
                  · intro wS hSw
                    (try dsimp only at hSw)
                    go_simp
                    (try with_reducible rfl)
                  refine wpAnyH_take (i := 1) (v := ?_) rfl (by kernel_rfl) (by kernel_rfl) (by kernel_rfl) (fun _ _ _ h => h) (Or.inl ⟨by rfl, ?_⟩) (by assumption) ?_
                  rotate_left
                  · intro wS hSw
                    (try dsimp only at hSw)
                    go_simp
                    (try with_reducible rfl)
                  refine wpAnyH_take (i := 2) (v := ?_) rfl (by kernel_rfl) (by kernel_rfl) (by kernel_rfl) (fun _ _ _ h => h) (Or.inl ⟨by rfl, ?_⟩) (by assumption) ?_
                  rotate_left
                  · intro wS hSw
                    (try dsimp only at hSw)
                    go_simp
                    (try with_reducible rfl)
                  refine wpAnyH_take (i := 3) (v := ?_) rfl (by kernel_rfl) (by kernel_rfl) (by kernel_rfl) (fun _ _ _ h => h) (Or.inl ⟨by rfl, ?_⟩) (by assumption) ?_
                  rotate_left
                  · intro wS hSw
                    (try dsimp only at hSw)
                    go_simp
                    (try with_reducible rfl)
                  refine wpAnyH_take (i := 4) (v := ?_) rfl (by kernel_rfl) (by kernel_rfl) (by kernel_rfl) (fun _ _ _ h => h) (Or.inl ⟨by rfl, ?_⟩) (by assumption) ?_
                  rotate_left
                  · intro wS hSw
                    (try dsimp only at hSw)
                    go_simp
                    (try with_reducible rfl)
                  (try simp only [Act.put, List.getElem_toArray, List.getElem_cons_succ, List.getElem_cons_zero, List.setIfInBounds_toArray, List.set_cons_zero, List.set_cons_succ])
                  refine wpAnyH_take (i := 5) (v := ?_) rfl (by kernel_rfl) (by kernel_rfl) (by kernel_rfl) (fun _ _ _ h => h) (Or.inl ⟨by rfl, ?_⟩) (by assumption) ?_
                  rotate_left
                  · intro wS hSw
                    (try dsimp only at hSw)
                    go_simp
                    (try with_reducible rfl)
                  refine wpAnyH_take (i := 6) (v := ?_) rfl (by kernel_rfl) (by kernel_rfl) (by kernel_rfl) (fun _ _ _ h => h) (Or.inl ⟨by rfl, ?_⟩) (by assumption) ?_
                  rotate_left
                  · intro wS hSw
                    (try dsimp only at hSw)
                    go_simp
                    (try with_reducible rfl)
                  refine wpAnyH_take (i := 7) (v := ?_) rfl (by kernel_rfl) (by kernel_rfl) (by kernel_rfl) (fun _ _ _ h => h) (Or.inl ⟨by rfl, ?_⟩) (by assumption) ?_
                  rotate_left
                  · intro wS hSw
                    (try dsimp only at hSw)
                    go_simp
                    (try with_reducible rfl)
                  refine wpAnyH_take (i := 8) (v := ?_) rfl (by kernel_rfl) (by kernel_rfl) (by kernel_rfl) (fun _ _ _ h => h) (Or.inl ⟨by rfl, ?_⟩) (by assumption) ?_
                  rotate_left
                  · intro wS hSw
                    (try dsimp only at hSw)
                    go_simp
                    (try with_reducible rfl)
                  refine wpAnyH_done (by kernel_rfl) ?_ _
                  (try simp only [Act.put, List.getElem_toArray, List.getElem_cons_succ, List.getElem_cons_zero, List.setIfInBounds_toArray, List.set_cons_zero, List.set_cons_succ])
                  go_wp2
                  go_roundw
                  case rel => exact ⟨j + 1, hjl, by go_num, hjr.drew⟩
                  case measure => simp [intOf]; omega
                · have hdj : decide ((j : Int) < (xs.length : Int)) = false := by simpa using hjl
                  go_wp2
                  go_roundw
                  case rel => exact ⟨k + 1, hlt, by go_num, hk456.trans hjr⟩
                  case measure => simp [intOf]; omega
            · have hdl : decide ((k : Int) < (R.rm.length : Int)) = false := by simpa using hlt
              clear hk
              go_wp2_with fail
              go_ret
              exact ⟨rfl, hku⟩
end Go.Proofs.Ytehcfahfbdphpaa
