/- Layer 4: what a queue holds, collected into a slice of its own (conditions: at most 2^40 things). -/
import Derived.Test.YtehcfahfbdphpaaSy5
namespace Go.Proofs.Ytehcfahfbdphpaa
open Go.RowKit Go.Shelf
attribute [local go_sem] Oper.semAt_some
def ApI (w : World) (B T : Nat) (O : Nat → Prop) (pre : List Int) (W : World) : Prop :=
  Kept (B ≤ ·) w W ∧ ∃ v, Cells W T 22 [v] ∧ W.ownsRow 0 3 1 v pre.length (pre.map (.int .i64)) ∧ ¬ O T ∧ ∀ g, v.ownBlock = some g → ¬ O g ∧ T < g
section
variable {w W W' : World} {B T : Nat} {O O' : Nat → Prop} {pre : List Int}
theorem ApI.stab (h : ApI w B T O pre W) (hO : ∀ k, O k → B ≤ k) (hk : Kept O W W') : ApI w B T O pre W' := by
  obtain ⟨h1, v, h2, h3, h4, h5⟩ := h
  exact ⟨h1.trans (hk.mono (fun k _ h => hO k h)), v, h2.kept hk h4, own_kept h3 hk (fun g hg => (h5 g hg).1), h4, h5⟩
theorem ApI.ext (h : ApI w B T O pre W) (hO : ∀ k, k < W.heap.size → O' k → O k) : ApI w B T O' pre W := by
  obtain ⟨h1, v, h2, h3, h4, h5⟩ := h
  refine ⟨h1, v, h2, h3, fun ho => h4 (hO _ h2.lt ho), fun g hg => ⟨fun ho => (h5 g hg).1 (hO g ?_ ho), (h5 g hg).2⟩⟩
  rcases h3.2 with ⟨rfl, _⟩ | ⟨g', _, _, rfl, _, hgg, _⟩
  · cases hg
  · have e : g' = g := Option.some.inj hg
    subst e
    exact (Array.getElem?_eq_some_iff.1 hgg).1
end
set_option maxRecDepth 100000 in
set_option maxHeartbeats 1000000 in
theorem appendSeq_any (xs : List Int) (A : Option Addr) (c : Nat) (hlen : xs.length ≤ 1099511627776) (w0 w : World) (hv : RowV w0 noX (.slice A xs.length c) (xs.map (D.int .i64))) (hk : Kept noX w0 w) (hB : Cells w w0.heap.size 22 [.slice A xs.length c]) :
    Calls Try.prog 68 #[.slice none 0 0, .func (.func 89) #[] #[.pointer (some ⟨w0.heap.size, 0, none⟩)]] w fun e w' => ∃ v, e = .returned v ∧ w'.ownsRow w0.heap.size 3 1 v xs.length (xs.map (.int .i64)) ∧ Kept noX w0 w' := by
  have hBl := hB.lt
  obtain ⟨B, hBe⟩ : ∃ B, B = w0.heap.size := ⟨_, rfl⟩
  have HVB := Lib.hid (show RowV w0 (B ≤ ·) (.slice A xs.length c) (xs.map (D.int .i64)) from hv.mono (fun g hg h => by have h : B ≤ g := h; omega))
  obtain ⟨i0, hi0, hz0, hz1, hz2⟩ := info_parts infoI
  rw [← hBe] at hB hBl ⊢
  have hBT : B < w.heap.size := by omega
  have HBOX := Lib.hid (values_seq (w0 := w0) (b0 := B) xs A c (by omega) HVB.out B B (Nat.le_refl _) w hB)
  clear hv hB
  refine (callsIn_wide (n := 0)).1 (callsIn_of_wp_marks Try.func68 rfl trivial ?_ rfl)
  simp only [Try.ntmps68, List.size_toArray, List.length_cons, List.length_nil, Nat.reduceAdd, Nat.reduceSub, Array.replicate_succ, Array.replicate_zero, List.push_toArray, List.append_toArray, List.nil_append, List.cons_append]
  gi_wp2_with fail
  have hTC := Cells.fresh w 22 [.slice none 0 0]
  have hkT : Kept noX w (w.alloc (.cells #[.slice none 0 0] 22)) := (Kept.refl _ _).alloc _
  generalize w.alloc (.cells #[.slice none 0 0] 22) = w1 at hTC hkT ⊢
  refine wpIn_rangeD (gf := 89) (lb := #[.pointer (some ⟨B, 0, none⟩)]) rfl (enters_of Try.func89 (by kernel_rfl) rfl) HBOX.out (by have := hTC.lt; omega) hkT (fun _ => rfl)
    (fun O pre W => ApI w0 B w.heap.size O pre W) (fun _ _ _ _ => False)
    (fun O pre x a1 W => (ApI w0 B w.heap.size O pre W) ∧ (∀ k, O k → k < W.heap.size) ∧ ∃ u0 u1 u3 u4 u6 u7 u8 u9 u10 u11 u12 : Value, a1 = { tmps := #[u0, u1, .pointer (some ⟨w.heap.size, 0, none⟩), u3, u4, .int .i64 x, u6, u7, u8, u9, u10, u11, u12], defers := [] })
    ?hIK ?hI ?hIe ?hIx ?hAx ?h0 ?hassign ?hbody ?hdone ?hstop
  case hIK => intro O pre W1 h; exact h.1
  case hI => intro O pre W1 W2 hO h hk; exact h.stab hO hk
  case hIe => intro O O' pre W1 h hO; exact h.ext hO
  case hIx => intro c O pre W1 W2 hO h hk; exact h
  case hAx => rintro O pre x a1 W1 W2 hO ⟨h1, h2, h3⟩ hk; exact ⟨h1.stab hO hk, fun k ho => Nat.lt_of_lt_of_le (h2 k ho) hk.size, h3⟩
  case h0 => exact ⟨((hk.trans hkT).any), _, hTC, World.ownsRow_nil _ _ _ _, fun h => by omega, fun g hg => by cases hg⟩
  case hassign =>
    rintro lq O pre x Wq hO hOs hmq hwi
    simp only [encN]
    gi_wp2
    exact ⟨Kept.refl _ _, hwi, hOs, _, _, _, _, _, _, _, _, _, _, _, rfl⟩
  case hbody =>
    rintro lq O pre x a1 Wq hO hmq ⟨hwi, hOs, u0, u1, u3, u4, u6, u7, u8, u9, u10, u11, u12, rfl⟩
    obtain ⟨h1, v, h2, h3, h4, h5⟩ := hwi
    obtain ⟨A0, n0, cc0, rfl⟩ := own_form0 h3
    have hpl : pre.length < xs.length := by
      have := hmq.length_le
      simp at this
      omega
    have c0 := h2.cell 0
    have f0 := h2.free 0
    simp only [List.getElem?_cons_zero] at c0
    have HO := Lib.hid (h3.alloc (.cells #[.int .i64 x] 3))
    have HN := Lib.hid (cell_one_new Wq (.int .i64 x) 3)
    have HC := Lib.hid h2
    have H1 := Lib.hid h1
    have H4 := Lib.hid h4
    have H5 := Lib.hid h5
    have hTl := h2.lt
    clear h1 h2 h3 h4 h5
    have hTn : (Value.slice A0 n0 cc0).ownBlock ≠ some w.heap.size := fun h => by have := (H5.out w.heap.size h).2; omega
    gi_wp2_with (gi_at_builtin; refine wpListIn_append_at _ rfl _ _ 22 rfl 0 3 i0 (.int .i64 0) 1 8 Try.underlying22 hi0 hz0 hz1 hz2 rfl (by decide) (.slice A0 n0 cc0) pre.length (pre.map (.int .i64)) rfl HO.out ⟨Wq.heap.size, 0, none⟩ 1 1 [.int .i64 x] rfl rfl HN.out (by intro u hu; obtain rfl := List.mem_singleton.1 hu; rfl) (by unfold maxLen; omega) (by omega) (Nat.zero_le _) ?_
                 intro v' W1 hown' hgrow hat
                 have hk1 : Kept (fun k => (Value.slice A0 n0 cc0).ownBlock = some k) Wq W1 := ((Kept.refl _ _).alloc _).grown hgrow (fun k hk _ => hk)
                 have hC1 := HC.out.kept hk1 hTn
                 have c1 := hC1.cell 0
                 have f1 := hC1.free 0
                 simp only [List.getElem?_cons_zero] at c1
                 have HC1 := Lib.hid hC1
                 have HO1 := Lib.hid hown'
                 have HAT := Lib.hid hat
                 obtain ⟨A', n', c', rfl⟩ := own_form0 hown'
                 clear hC1 hown' hat hgrow)
    have hloc := HAT.out
    rw [World.size_alloc] at hloc
    have hnew : ∀ g, (Value.slice A' n' c').ownBlock = some g → ¬ O g ∧ w.heap.size < g := fun g hg => by
      rcases hloc with h | h
      · exact H5.out g (h.symm.trans hg)
      · have : Wq.heap.size + 1 = g := Option.some.inj (h.symm.trans hg)
        exact ⟨fun ho => by have := hOs g ho; omega, by omega⟩
    have hkc : Kept (· = w.heap.size) W1 (W1.setCell ⟨w.heap.size, 0, none⟩ (.slice A' n' c')) := (Kept.refl (· = w.heap.size) W1).setCell (p := ⟨w.heap.size, 0, none⟩) (fun _ => rfl) _
    refine ⟨trivial, ?_, (H1.out.join hk1 (fun i hi hl => ?_)).trans (hkc.mono (fun k _ h => by have h : k = w.heap.size := h; show B ≤ k; omega)), _, HC1.out.put 0 _, ?_, H4.out, hnew⟩
    · exact (hk1.mono (fun k _ h => (H5.out k h).1)).trans (hkc.mono (fun k _ h => by have h : k = w.heap.size := h; rw [h]; exact H4.out))
    · have := (H5.out i hi).2
      show B ≤ i
      omega
    · have := own_kept HO1.out hkc (fun g hg h => by have h : g = w.heap.size := h; have := (hnew g hg).2; omega)
      simpa using this
  case hdone =>
    rintro D xs' O W8 hD hO hOD hxs ⟨h1, v, h2, h3, h4, h5⟩ hDd
    obtain rfl : xs' = xs := hxs
    have c0 := h2.cell 0
    simp only [List.getElem?_cons_zero] at c0
    have H1 := Lib.hid h1
    have H3 := Lib.hid h3
    have H5 := Lib.hid h5
    have HM := Lib.hid ((MarksAt.nil W8).cons hDd (by simp))
    have hDB : B ≤ D := hO D hOD
    have hDO := Lib.hid hOD
    clear h1 h2 h3 h4 h5 hDd hOD
    gi_wp2
    refine leave_marks [D] W8 HM.out (fun W' hk' => ⟨_, results_tmp rfl _ _ _, _, rfl, ?_, ?_⟩)
    · refine own_base (own_kept H3.out hk' (fun g hg h => ?_)) (fun g hg => by have := (H5.out g hg).2; omega)
      obtain rfl := List.mem_singleton.1 h
      exact (H5.out g hg).1 hDO.out
    · exact (H1.out.trans (hk'.mono (fun k _ h => by obtain rfl := List.mem_singleton.1 h; exact hDB))).mono (fun k hk h => by have h : B ≤ k := h; omega)
  case hstop => rintro D c pre O W8 hD hO hOD hSp h; exact h.elim
set_option maxRecDepth 100000 in
set_option maxHeartbeats 1000000 in
theorem collect_any (xs : List Int) (A : Option Addr) (c : Nat) (hlen : xs.length ≤ 1099511627776) (w0 w : World) (hv : RowV w0 noX (.slice A xs.length c) (xs.map (D.int .i64))) (hk : Kept noX w0 w) (hB : Cells w w0.heap.size 22 [.slice A xs.length c]) :
    Calls Try.prog 42 #[.func (.func 89) #[] #[.pointer (some ⟨w0.heap.size, 0, none⟩)]] w fun e w' => ∃ v, e = .returned v ∧ w'.ownsRow w0.heap.size 3 1 v xs.length (xs.map (.int .i64)) ∧ Kept noX w0 w' := by
  have H := Lib.hid (appendSeq_any xs A c hlen w0 w hv hk hB)
  clear hv hB
  go_enter Try.func42, Try.ntmps42
  go_wp2_with fail
  refine H.out.mono ?_
  rintro e W1 ⟨v, rfl, h1, h2⟩
  go_wp2
  go_ret
  exact ⟨v, rfl, h1, h2⟩
def ApI64 (w : World) (B T : Nat) (O : Nat → Prop) (pre : List Int) (W : World) : Prop :=
  Kept (B ≤ ·) w W ∧ ∃ v, Cells W T 47 [v] ∧ W.ownsRow 0 2 1 v pre.length (pre.map (.int .i64)) ∧ ¬ O T ∧ ∀ g, v.ownBlock = some g → ¬ O g ∧ T < g
section
variable {w W W' : World} {B T : Nat} {O O' : Nat → Prop} {pre : List Int}
theorem ApI64.stab (h : ApI64 w B T O pre W) (hO : ∀ k, O k → B ≤ k) (hk : Kept O W W') : ApI64 w B T O pre W' := by
  obtain ⟨h1, v, h2, h3, h4, h5⟩ := h
  exact ⟨h1.trans (hk.mono (fun k _ h => hO k h)), v, h2.kept hk h4, own_kept h3 hk (fun g hg => (h5 g hg).1), h4, h5⟩
theorem ApI64.ext (h : ApI64 w B T O pre W) (hO : ∀ k, k < W.heap.size → O' k → O k) : ApI64 w B T O' pre W := by
  obtain ⟨h1, v, h2, h3, h4, h5⟩ := h
  refine ⟨h1, v, h2, h3, fun ho => h4 (hO _ h2.lt ho), fun g hg => ⟨fun ho => (h5 g hg).1 (hO g ?_ ho), (h5 g hg).2⟩⟩
  rcases h3.2 with ⟨rfl, _⟩ | ⟨g', _, _, rfl, _, hgg, _⟩
  · cases hg
  · have e : g' = g := Option.some.inj hg
    subst e
    exact (Array.getElem?_eq_some_iff.1 hgg).1
end
set_option maxRecDepth 100000 in
set_option maxHeartbeats 1000000 in
theorem appendSeq64_any (xs : List Int) (A : Option Addr) (c : Nat) (hlen : xs.length ≤ 1099511627776) (w0 w : World) (hv : RowV w0 noX (.slice A xs.length c) (xs.map (D.int .i64))) (hk : Kept noX w0 w) (hB : Cells w w0.heap.size 47 [.slice A xs.length c]) :
    Calls Try.prog 73 #[.slice none 0 0, .func (.func 90) #[] #[.pointer (some ⟨w0.heap.size, 0, none⟩)]] w fun e w' => ∃ v, e = .returned v ∧ w'.ownsRow w0.heap.size 2 1 v xs.length (xs.map (.int .i64)) ∧ Kept noX w0 w' := by
  have hBl := hB.lt
  obtain ⟨B, hBe⟩ : ∃ B, B = w0.heap.size := ⟨_, rfl⟩
  have HVB := Lib.hid (show RowV w0 (B ≤ ·) (.slice A xs.length c) (xs.map (D.int .i64)) from hv.mono (fun g hg h => by have h : B ≤ g := h; omega))
  obtain ⟨i0, hi0, hz0, hz1, hz2⟩ := info_parts infoI64
  rw [← hBe] at hB hBl ⊢
  have hBT : B < w.heap.size := by omega
  have HBOX := Lib.hid (values64_seq (w0 := w0) (b0 := B) xs A c (by omega) HVB.out B B (Nat.le_refl _) w hB)
  clear hv hB
  refine (callsIn_wide (n := 0)).1 (callsIn_of_wp_marks Try.func73 rfl trivial ?_ rfl)
  simp only [Try.ntmps73, List.size_toArray, List.length_cons, List.length_nil, Nat.reduceAdd, Nat.reduceSub, Array.replicate_succ, Array.replicate_zero, List.push_toArray, List.append_toArray, List.nil_append, List.cons_append]
  gi_wp2_with fail
  have hTC := Cells.fresh w 47 [.slice none 0 0]
  have hkT : Kept noX w (w.alloc (.cells #[.slice none 0 0] 47)) := (Kept.refl _ _).alloc _
  generalize w.alloc (.cells #[.slice none 0 0] 47) = w1 at hTC hkT ⊢
  refine wpIn_rangeD (gf := 90) (lb := #[.pointer (some ⟨B, 0, none⟩)]) rfl (enters_of Try.func90 (by kernel_rfl) rfl) HBOX.out (by have := hTC.lt; omega) hkT (fun _ => rfl)
    (fun O pre W => ApI64 w0 B w.heap.size O pre W) (fun _ _ _ _ => False)
    (fun O pre x a1 W => (ApI64 w0 B w.heap.size O pre W) ∧ (∀ k, O k → k < W.heap.size) ∧ ∃ u0 u1 u3 u4 u6 u7 u8 u9 u10 u11 u12 : Value, a1 = { tmps := #[u0, u1, .pointer (some ⟨w.heap.size, 0, none⟩), u3, u4, .int .i64 x, u6, u7, u8, u9, u10, u11, u12], defers := [] })
    ?hIK ?hI ?hIe ?hIx ?hAx ?h0 ?hassign ?hbody ?hdone ?hstop
  case hIK => intro O pre W1 h; exact h.1
  case hI => intro O pre W1 W2 hO h hk; exact h.stab hO hk
  case hIe => intro O O' pre W1 h hO; exact h.ext hO
  case hIx => intro c O pre W1 W2 hO h hk; exact h
  case hAx => rintro O pre x a1 W1 W2 hO ⟨h1, h2, h3⟩ hk; exact ⟨h1.stab hO hk, fun k ho => Nat.lt_of_lt_of_le (h2 k ho) hk.size, h3⟩
  case h0 => exact ⟨((hk.trans hkT).any), _, hTC, World.ownsRow_nil _ _ _ _, fun h => by omega, fun g hg => by cases hg⟩
  case hassign =>
    rintro lq O pre x Wq hO hOs hmq hwi
    simp only [encN64]
    gi_wp2
    exact ⟨Kept.refl _ _, hwi, hOs, _, _, _, _, _, _, _, _, _, _, _, rfl⟩
  case hbody =>
    rintro lq O pre x a1 Wq hO hmq ⟨hwi, hOs, u0, u1, u3, u4, u6, u7, u8, u9, u10, u11, u12, rfl⟩
    obtain ⟨h1, v, h2, h3, h4, h5⟩ := hwi
    obtain ⟨A0, n0, cc0, rfl⟩ := own_form0 h3
    have hpl : pre.length < xs.length := by
      have := hmq.length_le
      simp at this
      omega
    have c0 := h2.cell 0
    have f0 := h2.free 0
    simp only [List.getElem?_cons_zero] at c0
    have HO := Lib.hid (h3.alloc (.cells #[.int .i64 x] 2))
    have HN := Lib.hid (cell_one_new Wq (.int .i64 x) 2)
    have HC := Lib.hid h2
    have H1 := Lib.hid h1
    have H4 := Lib.hid h4
    have H5 := Lib.hid h5
    have hTl := h2.lt
    clear h1 h2 h3 h4 h5
    have hTn : (Value.slice A0 n0 cc0).ownBlock ≠ some w.heap.size := fun h => by have := (H5.out w.heap.size h).2; omega
    gi_wp2_with (gi_at_builtin; refine wpListIn_append_at _ rfl _ _ 47 rfl 0 2 i0 (.int .i64 0) 1 8 Try.underlying47 hi0 hz0 hz1 hz2 rfl (by decide) (.slice A0 n0 cc0) pre.length (pre.map (.int .i64)) rfl HO.out ⟨Wq.heap.size, 0, none⟩ 1 1 [.int .i64 x] rfl rfl HN.out (by intro u hu; obtain rfl := List.mem_singleton.1 hu; rfl) (by unfold maxLen; omega) (by omega) (Nat.zero_le _) ?_
                 intro v' W1 hown' hgrow hat
                 have hk1 : Kept (fun k => (Value.slice A0 n0 cc0).ownBlock = some k) Wq W1 := ((Kept.refl _ _).alloc _).grown hgrow (fun k hk _ => hk)
                 have hC1 := HC.out.kept hk1 hTn
                 have c1 := hC1.cell 0
                 have f1 := hC1.free 0
                 simp only [List.getElem?_cons_zero] at c1
                 have HC1 := Lib.hid hC1
                 have HO1 := Lib.hid hown'
                 have HAT := Lib.hid hat
                 obtain ⟨A', n', c', rfl⟩ := own_form0 hown'
                 clear hC1 hown' hat hgrow)
    have hloc := HAT.out
    rw [World.size_alloc] at hloc
    have hnew : ∀ g, (Value.slice A' n' c').ownBlock = some g → ¬ O g ∧ w.heap.size < g := fun g hg => by
      rcases hloc with h | h
      · exact H5.out g (h.symm.trans hg)
      · have : Wq.heap.size + 1 = g := Option.some.inj (h.symm.trans hg)
        exact ⟨fun ho => by have := hOs g ho; omega, by omega⟩
    have hkc : Kept (· = w.heap.size) W1 (W1.setCell ⟨w.heap.size, 0, none⟩ (.slice A' n' c')) := (Kept.refl (· = w.heap.size) W1).setCell (p := ⟨w.heap.size, 0, none⟩) (fun _ => rfl) _
    refine ⟨trivial, ?_, (H1.out.join hk1 (fun i hi hl => ?_)).trans (hkc.mono (fun k _ h => by have h : k = w.heap.size := h; show B ≤ k; omega)), _, HC1.out.put 0 _, ?_, H4.out, hnew⟩
    · exact (hk1.mono (fun k _ h => (H5.out k h).1)).trans (hkc.mono (fun k _ h => by have h : k = w.heap.size := h; rw [h]; exact H4.out))
    · have := (H5.out i hi).2
      show B ≤ i
      omega
    · have := own_kept HO1.out hkc (fun g hg h => by have h : g = w.heap.size := h; have := (hnew g hg).2; omega)
      simpa using this
  case hdone =>
    rintro D xs' O W8 hD hO hOD hxs ⟨h1, v, h2, h3, h4, h5⟩ hDd
    obtain rfl : xs' = xs := hxs
    have c0 := h2.cell 0
    simp only [List.getElem?_cons_zero] at c0
    have H1 := Lib.hid h1
    have H3 := Lib.hid h3
    have H5 := Lib.hid h5
    have HM := Lib.hid ((MarksAt.nil W8).cons hDd (by simp))
    have hDB : B ≤ D := hO D hOD
    have hDO := Lib.hid hOD
    clear h1 h2 h3 h4 h5 hDd hOD
    gi_wp2
    refine leave_marks [D] W8 HM.out (fun W' hk' => ⟨_, results_tmp rfl _ _ _, _, rfl, ?_, ?_⟩)
    · refine own_base (own_kept H3.out hk' (fun g hg h => ?_)) (fun g hg => by have := (H5.out g hg).2; omega)
      obtain rfl := List.mem_singleton.1 h
      exact (H5.out g hg).1 hDO.out
    · exact (H1.out.trans (hk'.mono (fun k _ h => by obtain rfl := List.mem_singleton.1 h; exact hDB))).mono (fun k hk h => by have h : B ≤ k := h; omega)
  case hstop => rintro D c pre O W8 hD hO hOD hSp h; exact h.elim
set_option maxRecDepth 100000 in
set_option maxHeartbeats 1000000 in
theorem collect64_any (xs : List Int) (A : Option Addr) (c : Nat) (hlen : xs.length ≤ 1099511627776) (w0 w : World) (hv : RowV w0 noX (.slice A xs.length c) (xs.map (D.int .i64))) (hk : Kept noX w0 w) (hB : Cells w w0.heap.size 47 [.slice A xs.length c]) :
    Calls Try.prog 50 #[.func (.func 90) #[] #[.pointer (some ⟨w0.heap.size, 0, none⟩)]] w fun e w' => ∃ v, e = .returned v ∧ w'.ownsRow w0.heap.size 2 1 v xs.length (xs.map (.int .i64)) ∧ Kept noX w0 w' := by
  have H := Lib.hid (appendSeq64_any xs A c hlen w0 w hv hk hB)
  clear hv hB
  go_enter Try.func50, Try.ntmps50
  go_wp2_with fail
  refine H.out.mono ?_
  rintro e W1 ⟨v, rfl, h1, h2⟩
  go_wp2
  go_ret
  exact ⟨v, rfl, h1, h2⟩
end Go.Proofs.Ytehcfahfbdphpaa
