/- The law SyncOrder: values are received as they were sent, who waits is woken in order, a mutex has one owner: true of every room and all calls (conditions: none). -/
import Derived.Test.YtehcfahfbdphpaaSy23
import Derived.Test.YtehcfahfbdphpaaSy25
namespace Go.Proofs.Ytehcfahfbdphpaa
open Go.RowKit Go.Shelf

def oS (o : Int) (came : List Int) (woken : Nat) (ins : List Int) (out : Nat) (room : Int) : SS := ⟨[o], [came.drop woken], [⟨ins.drop out, room, (ins.length : Int)⟩]⟩
/-- What the law's loop keeps. -/
def OI (w wr : World) (p : Nat) (room : Int) (k : Nat) (vi vc : Value) (ins came : List Int) (out woken : Nat) (o : Int) : Prop :=
  OW w wr p (oS o came woken ins out room) vi vc ins came ∧ (out ≤ ins.length ∧ woken ≤ came.length ∧ ins.length ≤ k ∧ came.length ≤ k ∧ (ins.length : Int) - out ≤ room) ∧ (o = -1 ∨ inI 0 7 o = true)

set_option maxRecDepth 100000 in
set_option maxHeartbeats 1000000 in
theorem order_skip (room : Int) (A : Option Addr) (n c : Nat) (w : World) (h : room < 1 ∨ 16 < room ∨ 100 < n) : Calls Try.prog 10 #[.int .i64 room, .slice A n c] w fun e w' => e = .returned (.bool true) ∧ Kept noX w w' := by
  have HW := Lib.hid (works_any w)
  by_cases h1 : room < 1
  · have e1 : decide (room < 1) = true := by simpa using h1
    clear h
    go_enter Try.func10, Try.ntmps10
    go_wp2_with (go_at_call 11; refine HW.out.mono ?_; rintro e W1 ⟨rfl, hk⟩)
    go_ret
    exact ⟨rfl, hk⟩
  · have e1 : decide (room < 1) = false := by simpa using h1
    by_cases h2 : 16 < room
    · have e2 : decide (16 < room) = true := by simpa using h2
      clear h
      go_enter Try.func10, Try.ntmps10
      go_wp2_with (go_at_call 11; refine HW.out.mono ?_; rintro e W1 ⟨rfl, hk⟩)
      go_ret
      exact ⟨rfl, hk⟩
    · have e2 : decide (16 < room) = false := by simpa using h2
      have e3 : decide ((100 : Int) < (n : Int)) = true := by simp; omega
      clear h
      go_enter Try.func10, Try.ntmps10
      go_wp2_with (go_at_call 11; refine HW.out.mono ?_; rintro e W1 ⟨rfl, hk⟩)
      go_ret
      exact ⟨rfl, hk⟩

theorem ow_rows {w wr : World} {p : Nat} {S : SS} {vi vc : Value} {ins came : List Int} (h : OW w wr p S vi vc ins came) : wr.ownsRow w.heap.size 2 1 vi ins.length (ins.map (.int .i64)) ∧ wr.ownsRow w.heap.size 3 1 vc came.length (came.map (.int .i64)) ∧ w.heap.size ≤ wr.heap.size := by
  obtain ⟨T, _, _, h3, ⟨h4, _⟩, ⟨h6, _⟩⟩ := h
  exact ⟨h4, h6, h3.size⟩
theorem OI.kept {w wr W' : World} {p : Nat} {room : Int} {k : Nat} {vi vc : Value} {ins came : List Int} {out woken : Nat} {o : Int} (h : OI w wr p room k vi vc ins came out woken o) (hk : Kept noX wr W') : OI w W' p room (k + 1) vi vc ins came out woken o :=
  ⟨h.1.keep hk, ⟨h.2.1.1, h.2.1.2.1, by have := h.2.1.2.2.1; omega, by have := h.2.1.2.2.2.1; omega, h.2.1.2.2.2.2⟩, h.2.2⟩
set_option maxRecDepth 100000 in
set_option maxHeartbeats 8000000 in
theorem order_any (room : Int) (A : Option Addr) (c : Nat) (l : List AC) (w : World) (ha : ActsAt w A l) : Calls Try.prog 10 #[.int .i64 room, .slice A l.length c] w fun e w' => e = .returned (.bool true) ∧ Kept noX w w' := by
  by_cases h : room < 1 ∨ 16 < room ∨ 100 < l.length
  · exact order_skip room A l.length c w h
  have e1 : decide (room < 1) = false := by simp; omega
  have e2 : decide (16 < room) = false := by simp; omega
  have e3 : decide ((100 : Int) < (l.length : Int)) = false := by simp; omega
  have hr1 : 1 ≤ room := by omega
  have hr2 : room ≤ 16 := by omega
  have hl : l.length ≤ 100 := by omega
  have hR : RowV (w.alloc (.cells #[.int .i64 room] 3)) noX (.slice (some ⟨w.heap.size, 0, none⟩) 1 1) ([room].map (D.int .i64)) := own_row (t := 3) (cells_own (Cells.fresh w 3 [.int .i64 room]) rfl rfl (by omega) (by unfold maxLen; omega) rfl) (fun _ _ h => h)
  have hka : Kept noX w (w.alloc (.cells #[.int .i64 room] 3)) := (Kept.refl _ _).alloc _
  have HN := Lib.hid (new_any 1 1 _ 1 [room] (by simp) _ hR)
  have hok : okN 1 1 [room] = true := by simp [okN, inI]; omega
  have HA := Lib.hid ha
  have hs1 : w.heap.size ≤ (w.alloc (.cells #[.int .i64 room] 3)).heap.size := hka.size
  clear hR h ha
  go_enter Try.func10, Try.ntmps10
  go_wp2_with fail
  refine HN.out.mono ?_
  rintro e W1 (⟨_, p, T, rfl, h1, h2, h3⟩ | ⟨hf, _⟩)
  rotate_left
  · rw [hok] at hf; cases hf
  have HO : Hid (OI w W1 p room 0 (.slice none 0 0) (.slice none 0 0) [] [] 0 0 (-1)) := Lib.hid ⟨OW.made h1 (fun g hg => by have := h2 g hg; omega) (hka.trans h3), ⟨Nat.le_refl _, Nat.le_refl _, Nat.le_refl _, Nat.le_refl _, by simp; omega⟩, .inl rfl⟩
  clear h1 h2 h3 T hka HN hok hs1
  go_wp2_with fail
  go_loopw [12, 7, 8, 9, 10, 11] (fun i vi vc ou wo ow wr => ∃ (k : Nat) (ins came : List Int) (out woken : Nat) (o : Int), k ≤ l.length ∧ i = .int .i64 k ∧ ou = .int .i64 out ∧ wo = .int .i64 woken ∧ ow = .int .i64 o ∧ OI w wr p room k vi vc ins came out woken o) (fun i _ _ _ _ _ _ => l.length - (intOf i).toNat)
  case atStart => exact ⟨0, [], [], 0, 0, -1, Nat.zero_le _, rfl, rfl, rfl, rfl, HO.out⟩
  case round =>
    obtain ⟨k, ins, came, out, woken, o, hk, rfl, rfl, rfl, rfl, hO⟩ := hrel
    by_cases hlt : k < l.length
    · have hdl : decide ((k : Int) < (l.length : Int)) = true := by simpa using hlt
      obtain ⟨b, o', rfl, hcell⟩ := HA.out k hlt
      have hOI := hO
      obtain ⟨hOW, ⟨b1, b2, b3, b4, b5⟩, ho⟩ := hO
      obtain ⟨T, h1, h2, h3, ⟨h4, h5⟩, ⟨h6, h7⟩⟩ := hOW
      obtain ⟨Ai, ci, rfl, _, _⟩ := own_formN h4
      obtain ⟨Ac, cc, rfl, _, _⟩ := own_formN h6
      have p0 : wr.cell? ⟨b, o' + k * 4, none⟩ = some (.int .i64 l[k].what) := h3.cell (hcell 0 (by omega))
      have p1 : wr.cell? ⟨b, o' + k * 4 + 1, none⟩ = some (.int .i64 l[k].n) := h3.cell (hcell 1 (by omega))
      have p2 : wr.cell? ⟨b, o' + k * 4 + 2, none⟩ = some (.int .i64 l[k].t) := h3.cell (hcell 2 (by omega))
      have p3 : wr.cell? ⟨b, o' + k * 4 + 3, none⟩ = some (.int .i64 l[k].v) := h3.cell (hcell 3 (by omega))
      generalize l[k].what = a at *
      generalize l[k].n = nn at *
      generalize l[k].t = t at *
      generalize l[k].v = x at *
      have H1 := Lib.hid h1
      have H2 := Lib.hid h2
      have H3 := Lib.hid h3
      have H4 := Lib.hid (And.intro h4 h5)
      have H6 := Lib.hid (And.intro h6 h7)
      have HOI := Lib.hid hOI
      have HO2 := Lib.hid ho
      obtain ⟨W0, hW0⟩ : ∃ W0, W0 = wr.alloc (.cells #[.int .i64 a, .int .i64 nn, .int .i64 t, .int .i64 x] 62) := ⟨_, rfl⟩
      have hX0 : Cells W0 wr.heap.size 62 [.int .i64 a, .int .i64 nn, .int .i64 t, .int .i64 x] := by rw [hW0]; exact Cells.fresh wr 62 _
      have hk0 : Kept noX wr W0 := by rw [hW0]; exact (Kept.refl _ _).alloc _
      have H10 := Lib.hid (h1.keep hk0)
      have TB : T wr.heap.size = 0 := by
        obtain ⟨_, _, _, _, _, _, _, _, _, _, _, _, _, _, hh, _⟩ := h1
        rcases Nat.eq_zero_or_pos (T wr.heap.size) with h0 | h0
        · exact h0
        · have := hh wr.heap.size (by omega); omega
      clear h1 h2 h3 h4 h5 h6 h7 hOI ho hcell HO
      by_cases a0 : a = 0
      · as_aux_lemma =>
        subst a0
        cases ht : inI 0 7 t with
        | false =>
          have HC := Lib.hid (lock_bad H10.out t 0 (by simp [oS]) ht)
          go_wp2_with fail
          rw [← hW0]
          refine HC.out.mono ?_
          rintro e W2 ⟨rfl, hk2⟩
          clear HC
          clear ht
          go_wp2_with (go_at_call 23; refine (num_any _ _).mono ?_; rintro e Wn ⟨rfl, rfl⟩)
          go_roundw
          case rel => exact ⟨k + 1, ins, came, out, woken, o, hlt, by go_num, rfl, rfl, rfl, HOI.out.kept (hk0.trans hk2)⟩
          case measure => simp [intOf]; omega
        | true =>
          by_cases ho1 : o = -1
          · subst ho1
            have HC := Lib.hid (lock_ok H10.out t 0 (by simp [oS]) ht rfl)
            go_wp2_with fail
            rw [← hW0]
            refine HC.out.mono ?_
            rintro e W2 ⟨rfl, hto⟩
            clear HC
            have HX2 := Lib.hid (hX0.kept hto.choose_spec.2.2 (fun h => h TB))
            have HOW2 := Lib.hid (ow_to (S' := oS t came woken ins out room) H2.out (H3.out.trans hk0) ⟨own_kept H4.out.1 hk0 (fun _ _ h => h), H4.out.2⟩ ⟨own_kept H6.out.1 hk0 (fun _ _ h => h), H6.out.2⟩ hto)
            have q2 := HX2.out.cell 2
            have q3 := HX2.out.cell 3
            simp only [List.getElem?_cons_zero, List.getElem?_cons_succ] at q2 q3
            have HT := Lib.hid ht
            clear ht hto
            go_wp2_with (go_at_call 23; refine (num_any _ _).mono ?_; rintro e Wn ⟨rfl, rfl⟩)
            go_roundw
            case rel => exact ⟨k + 1, ins, came, out, woken, t, hlt, by go_num, rfl, rfl, rfl, ⟨HOW2.out, ⟨b1, b2, by omega, by omega, b5⟩, .inr HT.out⟩⟩
            case measure => simp [intOf]; omega
          · have hin : inI 0 7 o = true := HO2.out.resolve_left ho1
            have hdo : decide (o < 0) = false := by simp [inI] at hin; simp; omega
            have HC := Lib.hid (lock_own H10.out t 0 (by simp [oS]) ht ho1)
            go_wp2_with fail
            rw [← hW0]
            refine HC.out.mono ?_
            rintro e W2 ⟨rfl, hk2⟩
            clear HC
            clear ht hin ho1
            go_wp2_with (go_at_call 23; refine (num_any _ _).mono ?_; rintro e Wn ⟨rfl, rfl⟩)
            go_roundw
            case rel => exact ⟨k + 1, ins, came, out, woken, o, hlt, by go_num, rfl, rfl, rfl, HOI.out.kept (hk0.trans hk2)⟩
            case measure => simp [intOf]; omega
      · by_cases a1 : a = 1
        · as_aux_lemma =>
          subst a1
          cases ht : inI 0 7 t with
          | false =>
            have hob : 0 ≤ o → (o == t) = false := fun h0 => by
              rw [beq_eq_false_iff_ne]
              intro e
              have h1 := HO2.out.resolve_left (by omega)
              rw [e, ht] at h1
              cases h1
            have HC := Lib.hid (unlock_no H10.out t 0 (by simp [oS]) 2 rfl (by rw [ht]; rfl))
            go_wp2_with fail
            rw [← hW0]
            refine HC.out.mono ?_
            rintro e W2 ⟨rfl, hk2⟩
            clear HC
            have q2 := (hX0.keep hk2).cell 2
            simp only [List.getElem?_cons_zero, List.getElem?_cons_succ] at q2
            clear ht
            cases hge : decide (0 ≤ o) with
            | false =>
              go_wp2_with (go_at_call 23; refine (num_any _ _).mono ?_; rintro e Wn ⟨rfl, rfl⟩)
              go_roundw
              case rel => exact ⟨k + 1, ins, came, out, woken, o, hlt, by go_num, rfl, rfl, rfl, HOI.out.kept (hk0.trans hk2)⟩
              case measure => simp [intOf]; omega
            | true =>
              replace hob := hob (by simpa using hge)
              go_wp2_with (go_at_call 23; refine (num_any _ _).mono ?_; rintro e Wn ⟨rfl, rfl⟩)
              go_roundw
              case rel => exact ⟨k + 1, ins, came, out, woken, o, hlt, by go_num, rfl, rfl, rfl, HOI.out.kept (hk0.trans hk2)⟩
              case measure => simp [intOf]; omega
          | true =>
            by_cases hot : o = t
            · subst hot
              have hdo : decide (0 ≤ o) = true := by simp [inI] at ht; simp; omega
              have HC := Lib.hid (unlock_ok H10.out o 0 (by simp [oS]) ht rfl)
              go_wp2_with fail
              rw [← hW0]
              refine HC.out.mono ?_
              rintro e W2 ⟨rfl, hto⟩
              clear HC
              have HX2 := Lib.hid (hX0.kept hto.choose_spec.2.2 (fun h => h TB))
              have HOW2 := Lib.hid (ow_to (S' := oS (-1) came woken ins out room) H2.out (H3.out.trans hk0) ⟨own_kept H4.out.1 hk0 (fun _ _ h => h), H4.out.2⟩ ⟨own_kept H6.out.1 hk0 (fun _ _ h => h), H6.out.2⟩ hto)
              have q2 := HX2.out.cell 2
              have q3 := HX2.out.cell 3
              simp only [List.getElem?_cons_zero, List.getElem?_cons_succ] at q2 q3
              clear ht hto
              go_wp2_with (go_at_call 23; refine (num_any _ _).mono ?_; rintro e Wn ⟨rfl, rfl⟩)
              go_roundw
              case rel => exact ⟨k + 1, ins, came, out, woken, -1, hlt, by go_num, rfl, rfl, rfl, ⟨HOW2.out, ⟨b1, b2, by omega, by omega, b5⟩, .inl rfl⟩⟩
              case measure => simp [intOf]; omega
            · have hob : (o == t) = false := by simpa using hot
              have HC := Lib.hid (unlock_no H10.out t 0 (by simp [oS]) 140 rfl (by rw [ht]; simp [ref140, oS, hob]))
              go_wp2_with fail
              rw [← hW0]
              refine HC.out.mono ?_
              rintro e W2 ⟨rfl, hk2⟩
              clear HC
              have q2 := (hX0.keep hk2).cell 2
              simp only [List.getElem?_cons_zero, List.getElem?_cons_succ] at q2
              clear ht hot
              cases hge : decide (0 ≤ o) with
              | false =>
                go_wp2_with (go_at_call 23; refine (num_any _ _).mono ?_; rintro e Wn ⟨rfl, rfl⟩)
                go_roundw
                case rel => exact ⟨k + 1, ins, came, out, woken, o, hlt, by go_num, rfl, rfl, rfl, HOI.out.kept (hk0.trans hk2)⟩
                case measure => simp [intOf]; omega
              | true =>
                go_wp2_with (go_at_call 23; refine (num_any _ _).mono ?_; rintro e Wn ⟨rfl, rfl⟩)
                go_roundw
                case rel => exact ⟨k + 1, ins, came, out, woken, o, hlt, by go_num, rfl, rfl, rfl, HOI.out.kept (hk0.trans hk2)⟩
                case measure => simp [intOf]; omega
        · have e1' : (a == 1) = false := by simpa using a1
          have e0' : (a == 0) = false := by simpa using a0
          by_cases a2 : a = 2
          · as_aux_lemma =>
            subst a2
            obtain ⟨wb, hwb⟩ : ∃ wb, (oS o came woken ins out room).cs.flatten.any (· == t) = wb := ⟨_, rfl⟩
            by_cases hz : ref141 true true (inI 0 7 t) (!wb) = 0
            · have hln : (came.drop woken).length < 1000000000 := by rw [List.length_drop]; omega
              have HC := Lib.hid (wait_ok H10.out t hwb 0 (by simp [oS]) hz hln)
              go_wp2_with fail
              rw [← hW0]
              refine HC.out.mono ?_
              rintro e W2 ⟨rfl, hto⟩
              clear HC
              have hdr : came.drop woken ++ [t] = (came ++ [t]).drop woken := (List.drop_append_of_le_length b2).symm
              have hS : { oS o came woken ins out room with cs := (oS o came woken ins out room).cs.set 0 ((oS o came woken ins out room).cs[0]'(by simp [oS]) ++ [t]) } = oS o (came ++ [t]) woken ins out room := by simp [oS, hdr]
              rw [hS] at hto
              have HX2 := Lib.hid (hX0.kept hto.choose_spec.2.2 (fun h => h TB))
              have HOW2 := Lib.hid (ow_to (S' := oS o (came ++ [t]) woken ins out room) H2.out (H3.out.trans hk0) ⟨own_kept H4.out.1 hk0 (fun _ _ h => h), H4.out.2⟩ ⟨own_kept H6.out.1 hk0 (fun _ _ h => h), H6.out.2⟩ hto)
              have q2 := HX2.out.cell 2
              have q3 := HX2.out.cell 3
              simp only [List.getElem?_cons_zero, List.getElem?_cons_succ] at q2 q3
              clear hto hz hwb hS hdr
              have HO5 := Lib.hid ((ow_rows HOW2.out).2.1.alloc (.cells #[.int .i64 t] 3))
              obtain ⟨i0, hi0, hz0, hz1, hz2⟩ := info_parts infoI
              have HN5 := Lib.hid (cell_one_new W2 (.int .i64 t) 3)
              have hws := (ow_rows HOW2.out).2.2
              go_wp2_with (first
                | (go_at_call 23; refine (num_any _ _).mono ?_; rintro e Wn ⟨rfl, rfl⟩)
                | (at_builtin; refine wpList_append_own_at _ rfl _ _ 22 rfl w.heap.size 3 i0 (.int .i64 0) 1 8 Try.underlying22 hi0 hz0 hz1 hz2 rfl (by decide) (.slice Ac came.length cc) came.length (came.map (.int .i64)) rfl HO5.out ⟨W2.heap.size, 0, none⟩ 1 1 [.int .i64 t] rfl rfl HN5.out (by intro u hu; obtain rfl := List.mem_singleton.1 hu; rfl) (by unfold maxLen; omega) (by omega) (by rw [World.size_alloc]; omega) ?_
                   intro v' W5 hown' hgrow _ hat
                   have hk5 : Kept (fun k => (Value.slice Ac came.length cc).ownBlock = some k) W2 W5 := ((Kept.refl _ _).alloc _).grown hgrow (fun k hk _ => hk)
                   rw [World.size_alloc] at hat
                   have HO6 := Lib.hid hown'
                   have HAT := Lib.hid hat
                   obtain ⟨A', n', c', rfl⟩ := own_form0 hown'
                   clear hown' hat hgrow))
              go_roundw
              case rel => exact ⟨k + 1, ins, came ++ [t], out, woken, o, hlt, by go_num, rfl, rfl, rfl, ⟨HOW2.out.addC hk5 (by simpa using HO6.out) HAT.out, ⟨b1, by rw [List.length_append]; omega, by omega, by rw [List.length_append, List.length_singleton]; omega, b5⟩, HO2.out⟩⟩
              case measure => simp [intOf]; omega
            · obtain ⟨kk, hkk⟩ : ∃ kk, ref141 true true (inI 0 7 t) (!wb) = kk := ⟨_, rfl⟩
              have hkz : (kk == 0) = false := by rw [← hkk]; simpa using hz
              have HC := Lib.hid (wait_no H10.out t hwb 0 (by simp [oS]) kk hkz hkk)
              go_wp2_with fail
              rw [← hW0]
              refine HC.out.mono ?_
              rintro e W2 ⟨rfl, hk2⟩
              clear HC
              clear hz hwb hkk
              go_wp2_with (go_at_call 23; refine (num_any _ _).mono ?_; rintro e Wn ⟨rfl, rfl⟩)
              go_roundw
              case rel => exact ⟨k + 1, ins, came, out, woken, o, hlt, by go_num, rfl, rfl, rfl, HOI.out.kept (hk0.trans hk2)⟩
              case measure => simp [intOf]; omega
          · have e2' : (a == 2) = false := by simpa using a2
            by_cases a3 : a = 3
            · as_aux_lemma =>
              subst a3
              cases hcd : came.drop woken with
              | nil =>
                have hwl2 : came.length ≤ woken := by
                  have := congrArg List.length hcd
                  rw [List.length_drop] at this
                  simp at this
                  omega
                have hwl3 : ¬ woken < came.length := by omega
                have hwn : decide ((woken : Int) < (came.length : Int)) = false := by
                  have := congrArg List.length hcd
                  rw [List.length_drop] at this
                  simp at this
                  simp
                  omega
                have HC := Lib.hid (signal_nil H10.out 0 (by simp [oS]) (by simpa [oS] using hcd))
                go_wp2_with fail
                rw [← hW0]
                refine HC.out.mono ?_
                rintro e W2 ⟨rfl, hk2⟩
                clear HC
                clear hcd
                go_wp2_with (go_at_call 23; refine (num_any _ _).mono ?_; rintro e Wn ⟨rfl, rfl⟩)
                go_roundw
                case rel => exact ⟨k + 1, ins, came, out, woken, o, hlt, by go_num, rfl, rfl, rfl, HOI.out.kept (hk0.trans hk2)⟩
                case measure => simp [intOf]; omega
              | cons y r =>
                have hwl : woken < came.length := by
                  have := congrArg List.length hcd
                  rw [List.length_drop] at this
                  simp at this
                  omega
                have hwn : decide ((woken : Int) < (came.length : Int)) = true := by simp; omega
                have hdr := List.drop_eq_getElem_cons hwl
                rw [hcd] at hdr
                injection hdr with hy hr
                have HC := Lib.hid (signal_some H10.out 0 (by simp [oS]) y r (by simpa [oS] using hcd))
                go_wp2_with fail
                rw [← hW0]
                refine HC.out.mono ?_
                rintro e W2 ⟨rfl, hto⟩
                clear HC
                have hS : { oS o came woken ins out room with cs := (oS o came woken ins out room).cs.set 0 r } = oS o came (woken + 1) ins out room := by simp [oS, hr]
                rw [hS] at hto
                have HX2 := Lib.hid (hX0.kept hto.choose_spec.2.2 (fun h => h TB))
                have HOW2 := Lib.hid (ow_to (S' := oS o came (woken + 1) ins out room) H2.out (H3.out.trans hk0) ⟨own_kept H4.out.1 hk0 (fun _ _ h => h), H4.out.2⟩ ⟨own_kept H6.out.1 hk0 (fun _ _ h => h), H6.out.2⟩ hto)
                obtain ⟨gb, go, gc, hveq, hcell, _⟩ := rowN_at (own_row (own_low (ow_rows HOW2.out).2.1 (Nat.zero_le _)) (Z := noX) (fun _ _ h => h)) hwl
                injection hveq with hA _ hC
                subst hA hC
                rw [← hy] at hcell
                clear hto hcd hS hr hy
                go_wp2_with (go_at_call 23; refine (num_any _ _).mono ?_; rintro e Wn ⟨rfl, rfl⟩)
                go_roundw
                case rel => exact ⟨k + 1, ins, came, out, woken + 1, o, hlt, by go_num, rfl, by go_num, rfl, ⟨HOW2.out, ⟨b1, by omega, by omega, by omega, b5⟩, HO2.out⟩⟩
                case measure => simp [intOf]; omega
            · have e3' : (a == 3) = false := by simpa using a3
              by_cases a5 : a = 5
              · as_aux_lemma =>
                subst a5
                have hwr : IntKind.i64.wrap ((ins.length : Int) - (out : Int)) = (ins.length : Int) - (out : Int) := IntWalk.i64_in _ (by omega)
                cases hv : inI (-2147483648) 2147483647 x with
                | false =>
                  have HC := Lib.hid (send_bad H10.out x 0 (by simp [oS]) hv)
                  go_wp2_with fail
                  rw [← hW0]
                  refine HC.out.mono ?_
                  rintro e W2 ⟨rfl, hk2⟩
                  clear HC
                  clear hv
                  go_wp2_with (go_at_call 23; refine (num_any _ _).mono ?_; rintro e Wn ⟨rfl, rfl⟩)
                  go_roundw
                  case rel => exact ⟨k + 1, ins, came, out, woken, o, hlt, by go_num, rfl, rfl, rfl, HOI.out.kept (hk0.trans hk2)⟩
                  case measure => simp [intOf]; omega
                | true =>
                  by_cases hf : ((ins.drop out).length : Int) = room
                  · have hfl : decide ((ins.length : Int) - (out : Int) < room) = false := by rw [List.length_drop] at hf; simp; omega
                    have HC := Lib.hid (send_full H10.out x 0 (by simp [oS]) hv (by simpa [oS] using hf))
                    go_wp2_with fail
                    rw [← hW0]
                    refine HC.out.mono ?_
                    rintro e W2 ⟨rfl, hk2⟩
                    clear HC
                    clear hv hf
                    go_wp2_with (go_at_call 23; refine (num_any _ _).mono ?_; rintro e Wn ⟨rfl, rfl⟩)
                    go_roundw
                    case rel => exact ⟨k + 1, ins, came, out, woken, o, hlt, by go_num, rfl, rfl, rfl, HOI.out.kept (hk0.trans hk2)⟩
                    case measure => simp [intOf]; omega
                  · have hfl : decide ((ins.length : Int) - (out : Int) < room) = true := by rw [List.length_drop] at hf; simp; omega
                    have HC := Lib.hid (send_ok H10.out x 0 (by simp [oS]) hv (by simpa [oS] using hf) (by simp [oS]; omega) (by simp [oS]) (by simp [oS]; omega))
                    go_wp2_with fail
                    rw [← hW0]
                    refine HC.out.mono ?_
                    rintro e W2 ⟨rfl, hto⟩
                    clear HC
                    have hdr : ins.drop out ++ [x] = (ins ++ [x]).drop out := (List.drop_append_of_le_length b1).symm
                    have hS : { oS o came woken ins out room with qs := (oS o came woken ins out room).qs.set 0 ⟨((oS o came woken ins out room).qs[0]'(by simp [oS])).it ++ [x], ((oS o came woken ins out room).qs[0]'(by simp [oS])).room, ((oS o came woken ins out room).qs[0]'(by simp [oS])).sent + 1⟩ } = oS o came woken (ins ++ [x]) out room := by simp [oS, hdr]
                    rw [hS] at hto
                    have hsent : ((oS o came woken ins out room).qs[0]'(by simp [oS])).sent = (ins.length : Int) := rfl
                    rw [hsent]
                    have HX2 := Lib.hid (hX0.kept hto.choose_spec.2.2 (fun h => h TB))
                    have HOW2 := Lib.hid (ow_to (S' := oS o came woken (ins ++ [x]) out room) H2.out (H3.out.trans hk0) ⟨own_kept H4.out.1 hk0 (fun _ _ h => h), H4.out.2⟩ ⟨own_kept H6.out.1 hk0 (fun _ _ h => h), H6.out.2⟩ hto)
                    have q2 := HX2.out.cell 2
                    have q3 := HX2.out.cell 3
                    simp only [List.getElem?_cons_zero, List.getElem?_cons_succ] at q2 q3
                    clear hto hv hf hS hdr hsent
                    have HO5 := Lib.hid ((ow_rows HOW2.out).1.alloc (.cells #[.int .i64 x] 2))
                    obtain ⟨i0, hi0, hz0, hz1, hz2⟩ := info_parts infoI64
                    have HN5 := Lib.hid (cell_one_new W2 (.int .i64 x) 2)
                    have hws := (ow_rows HOW2.out).2.2
                    go_wp2_with (first
                      | (go_at_call 23; refine (num_any _ _).mono ?_; rintro e Wn ⟨rfl, rfl⟩)
                      | (at_builtin; refine wpList_append_own_at _ rfl _ _ 47 rfl w.heap.size 2 i0 (.int .i64 0) 1 8 Try.underlying47 hi0 hz0 hz1 hz2 rfl (by decide) (.slice Ai ins.length ci) ins.length (ins.map (.int .i64)) rfl HO5.out ⟨W2.heap.size, 0, none⟩ 1 1 [.int .i64 x] rfl rfl HN5.out (by intro u hu; obtain rfl := List.mem_singleton.1 hu; rfl) (by unfold maxLen; omega) (by omega) (by rw [World.size_alloc]; omega) ?_
                         intro v' W5 hown' hgrow _ hat
                         have hk5 : Kept (fun k => (Value.slice Ai ins.length ci).ownBlock = some k) W2 W5 := ((Kept.refl _ _).alloc _).grown hgrow (fun k hk _ => hk)
                         rw [World.size_alloc] at hat
                         have HO6 := Lib.hid hown'
                         have HAT := Lib.hid hat
                         obtain ⟨A', n', c', rfl⟩ := own_form0 hown'
                         clear hown' hat hgrow))
                    go_roundw
                    case rel => exact ⟨k + 1, ins ++ [x], came, out, woken, o, hlt, by go_num, rfl, rfl, rfl, ⟨HOW2.out.addI hk5 (by simpa using HO6.out) HAT.out, ⟨by rw [List.length_append]; omega, b2, by rw [List.length_append, List.length_singleton]; omega, by omega, by rw [List.length_append, List.length_singleton]; simp at hfl; omega⟩, HO2.out⟩⟩
                    case measure => simp [intOf]; omega
              · as_aux_lemma =>
                have e5' : (a == 5) = false := by simpa using a5
                cases hid : ins.drop out with
                | nil =>
                  have hwl2 : ins.length ≤ out := by
                    have := congrArg List.length hid
                    rw [List.length_drop] at this
                    simp at this
                    omega
                  have hwl3 : ¬ out < ins.length := by omega
                  have hwn : decide ((out : Int) < (ins.length : Int)) = false := by
                    have := congrArg List.length hid
                    rw [List.length_drop] at this
                    simp at this
                    simp
                    omega
                  have HC := Lib.hid (recv_nil H10.out 0 (by simp [oS]) (by simpa [oS] using hid))
                  go_wp2_with fail
                  rw [← hW0]
                  refine HC.out.mono ?_
                  rintro e W2 ⟨rfl, hk2⟩
                  clear HC
                  clear hid
                  go_wp2_with (go_at_call 23; refine (num_any _ _).mono ?_; rintro e Wn ⟨rfl, rfl⟩)
                  go_roundw
                  case rel => exact ⟨k + 1, ins, came, out, woken, o, hlt, by go_num, rfl, rfl, rfl, HOI.out.kept (hk0.trans hk2)⟩
                  case measure => simp [intOf]; omega
                | cons y r =>
                  have hwl : out < ins.length := by
                    have := congrArg List.length hid
                    rw [List.length_drop] at this
                    simp at this
                    omega
                  have hwn : decide ((out : Int) < (ins.length : Int)) = true := by simp; omega
                  have hdr := List.drop_eq_getElem_cons hwl
                  have hrl : r.length + 1 = ins.length - out := by
                    have := congrArg List.length hid
                    rw [List.length_drop] at this
                    simp at this
                    omega
                  rw [hid] at hdr
                  injection hdr with hy hr
                  have hE : ((oS o came woken ins out room).qs[0]'(by simp [oS])).sent - ((r.length + 1 : Nat) : Int) = (out : Int) := by simp [oS]; omega
                  have HC := Lib.hid (recv_some H10.out 0 (by simp [oS]) y r (by simpa [oS] using hid) (by simp [oS]) (by simp [oS]; omega))
                  rw [hE] at HC
                  go_wp2_with fail
                  rw [← hW0]
                  refine HC.out.mono ?_
                  rintro e W2 ⟨rfl, hto⟩
                  clear HC
                  have hS : { oS o came woken ins out room with qs := (oS o came woken ins out room).qs.set 0 ⟨r, ((oS o came woken ins out room).qs[0]'(by simp [oS])).room, ((oS o came woken ins out room).qs[0]'(by simp [oS])).sent⟩ } = oS o came woken ins (out + 1) room := by simp [oS, hr]
                  rw [hS] at hto
                  have HX2 := Lib.hid (hX0.kept hto.choose_spec.2.2 (fun h => h TB))
                  have HOW2 := Lib.hid (ow_to (S' := oS o came woken ins (out + 1) room) H2.out (H3.out.trans hk0) ⟨own_kept H4.out.1 hk0 (fun _ _ h => h), H4.out.2⟩ ⟨own_kept H6.out.1 hk0 (fun _ _ h => h), H6.out.2⟩ hto)
                  obtain ⟨gb, go, gc, hveq, hcell, _⟩ := rowN_at (own_row (own_low (ow_rows HOW2.out).1 (Nat.zero_le _)) (Z := noX) (fun _ _ h => h)) hwl
                  injection hveq with hA _ hC
                  subst hA hC
                  rw [← hy] at hcell
                  clear hto hid hS hr hy hE hrl
                  go_wp2_with (go_at_call 23; refine (num_any _ _).mono ?_; rintro e Wn ⟨rfl, rfl⟩)
                  go_roundw
                  case rel => exact ⟨k + 1, ins, came, out + 1, woken, o, hlt, by go_num, by go_num, rfl, rfl, ⟨HOW2.out, ⟨by omega, b2, by omega, by omega, by omega⟩, HO2.out⟩⟩
                  case measure => simp [intOf]; omega
    · have hdl : decide ((k : Int) < (l.length : Int)) = false := by simpa using hlt
      obtain ⟨hOW, ⟨b1, b2, b3, b4, b5⟩, ho⟩ := hO
      have HOW := Lib.hid hOW
      obtain ⟨T, h1, h2, h3, ⟨h4, h5⟩, ⟨h6, h7⟩⟩ := hOW
      obtain ⟨Ac, cc, rfl, hcc, hcm⟩ := own_formN h6
      obtain ⟨Ai, ci, rfl, _, _⟩ := own_formN h4
      have HC1 := Lib.hid (owner_in h1 0 (by simp [oS]))
      have H1 := Lib.hid h1
      have H3 := Lib.hid h3
      have H6 := Lib.hid h6
      have hwl : (woken : Int) ≤ (came.length : Int) := by omega
      have hwc : (came.length : Int) ≤ (cc : Int) := by omega
      clear h1 h2 h3 h4 h5 h6 h7 ho HOW
      go_wp2_with fail
      refine HC1.out.mono ?_
      rintro e W2 ⟨rfl, hk2⟩
      have HC2 := Lib.hid (waits_in (H1.out.keep hk2) 0 (by simp [oS]))
      clear HC1
      go_wp2_with fail
      refine HC2.out.mono ?_
      rintro e W3 ⟨⟨v, rfl, hv⟩, hk3⟩
      have hv' : W3.ownsRow W2.heap.size 3 1 v (came.drop woken).length ((came.drop woken).map (.int .i64)) := hv
      obtain ⟨Av, cv, rfl, _, _⟩ := own_formN hv'
      have hkk := hk2.trans hk3
      have H6' := own_kept H6.out hkk (fun _ _ h => h)
      have HRV := Lib.hid (own_row (own_low hv' (Nat.zero_le _)) (Z := noX) (fun _ _ h => h))
      have HKW := Lib.hid (H3.out.trans hkk)
      clear hv hv' HC2 H6
      have hov : (oS o came woken ins out room).os[0]'(by simp [oS]) = o := rfl
      simp only [List.length_drop] at *
      rcases H6'.2 with ⟨hnil, h0⟩ | ⟨g, cap, cur, hsl, hrest⟩
      · obtain rfl : came = [] := List.eq_nil_of_length_eq_zero h0
        injection hnil with hA _ hC
        subst hA hC
        obtain rfl : woken = 0 := by simpa using b2
        have HI := Lib.hid (ints_same [] Av none cv 0 (by simp) W3 (by simpa using HRV.out) .nilrow)
        clear H6' h0
        go_wp2_with (first
          | (go_at_call 23; refine (num_any _ _).mono ?_; rintro e Wn ⟨rfl, rfl⟩)
          | (go_at_call 28; refine HI.out.mono ?_; rintro e W4 ⟨rfl, hk4⟩)
          | (go_at_call 11; refine (works_any _).mono ?_; rintro e W5 ⟨rfl, hk5⟩))
        go_ret
        exact ⟨rfl, (HKW.out.trans hk4).trans hk5⟩
      · have H6'' := Lib.hid H6'
        injection hsl with hA _ hC
        subst hA hC
        have HD := Lib.hid (fun o' ho' => own_drop (o := o') H6''.out b2 ho')
        clear H6' hrest
        by_cases hwe : cc = woken
        · obtain rfl : woken = came.length := by omega
          subst hwe
          have HI := Lib.hid (ints_same [] Av (some ⟨g, 0, none⟩) cv 0 (by simp) W3 (by simpa using HRV.out) (by simpa using HD.out 0 (fun h => by omega)))
          simp only [List.length_nil] at HI
          go_wp2_with (first
            | (go_at_call 23; refine (num_any _ _).mono ?_; rintro e Wn ⟨rfl, rfl⟩)
            | (go_at_call 28; refine HI.out.mono ?_; rintro e W4 ⟨rfl, hk4⟩)
            | (go_at_call 11; refine (works_any _).mono ?_; rintro e W5 ⟨rfl, hk5⟩))
          go_ret
          exact ⟨rfl, (HKW.out.trans hk4).trans hk5⟩
        · have hwe2 : ¬ cc - woken = 0 := by omega
          have HI := Lib.hid (ints_same (came.drop woken) Av (some ⟨g, woken, none⟩) cv (cc - woken) (by simp; omega) W3 (by simpa using HRV.out) (by simpa using HD.out woken (fun _ => rfl)))
          simp only [List.length_drop] at HI
          go_wp2_with (first
            | (go_at_call 23; refine (num_any _ _).mono ?_; rintro e Wn ⟨rfl, rfl⟩)
            | (go_at_call 28; refine HI.out.mono ?_; rintro e W4 ⟨rfl, hk4⟩)
            | (go_at_call 11; refine (works_any _).mono ?_; rintro e W5 ⟨rfl, hk5⟩))
          go_ret
          exact ⟨rfl, (HKW.out.trans hk4).trans hk5⟩
end Go.Proofs.Ytehcfahfbdphpaa
