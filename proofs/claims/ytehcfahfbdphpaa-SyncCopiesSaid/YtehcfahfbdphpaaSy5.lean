/- Layer 4: the things of a queue, gone over, the first one first (conditions: the caller keeps them as they are). -/
import Derived.Test.YtehcfahfbdphpaaSy4
namespace Go.Proofs.Ytehcfahfbdphpaa
open Go.RowKit Go.Shelf
attribute [local go_sem] Oper.semAt_some

theorem RowV.at_z {W : World} {Z : Nat → Prop} {v : Value} {ds : List D} (h : RowV W Z v ds) {i : Nat} (hi : i < ds.length) :
    ∃ b o c size cs, v = .slice (some ⟨b, o, none⟩) ds.length c ∧ cs.length = size ∧ Rep W Z cs ds[i] ∧ (∀ j, j < size → W.cell? ⟨b, o + (i * size + j), none⟩ = cs[j]?) ∧ ¬ Z b := by
  unfold RowV at h
  generalize hv : [v] = vs at h
  cases h with
  | nilrow => simp at hi
  | row a n c size ds cs hn hs hc hm hz hp hsz hcell hd =>
    injection hv with hv
    subst hn
    subst hv
    have hs := hs (by omega)
    refine ⟨a.block, a.off, c, size, cs i, ?_, hsz i hi, hd i hi, fun j hj => hcell i hi j hj, hz (by omega)⟩
    cases a; simp_all
theorem rowN_at {W : World} {Z : Nat → Prop} {K : IntKind} {v : Value} {xs : List Int} (h : RowV W Z v (xs.map (D.int K))) {i : Nat} (hi : i < xs.length) :
    ∃ b o c, v = .slice (some ⟨b, o, none⟩) xs.length c ∧ W.cell? ⟨b, o + i, none⟩ = some (.int K xs[i]) ∧ ¬ Z b := by
  obtain ⟨b, o, c, size, cs, h1, h2, h3, h4, h5⟩ := h.at_z (i := i) (by simpa using hi)
  rw [List.getElem_map, Rep.int_iff] at h3
  subst h3
  have h2 : 1 = size := h2
  subst h2
  refine ⟨b, o, c, by simpa using h1, ?_, h5⟩
  have := h4 0 (by omega)
  simpa using this
theorem own_base {w : World} {base : Nat} {t : TypeId} {size n : Nat} {v : Value} {xs : List Value} (h : w.ownsRow 0 t size v n xs) (hb : ∀ g, v.ownBlock = some g → base ≤ g) : w.ownsRow base t size v n xs := by
  refine ⟨h.1, ?_⟩
  rcases h.2 with hn | ⟨g, cap, cur, rfl, _, rest⟩
  · exact .inl hn
  · exact .inr ⟨g, cap, cur, rfl, hb g rfl, rest⟩
def encN (x : Int) : Array Value := #[.int .i64 x]
set_option maxRecDepth 100000 in
set_option maxHeartbeats 1000000 in
theorem values_seq {w0 : World} {b0 : Nat} (xs : List Int) (A : Option Addr) (c : Nat) (hlen : xs.length ≤ 9223372036854775806) (hv : RowV w0 (b0 ≤ ·) (.slice A xs.length c) (xs.map (D.int .i64))) (base B : Nat) (hbB : base ≤ B) (w : World) (hB : Cells w B 22 [.slice A xs.length c]) :
    SeqD (Kept (b0 ≤ ·) w0) Try.prog 89 #[.pointer (some ⟨B, 0, none⟩)] encN (fun _ => True) (fun pre x => pre ++ [x] <+: xs) (fun l => l = xs) (fun pre => pre <+: xs) base w := by
  intro l J Jx W hwW hJK hst hex hstx hY h0
  have hBW := hB.keep hwW
  have hBw := hB.lt
  have cB := hBW.cell 0
  simp only [List.getElem?_cons_zero] at cB
  have HV := Lib.hid hv
  have hOb : ∀ k, k = B → base ≤ k := fun k hk => by omega
  have hJ0 : J (· = B) [] W := hex _ _ _ _ h0 (fun k _ hk => by have hk : k = B := hk; omega)
  clear hB hv h0
  refine callsIn_of_wp Try.func89 rfl trivial ?_ rfl
  simp only [Try.ntmps89, List.size_toArray, List.length_cons, List.length_nil, Nat.reduceAdd, Nat.reduceSub, Array.replicate_succ, Array.replicate_zero, List.push_toArray, List.append_toArray, List.nil_append, List.cons_append]
  gi_wp2_with fail
  gi_loopg [7] xs.length (fun m i wr => ∃ k : Nat, k ≤ xs.length ∧ i = .int .i64 k ∧ m = xs.length - k ∧ Cells wr B 22 [.slice A xs.length c] ∧ J (· = B) (xs.take k) wr)
  case atStart => exact ⟨0, Nat.zero_le _, rfl, rfl, hBW, hJ0⟩
  case round =>
    obtain ⟨k, hk, rfl, rfl, hBr, hJ⟩ := hrel
    have hK := hJK _ _ _ hJ
    by_cases hlt : k < xs.length
    · have hdl : decide ((k : Int) < (xs.length : Int)) = true := by simpa using hlt
      obtain ⟨g, o, c2, hveq, hcell, hgz⟩ := rowN_at HV.out hlt
      injection hveq with hA hl2 hc2
      subst hA hc2
      have hcr : _root_.Go.World.cell? wr ⟨g, o + k, none⟩ = some (.int .i64 xs[k]) := (World.cell?_of_block (hK.block g (block_lt_of hcell) hgz)).trans hcell
      have htk : xs.take (k + 1) = xs.take k ++ [xs[k]] := List.take_succ_eq_append_getElem hlt
      have hmay : xs.take k ++ [xs[k]] <+: xs := by rw [← htk]; exact List.take_prefix _ _
      have hl := hBr.lt
      have hy0 := hY _ _ xs[k] wr hOb (fun j hj => by have hj : j = B := hj; omega) hmay hJ
      obtain ⟨yfn, ytmps, yas, ybd, hy, hR⟩ := hy0
      have HR := Lib.hid hR
      have HTK := Lib.hid htk
      have HM := Lib.hid hmay
      have HBr := Lib.hid hBr
      unfold encN at hy
      clear hR hY htk hmay hBr hJ hcell HV
      gi_wp2_with fail
      refine ⟨rfl, ?_⟩
      refine HR.out.mono ?_
      rintro e W6 (⟨rfl, _, hJ6, hk6⟩ | ⟨rfl, hJx6, hk6⟩)
      · have hB6 := HBr.out.kept hk6 (fun h => h rfl)
        rw [← HTK.out] at hJ6
        clear HR hy hk6
        gi_wp2
        go_roundg (xs.length - (k + 1))
        case measure => omega
        case rel => exact ⟨k + 1, hlt, by go_num, rfl, hB6, hJ6⟩
      · gi_wp2
        refine bodyPost_ret (results_none rfl _ _ _) rfl ?_
        exact ⟨⟨_, rfl⟩, .inr ⟨_, HM.out, _, hOb, hJx6⟩⟩
    · have hdl : decide ((k : Int) < (xs.length : Int)) = false := by simpa using hlt
      have hke : xs.take k = xs := List.take_of_length_le (by omega)
      rw [hke] at hJ
      clear hY
      gi_wp2
      refine bodyPost_end (results_none rfl _ _ _) rfl ?_
      exact ⟨⟨_, rfl⟩, .inl ⟨_, rfl, _, hOb, hJ⟩⟩
set_option maxRecDepth 100000 in
set_option maxHeartbeats 1000000 in
theorem each_any (g o : Nat) (A : Option Addr) (n c : Nat) (w : World) (hv : w.cell? ⟨g, o, none⟩ = some (.slice A n c)) :
    Calls Try.prog 43 #[.pointer (some ⟨g, o, none⟩)] w fun e w' => e = .returned (.func (.func 89) #[] #[.pointer (some ⟨w.heap.size, 0, none⟩)]) ∧ w' = w.alloc (.cells #[.slice A n c] 22) := by
  go_enter Try.func43, Try.ntmps43
  go_wp2
  go_ret
  exact ⟨rfl, rfl⟩
def encN64 (x : Int) : Array Value := #[.int .i64 x]
set_option maxRecDepth 100000 in
set_option maxHeartbeats 1000000 in
theorem values64_seq {w0 : World} {b0 : Nat} (xs : List Int) (A : Option Addr) (c : Nat) (hlen : xs.length ≤ 9223372036854775806) (hv : RowV w0 (b0 ≤ ·) (.slice A xs.length c) (xs.map (D.int .i64))) (base B : Nat) (hbB : base ≤ B) (w : World) (hB : Cells w B 47 [.slice A xs.length c]) :
    SeqD (Kept (b0 ≤ ·) w0) Try.prog 90 #[.pointer (some ⟨B, 0, none⟩)] encN64 (fun _ => True) (fun pre x => pre ++ [x] <+: xs) (fun l => l = xs) (fun pre => pre <+: xs) base w := by
  intro l J Jx W hwW hJK hst hex hstx hY h0
  have hBW := hB.keep hwW
  have hBw := hB.lt
  have cB := hBW.cell 0
  simp only [List.getElem?_cons_zero] at cB
  have HV := Lib.hid hv
  have hOb : ∀ k, k = B → base ≤ k := fun k hk => by omega
  have hJ0 : J (· = B) [] W := hex _ _ _ _ h0 (fun k _ hk => by have hk : k = B := hk; omega)
  clear hB hv h0
  refine callsIn_of_wp Try.func90 rfl trivial ?_ rfl
  simp only [Try.ntmps90, List.size_toArray, List.length_cons, List.length_nil, Nat.reduceAdd, Nat.reduceSub, Array.replicate_succ, Array.replicate_zero, List.push_toArray, List.append_toArray, List.nil_append, List.cons_append]
  gi_wp2_with fail
  gi_loopg [7] xs.length (fun m i wr => ∃ k : Nat, k ≤ xs.length ∧ i = .int .i64 k ∧ m = xs.length - k ∧ Cells wr B 47 [.slice A xs.length c] ∧ J (· = B) (xs.take k) wr)
  case atStart => exact ⟨0, Nat.zero_le _, rfl, rfl, hBW, hJ0⟩
  case round =>
    obtain ⟨k, hk, rfl, rfl, hBr, hJ⟩ := hrel
    have hK := hJK _ _ _ hJ
    by_cases hlt : k < xs.length
    · have hdl : decide ((k : Int) < (xs.length : Int)) = true := by simpa using hlt
      obtain ⟨g, o, c2, hveq, hcell, hgz⟩ := rowN_at HV.out hlt
      injection hveq with hA hl2 hc2
      subst hA hc2
      have hcr : _root_.Go.World.cell? wr ⟨g, o + k, none⟩ = some (.int .i64 xs[k]) := (World.cell?_of_block (hK.block g (block_lt_of hcell) hgz)).trans hcell
      have htk : xs.take (k + 1) = xs.take k ++ [xs[k]] := List.take_succ_eq_append_getElem hlt
      have hmay : xs.take k ++ [xs[k]] <+: xs := by rw [← htk]; exact List.take_prefix _ _
      have hl := hBr.lt
      have hy0 := hY _ _ xs[k] wr hOb (fun j hj => by have hj : j = B := hj; omega) hmay hJ
      obtain ⟨yfn, ytmps, yas, ybd, hy, hR⟩ := hy0
      have HR := Lib.hid hR
      have HTK := Lib.hid htk
      have HM := Lib.hid hmay
      have HBr := Lib.hid hBr
      unfold encN64 at hy
      clear hR hY htk hmay hBr hJ hcell HV
      gi_wp2_with fail
      refine ⟨rfl, ?_⟩
      refine HR.out.mono ?_
      rintro e W6 (⟨rfl, _, hJ6, hk6⟩ | ⟨rfl, hJx6, hk6⟩)
      · have hB6 := HBr.out.kept hk6 (fun h => h rfl)
        rw [← HTK.out] at hJ6
        clear HR hy hk6
        gi_wp2
        go_roundg (xs.length - (k + 1))
        case measure => omega
        case rel => exact ⟨k + 1, hlt, by go_num, rfl, hB6, hJ6⟩
      · gi_wp2
        refine bodyPost_ret (results_none rfl _ _ _) rfl ?_
        exact ⟨⟨_, rfl⟩, .inr ⟨_, HM.out, _, hOb, hJx6⟩⟩
    · have hdl : decide ((k : Int) < (xs.length : Int)) = false := by simpa using hlt
      have hke : xs.take k = xs := List.take_of_length_le (by omega)
      rw [hke] at hJ
      clear hY
      gi_wp2
      refine bodyPost_end (results_none rfl _ _ _) rfl ?_
      exact ⟨⟨_, rfl⟩, .inl ⟨_, rfl, _, hOb, hJ⟩⟩
set_option maxRecDepth 100000 in
set_option maxHeartbeats 1000000 in
theorem each64_any (g o : Nat) (A : Option Addr) (n c : Nat) (w : World) (hv : w.cell? ⟨g, o, none⟩ = some (.slice A n c)) :
    Calls Try.prog 51 #[.pointer (some ⟨g, o, none⟩)] w fun e w' => e = .returned (.func (.func 90) #[] #[.pointer (some ⟨w.heap.size, 0, none⟩)]) ∧ w' = w.alloc (.cells #[.slice A n c] 47) := by
  go_enter Try.func51, Try.ntmps51
  go_wp2
  go_ret
  exact ⟨rfl, rfl⟩
end Go.Proofs.Ytehcfahfbdphpaa
