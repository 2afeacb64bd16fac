/- What the tables of keywords and of signs are: maps that answer one number at just their words (conditions: none). -/
import Derived.Test.YthknjkmkhjjmmaaSmall
import Derived.Maps.Own
import Derived.Maps.Views
import Derived.Laws.MakeOwn
namespace Go.Proofs.Ythknjkmkhjjmmaa
open Go.RowKit Go.Maps Go.WideMaps

/-- Block M is a map from texts: v at the words of ks, 0 elsewhere. -/
def Tab (w : World) (M : Nat) (v : Int) (ks : List (List UInt8)) : Prop :=
  ∃ n, w.ownsMap (H := Unit) Try.prog 9 (plainElem Try.prog 38) M n (setOf (.lit (.int .i64 v)) (ks.map Lit.string))

theorem key_law : Keyed Try.prog 9 := string_keyed Try.underlying9
theorem zero38 (w : World) : (zeroValue 38).run Try.prog w = .ok (.int .i64 0) w := by kernel_rfl

theorem Tab.kept {X : Nat → Prop} {w w' : World} {M : Nat} {v : Int} {ks : List (List UInt8)} (h : Tab w M v ks) (hk : Kept X w w') (hx : ¬ X M) : Tab w' M v ks := by
  obtain ⟨n, es, clock, hb, F, hs, hD⟩ := h
  exact ⟨n, es, clock, hk.heap hb hx, F, hs, hD⟩
theorem Tab.lt {w : World} {M : Nat} {v : Int} {ks : List (List UInt8)} (h : Tab w M v ks) : M < w.heap.size := by
  obtain ⟨n, h⟩ := h
  exact h.lt

theorem atKey_fold (v : Int) (k : List UInt8) : ∀ (ks : List (List UInt8)) (D : DataW Unit), IsMap D →
    ((ks.map Lit.string).foldl (fun m x => m.put x (.lit (.int .i64 v))) D).atKey (.string k) (.lit (.int .i64 0)) = if k ∈ ks then .lit (.int .i64 v) else D.atKey (.string k) (.lit (.int .i64 0)) := by
  intro ks
  induction ks with
  | nil => intro D _; simp
  | cons x ks ih =>
    intro D hD
    simp only [List.map_cons, List.foldl_cons]
    rw [ih _ (hD.put _ _)]
    by_cases hk : k ∈ ks
    · simp [hk]
    · rw [if_neg hk]
      by_cases hx : k = x
      · subst hx
        rw [if_pos List.mem_cons_self]
        exact atKey_put_same hD (by simp [WideAt.IsKeyLit]) _ _
      · rw [if_neg (by simp [hk, hx])]
        exact atKey_put_other (by simpa using hx) _ _

theorem Tab.look {w : World} {M : Nat} {v : Int} {ks : List (List UInt8)} (h : Tab w M v ks) (s : ByteArray) (hs : s.size ≤ maxLen) :
    (Instr.lookup 52 (.map (some M)) (.string s) false).run Try.prog w = .ok (.int .i64 (if s.data.toList ∈ ks then v else 0)) w := by
  obtain ⟨n, h⟩ := h
  obtain ⟨c, hrun, hat, _⟩ := h.lookup_int key_law Try.underlying52 Try.underlying38 (zero38 w) (keyOf_string_mk Try.underlying9 hs)
  rw [hrun]
  unfold setOf at hat
  rw [atKey_fold v s.data.toList ks _ isMap_empty] at hat
  have e : c = if s.data.toList ∈ ks then v else 0 := by
    by_cases hk : s.data.toList ∈ ks
    · rw [if_pos hk] at hat ⊢
      injection hat with hat; injection hat with _ hat; exact hat.symm
    · rw [if_neg hk] at hat ⊢
      have h0 : (DataW.map ([] : List (Lit × DataW Unit))).atKey (.string s.data.toList) (.lit (.int .i64 0)) = .lit (.int .i64 0) := rfl
      rw [h0] at hat
      injection hat with hat; injection hat with _ hat; exact hat.symm
  rw [e]

set_option maxRecDepth 100000 in
set_option maxHeartbeats 400000 in
theorem table_any (v : Int) (hv : v = 3 ∨ v = 4) (b cap : Nat) (ks : List ByteArray) (w : World) (hn : 0 < ks.length) (hl : ks.length ≤ 1000) (hb : b < w.heap.size)
    (hc : ∀ j, j < ks.length → w.cell? ⟨b, j, none⟩ = some (.string (ks.getD j ByteArray.empty))) (hsz : ∀ s ∈ ks, s.size ≤ maxLen) :
    Calls Try.prog 42 #[.int .i64 v, .slice (some ⟨b, 0, none⟩) ks.length cap] w fun e w' => e = .returned (.map (some w.heap.size)) ∧ Tab w' w.heap.size v (ks.map (·.data.toList)) ∧ Kept noX w w' := by
  have hmm : ∀ (n : Int) w, (Instr.makeMap 52 (some (.int .i64 n))).run Try.prog w = .ok (.map (some w.heap.size)) (w.alloc (.map #[] 0)) := fun n w => by
    simp [Instr.makeMap, run_underlying Try.underlying52]; rfl
  go_enter Try.func42, Try.ntmps42
  go_wp2
  go_loopw [13] (fun i wr => ∃ k : Nat, k ≤ ks.length ∧ i = .int .i64 k ∧ wr.ownsMap (H := Unit) Try.prog 9 (plainElem Try.prog 38) w.heap.size k (setOf (.lit (.int .i64 v)) ((ks.take k).map fun s => Lit.string s.data.toList)) ∧ Kept noX w wr)
    (fun i _ => ks.length - (intOf i).toNat)
  case atStart => exact ⟨0, Nat.zero_le _, rfl, World.ownsMap_made _ _ _ _, (Kept.refl _ _).alloc _⟩
  case round =>
    obtain ⟨k, hk, rfl, hown, hkp⟩ := hrel
    obtain ⟨s, hs⟩ : ∃ s, s = ks.getD k ByteArray.empty := ⟨_, rfl⟩
    by_cases hlt : k < ks.length
    · have hcx : wr.cell? ⟨b, k, none⟩ = some (.string s) := by
        rw [hs]; exact (World.cell?_of_block (w := w) (hkp.block b hb (fun h => h))).trans (hc k hlt)
      have hsm : s ∈ ks := by rw [hs, List.getD_eq_getElem?_getD, List.getElem?_eq_getElem hlt]; exact List.getElem_mem hlt
      have hkey : keyOf Try.prog 9 (.string s) = some (.string s.data.toList) := keyOf_string_mk Try.underlying9 (hsz s hsm)
      have ht : ks.take (k + 1) = ks.take k ++ [s] := by
        rw [List.take_add_one, List.getElem?_eq_getElem hlt, hs, List.getD_eq_getElem?_getD, List.getElem?_eq_getElem hlt]; rfl
      have HT := Lib.hid ht
      clear hs hc ht hsm
      have hlt2 : (k : Int) < (ks.length : Int) := by omega
      go_wp2_with (at_mapUpdate; refine wpList_mapUpdate_own _ rfl _ _ _ 52 rfl 9 38 key_law Try.underlying52 _ w.heap.size k _ rfl hown (by unfold maxLen; omega) _ _ _ rfl rfl hkey _ [] (plainElem_int Try.underlying38 (by rcases hv with rfl | rfl <;> decide)) ?_; intro w1 hown1 hgrow1)
      have hkp1 := hkp.grown hgrow1 (fun j hj => by cases hj; intro h; omega)
      go_roundw
      case rel =>
        refine ⟨k + 1, by omega, by go_num, ?_, hkp1⟩
        rw [HT.out, List.map_append, List.map_cons, List.map_nil, setOf_snoc]
        exact hown1
      case measure => simp [intOf]; omega
    · obtain rfl : k = ks.length := by omega
      rw [List.take_length] at hown
      have hown' : Tab wr w.heap.size v (ks.map (·.data.toList)) := ⟨_, by rw [List.map_map]; exact hown⟩
      clear hown hc
      go_wp2
      go_ret
      exact ⟨rfl, hown', hkp⟩

/-- The keywords. -/
def kwL : List (List UInt8) := [[118, 97, 114], [97, 114, 114, 97, 121], [109, 117, 116, 101, 120], [99, 111, 110, 100], [99, 104, 97, 110], [116, 104, 114, 101, 97, 100], [108, 101, 116], [105, 102], [101, 108, 115, 101], [119, 104, 105, 108, 101], [108, 111, 99, 107], [117, 110, 108, 111, 99, 107], [119, 97, 105, 116], [115, 105, 103, 110, 97, 108], [97, 108, 108], [115, 101, 110, 100], [114, 101, 99, 118], [115, 112, 97, 119, 110], [106, 111, 105, 110], [112, 114, 105, 110, 116]]
def kwB : List ByteArray := [⟨#[118, 97, 114]⟩, ⟨#[97, 114, 114, 97, 121]⟩, ⟨#[109, 117, 116, 101, 120]⟩, ⟨#[99, 111, 110, 100]⟩, ⟨#[99, 104, 97, 110]⟩, ⟨#[116, 104, 114, 101, 97, 100]⟩, ⟨#[108, 101, 116]⟩, ⟨#[105, 102]⟩, ⟨#[101, 108, 115, 101]⟩, ⟨#[119, 104, 105, 108, 101]⟩, ⟨#[108, 111, 99, 107]⟩, ⟨#[117, 110, 108, 111, 99, 107]⟩, ⟨#[119, 97, 105, 116]⟩, ⟨#[115, 105, 103, 110, 97, 108]⟩, ⟨#[97, 108, 108]⟩, ⟨#[115, 101, 110, 100]⟩, ⟨#[114, 101, 99, 118]⟩, ⟨#[115, 112, 97, 119, 110]⟩, ⟨#[106, 111, 105, 110]⟩, ⟨#[112, 114, 105, 110, 116]⟩]
/-- The signs. -/
def sgL : List (List UInt8) := [[59], [40], [41], [123], [125], [91], [93], [61], [61, 61], [33, 61], [60], [60, 61], [43], [45], [42], [47], [37], [38, 38], [124, 124], [33]]
def sgB : List ByteArray := [⟨#[59]⟩, ⟨#[40]⟩, ⟨#[41]⟩, ⟨#[123]⟩, ⟨#[125]⟩, ⟨#[91]⟩, ⟨#[93]⟩, ⟨#[61]⟩, ⟨#[61, 61]⟩, ⟨#[33, 61]⟩, ⟨#[60]⟩, ⟨#[60, 61]⟩, ⟨#[43]⟩, ⟨#[45]⟩, ⟨#[42]⟩, ⟨#[47]⟩, ⟨#[37]⟩, ⟨#[38, 38]⟩, ⟨#[124, 124]⟩, ⟨#[33]⟩]
theorem kwB_L : kwB.map (·.data.toList) = kwL := rfl
theorem sgB_L : sgB.map (·.data.toList) = sgL := rfl

theorem cells_of_strings (w : World) (l : List ByteArray) (j : Nat) (hj : j < l.length) :
    (w.alloc (.cells (l.map Value.string).toArray 9 (0, 0))).cell? ⟨w.heap.size, j, none⟩ = some (.string (l.getD j ByteArray.empty)) := by
  have := (Cells.fresh w 9 (l.map Value.string)).cell j
  rw [this, List.getElem?_map, List.getD_eq_getElem?_getD, List.getElem?_eq_getElem hj]; rfl

set_option maxRecDepth 100000 in
set_option maxHeartbeats 1000000 in
theorem keywords_any (w : World) :
    Calls Try.prog 31 #[] w fun e w' => e = .returned (.map (some (w.heap.size + 1))) ∧ Tab w' (w.heap.size + 1) 3 kwL ∧ Kept noX w w' := by
  have hT := Lib.hid (table_any 3 (.inl rfl) w.heap.size 20 kwB (w.alloc (.cells (kwB.map Value.string).toArray 9 (0, 0))) (by decide) (by decide) (by simp) (fun j hj => cells_of_strings w kwB j hj) (by decide))
  go_enter Try.func31, Try.ntmps31
  go_wp2_with fail
  refine hT.out.mono ?_
  rintro e w1 ⟨rfl, h1, h2⟩
  rw [World.size_alloc] at *
  go_wp2
  go_ret
  exact ⟨rfl, h1, ((Kept.refl noX w).alloc _).trans h2⟩

set_option maxRecDepth 100000 in
set_option maxHeartbeats 1000000 in
theorem signs_any (w : World) :
    Calls Try.prog 35 #[] w fun e w' => e = .returned (.map (some (w.heap.size + 1))) ∧ Tab w' (w.heap.size + 1) 4 sgL ∧ Kept noX w w' := by
  have hT := Lib.hid (table_any 4 (.inr rfl) w.heap.size 20 sgB (w.alloc (.cells (sgB.map Value.string).toArray 9 (0, 0))) (by decide) (by decide) (by simp) (fun j hj => cells_of_strings w sgB j hj) (by decide))
  go_enter Try.func35, Try.ntmps35
  go_wp2_with fail
  refine hT.out.mono ?_
  rintro e w1 ⟨rfl, h1, h2⟩
  rw [World.size_alloc] at *
  go_wp2
  go_ret
  exact ⟨rfl, h1, ((Kept.refl noX w).alloc _).trans h2⟩
end Go.Proofs.Ythknjkmkhjjmmaa
