/- From a row's arguments to trees: expressions, and lists of whatever is read (conditions: those of the reading). -/
import Derived.Test.YtjkgepppoopheaaGreatDoorG32
import Derived.Test.YtjkgepppoopheaaGreatDoorLift0
import Derived.WideKeyArgs
namespace Go.Proofs.YtjkgepppoopheaaGreatDoor
open Go.RowKit Go.Shelf

theorem list_of {α : Type} {Q : Nat → α → Prop} : ∀ n : Nat, (∀ i, i < n → ∃ e, Q i e) → ∃ l : List α, l.length = n ∧ ∀ i (hi : i < l.length), Q i l[i]
  | 0, _ => ⟨[], rfl, fun i hi => absurd hi (Nat.not_lt_zero i)⟩
  | n + 1, h => by
    obtain ⟨l, hl, hq⟩ := list_of n (fun i hi => h i (by omega))
    obtain ⟨e, he⟩ := h n (by omega)
    refine ⟨l ++ [e], by simp [hl], fun i hi => ?_⟩
    by_cases hi' : i < l.length
    · rw [List.getElem_append_left hi']; exact hq i hi'
    · have : i = n := by simp at hi; omega
      subst this
      subst hl
      simpa using he

section
variable {H : Type} {enc : TypeId × Value → H} {w : World} {sp : Nat → Bool} {held : Bool}
theorem row_of_slice {t el : TypeId} {size : Nat} (ht : Tryz.prog.underlying t = some (.slice el)) (hc : Tryz.prog.cellsOf el = size) (hp : 0 < size) {α : Type} (dOf : α → D) (Q : α → Prop) {fuel : Nat} {cs : List Value} {x : DataW H × List MemPlace}
    (h : DataW.trod enc Tryz.prog w 0 sp held fuel t cs = some x)
    (ih : ∀ (n : Nat) (cs : List Value) (x : DataW H × List MemPlace), n < fuel → DataW.trod enc Tryz.prog w 0 sp held n el cs = some x → ∃ e : α, cs.length = size ∧ Rep w noX cs (dOf e) ∧ Q e) :
    ∃ (v : Value) (l : List α), cs = [v] ∧ RowV w noX v (l.map dOf) ∧ ∀ e ∈ l, Q e := by
  rcases DataW.trod_slice ht h with ⟨rfl, _⟩ | ⟨a, len, cap, elems, rst, n, rfl, rfl, _, _, hlc, hcm, hlen, hel, _⟩
  · exact ⟨_, [], rfl, .nilrow, by simp⟩
  have key : ∀ i, i < len → ∃ e : α × List Value, w.cells? 0 (a.add (i * size)) size = some e.2 ∧ e.2.length = size ∧ Rep w noX e.2 (dOf e.1) ∧ Q e.1 := by
    intro i hi
    have h1 := hel i hi
    rw [hc, List.getElem?_eq_getElem (by omega)] at h1
    obtain ⟨c, h2, h3⟩ := Option.bind_eq_some_iff.1 h1
    obtain ⟨e, h4, h5, h6⟩ := ih n c _ (by omega) h3
    exact ⟨(e, c), h2, h4, h5, h6⟩
  have hsp : 0 < len → a.spot = none := fun h0 => by
    obtain ⟨e, h1, _⟩ := key 0 h0
    have hk := (World.cells?_some h1).2.2 0 hp
    have hl := (World.cells?_some h1).2.1
    rw [List.getElem?_eq_getElem (by omega)] at hk
    have := World.cell?_spot hk
    simpa [Addr.add] using this
  obtain ⟨l, hl, hq⟩ := list_of len key
  refine ⟨_, l.map (·.1), rfl, ?_, ?_⟩
  · refine Rep.row a len cap size _ (fun i => if hi : i < l.length then (l[i]).2 else []) (by simp [hl]) hsp hlc hcm (fun _ h => h.elim) hp ?_ ?_ ?_
    · intro i hi
      have hi : i < l.length := by omega
      simp only [hi, dif_pos]
      exact (hq i hi).2.1
    · intro i hi j hj
      have hsp := hsp (by omega)
      have hi : i < l.length := by omega
      have hk := (World.cells?_some (hq i hi).1).2.2 j hj
      obtain ⟨b, off, spot⟩ := a
      have hsp : spot = none := hsp
      subst hsp
      have e : ((⟨b, off, none⟩ : Addr).add (i * size)).add j = ⟨b, off + (i * size + j), none⟩ := by
        have ha : ∀ o k : Nat, (⟨b, o, none⟩ : Addr).add k = ⟨b, o + k, none⟩ := fun o k => by unfold Addr.add; split <;> simp_all
        rw [ha, ha, Nat.add_assoc]
      rw [e] at hk
      simp only [hi, dif_pos]
      exact hk
    · intro i hi
      have hi : i < l.length := by simpa using hi
      simp only [hi, dif_pos, List.getElem_map]
      exact (hq i hi).2.2.1
  · intro e he
    obtain ⟨y, hy, rfl⟩ := List.mem_map.1 he
    obtain ⟨i, hi, rfl⟩ := List.getElem_of_mem hy
    exact (hq i hi).2.2.2

/-- A struct's fields are read, each by its own. -/
theorem fields_of {t : TypeId} {fs : Array Field} (ht : Tryz.prog.underlying t = some (.struct fs)) {fuel : Nat} {cs : List Value} {x : DataW H × List MemPlace} (h : DataW.trod enc Tryz.prog w 0 sp held fuel t cs = some x) :
    cs.length = Tryz.prog.cellsOf t ∧ ∃ n, n < fuel ∧ ∀ (i : Nat) (f : Field), fs[i]? = some f → ∃ y, DataW.trod enc Tryz.prog w 0 sp held n f.type ((cs.drop f.offset).take (Tryz.prog.cellsOf f.type)) = some y := by
  obtain ⟨xs, n, rfl, _, hl, hlen, hel⟩ := DataW.trod_struct ht h
  refine ⟨hl, n, by omega, fun i f hf => ?_⟩
  have hi : i < xs.length := by rw [hlen]; exact (Array.getElem?_eq_some_iff.1 hf).1
  exact ⟨xs[i], (hel i f hf).trans (List.getElem?_eq_getElem hi)⟩
theorem int_field {t : TypeId} {fuel : Nat} {v : Value} {y : DataW H × List MemPlace} (ht : Tryz.prog.underlying t = some (.int .i64)) (h : DataW.trod enc Tryz.prog w 0 sp held fuel t [v] = some y) : ∃ n, v = .int .i64 n ∧ -9223372036854775808 ≤ n ∧ n ≤ 9223372036854775807 := by
  obtain ⟨n, hc, _, hw⟩ := DataW.trod_int ht h
  refine ⟨n, by simpa using hc, ?_⟩
  rw [Lit.wf, Bool.and_eq_true, decide_eq_true_eq, decide_eq_true_eq] at hw
  exact hw
theorem str_field {t : TypeId} {fuel : Nat} {v : Value} {y : DataW H × List MemPlace} (ht : Tryz.prog.underlying t = some .string) (h : DataW.trod enc Tryz.prog w 0 sp held fuel t [v] = some y) : ∃ s : ByteArray, v = .string s ∧ s.size ≤ 9223372036854775807 := by
  obtain ⟨s, hc, _, hw⟩ := DataW.trod_string ht h
  exact ⟨s, by simpa using hc, by unfold maxLen at hw; omega⟩
theorem bool_field {t : TypeId} {fuel : Nat} {v : Value} {y : DataW H × List MemPlace} (ht : Tryz.prog.underlying t = some .bool) (h : DataW.trod enc Tryz.prog w 0 sp held fuel t [v] = some y) : ∃ b, v = .bool b := by
  obtain ⟨b, hc, _⟩ := DataW.trod_bool ht h
  exact ⟨b, by simpa using hc⟩

theorem seven {l : List Value} (h : l.length = 7) : ∃ a b c d e f g, l = [a, b, c, d, e, f, g] := by
  match l, h with
  | [a, b, c, d, e, f, g], _ => exact ⟨a, b, c, d, e, f, g, rfl⟩

theorem expr_of_trod : ∀ (fuel : Nat) (cs : List Value) (x : DataW H × List MemPlace), DataW.trod enc Tryz.prog w 0 sp held fuel 44 cs = some x → ∃ e : ET, cs.length = 7 ∧ EV w noX cs e ∧ SmE e := by
  intro fuel
  induction fuel using Nat.strongRecOn with
  | _ fuel ih =>
    intro cs x h
    obtain ⟨hl, n, hn, hf⟩ := fields_of Tryz.underlying44 h
    rw [show Tryz.prog.cellsOf 44 = 7 from by kernel_rfl] at hl
    obtain ⟨c0, c1, c2, c3, c4, c5, c6, rfl⟩ := seven hl
    obtain ⟨y0, h0⟩ := hf 0 _ rfl
    obtain ⟨y1, h1⟩ := hf 1 _ rfl
    obtain ⟨y2, h2⟩ := hf 2 _ rfl
    obtain ⟨y3, h3⟩ := hf 3 _ rfl
    obtain ⟨y4, h4⟩ := hf 4 _ rfl
    obtain ⟨y5, h5⟩ := hf 5 _ rfl
    obtain ⟨y6, h6⟩ := hf 6 _ rfl
    rw [show Tryz.prog.cellsOf _ = 1 from by kernel_rfl] at h0 h1 h2 h3 h4 h5 h6
    obtain ⟨k, rfl, _⟩ := int_field (by kernel_rfl) h0
    obtain ⟨m, rfl, _⟩ := int_field (by kernel_rfl) h1
    obtain ⟨s, rfl, hs⟩ := str_field (by kernel_rfl) h2
    obtain ⟨sl, rfl, _⟩ := int_field (by kernel_rfl) h3
    obtain ⟨lo, rfl⟩ := bool_field (by kernel_rfl) h4
    obtain ⟨o, rfl, _⟩ := int_field (by kernel_rfl) h5
    obtain ⟨v, l, hv, hr, hq⟩ := row_of_slice (el := 44) (size := 7) (by kernel_rfl) (by kernel_rfl) (by decide) ET.d SmE h6 (fun m cs x hm hx => ih m (by omega) cs x hx)
    obtain rfl : c6 = v := by simpa using hv
    exact ⟨.node k m s sl lo o l, rfl, EV.iff.2 ⟨_, rfl, by rw [ET.ds_eq]; exact hr⟩, SmE.node hs hq⟩
end
end Go.Proofs.YtjkgepppoopheaaGreatDoor
