/- From a row's arguments to calls and forms in memory; what a row asks behind a call that turns nothing (conditions: none). -/
import Derived.Test.YtehcfahfbdphpaaBase
import Derived.ProofKit
import Derived.OpenShut
import Derived.ShutString
import Derived.Test.YtehcfahfbdphpaaSy24
import Derived.WideKeyArgs
import Derived.Test.YtehcfahfbdphpaaSy27
namespace Go.Proofs.Ytehcfahfbdphpaa
open Go.ChangeShapes Go.WideShapes Go.ChangeAt Go.RowKit

/-- What is handed in reads behind the call as ahead of it, where no block that was there has turned. -/
theorem post_kept {H : Type} {enc : TypeId × Value → H} {P : Program} {f : Func} {s : ChangeSpec} {apart fresh handsOn again : Bool} {W W' : World} {args : Array Value} {v : Value} {ds gs : List (DataW H)} {before pa pv : List MemPlace}
    (hwhole : DataW.Whole enc P f.params.toList s.vars apart W args.toList ds gs before)
    (hres : ∀ (b : Nat) (sp : Nat → Bool) (hd : Bool), DataW.TrodAll enc P W' b sp hd f.resultTypes.toList (v.resultList f.resultTypes.size) (s.fn H (ds ++ gs)).results [])
    (hargs : ∀ sp : Nat → Bool, (∀ p ∈ before, sp p.block = true) → DataW.TrodAll enc P W' 0 sp true f.params.toList args.toList (s.fn H (ds ++ gs)).args pa)
    (hvars : ∀ sp : Nat → Bool, (∀ p ∈ before, sp p.block = true) → DataW.TrodVars enc P W' sp s.vars (s.fn H (ds ++ gs)).vars pv)
    (hplaces : before = pa ++ pv) (hk : Kept noX W W')
    (hok : ∀ (j : Nat) (t : TypeId) (r : Value), f.resultTypes[j]? = some t → (v.resultList f.resultTypes.size)[j]? = some r → Value.okWide P W' .any 0 t r) :
    s.post enc P f apart fresh handsOn again W args v W' := by
  have hb : Below W.heap.size W W' := hk.below (Nat.le_refl _) (fun _ h => h.elim)
  have inside : ∀ p ∈ before, p.block < W.heap.size := fun p hp => hwhole.lt p hp
  have spared : ∀ p ∈ before, decide (p.block < W.heap.size) = true := fun p hp => decide_eq_true (inside p hp)
  refine ⟨ds, gs, before, [], pa, pv, hwhole, hres _ _ _, hargs (fun b => decide (b < W.heap.size)) spared, hvars (fun b => decide (b < W.heap.size)) spared, ?_, fun _ => ?_⟩
  · exact World.keptBut_mono (fun p hp => ⟨hp, by
      have hm : p ∈ pa ++ pv := hplaces ▸ hp
      exact .inr (List.mem_append.1 hm)⟩) (hb.frame (· ∈ before))
  · obtain ⟨_, _, _, _, _, hz, hn⟩ := hwhole
    refine ⟨hok, _, _, ([] ++ pa) ++ pv, ⟨[] ++ pa, pv, trodAll_append (hargs _ (fun _ _ => rfl)) (hres _ _ _), hvars _ (fun _ _ => rfl), rfl, ?_, ?_⟩, ?_⟩
    · intro b off hp
      have hin : MemPlace.cell b off ∈ before := by rw [hplaces]; simpa using hp
      rw [hb.frozen (inside _ hin)]
      exact hz b off hin
    · intro ha
      have := hn ha
      rw [hplaces] at this
      simpa using this
    · intro p hp _
      rw [hplaces]
      simpa using hp
end Go.Proofs.Ytehcfahfbdphpaa
namespace Go.Proofs.Ytehcfahfbdphpaa
open Go.RowKit Go.Shelf

theorem list_of {α : Type} {Q : Nat → α → Prop} : ∀ n : Nat, (∀ i, i < n → ∃ e, Q i e) → ∃ l : List α, l.length = n ∧ ∀ i (hi : i < l.length), Q i l[i]
  | 0, _ => ⟨[], rfl, fun i hi => absurd hi (Nat.not_lt_zero i)⟩
  | n + 1, h => by
    obtain ⟨l, hl, hq⟩ := list_of n (fun i hi => h i (by omega))
    obtain ⟨e, he⟩ := h n (by omega)
    refine ⟨l ++ [e], by simp [hl], fun i hi => ?_⟩
    by_cases hi' : i < l.length
    · rw [List.getElem_append_left hi']; exact hq i hi'
    · have : i = n := by simp at hi; omega
      subst this
      subst hl
      simpa using he

section
variable {H : Type} {enc : TypeId × Value → H} {w : World} {sp : Nat → Bool} {held : Bool}
theorem row_of_slice {t el : TypeId} {size : Nat} (ht : Try.prog.underlying t = some (.slice el)) (hc : Try.prog.cellsOf el = size) (hp : 0 < size) {α : Type} (dOf : α → D) (Q : α → Prop) {fuel : Nat} {cs : List Value} {x : DataW H × List MemPlace}
    (h : DataW.trod enc Try.prog w 0 sp held fuel t cs = some x)
    (ih : ∀ (n : Nat) (cs : List Value) (x : DataW H × List MemPlace), n < fuel → DataW.trod enc Try.prog w 0 sp held n el cs = some x → ∃ e : α, cs.length = size ∧ Rep w noX cs (dOf e) ∧ Q e) :
    ∃ (v : Value) (l : List α), cs = [v] ∧ RowV w noX v (l.map dOf) ∧ ∀ e ∈ l, Q e := by
  rcases DataW.trod_slice ht h with ⟨rfl, _⟩ | ⟨a, len, cap, elems, rst, n, rfl, rfl, _, _, hlc, hcm, hlen, hel, _⟩
  · exact ⟨_, [], rfl, .nilrow, by simp⟩
  have key : ∀ i, i < len → ∃ e : α × List Value, w.cells? 0 (a.add (i * size)) size = some e.2 ∧ e.2.length = size ∧ Rep w noX e.2 (dOf e.1) ∧ Q e.1 := by
    intro i hi
    have h1 := hel i hi
    rw [hc, List.getElem?_eq_getElem (by omega)] at h1
    obtain ⟨c, h2, h3⟩ := Option.bind_eq_some_iff.1 h1
    obtain ⟨e, h4, h5, h6⟩ := ih n c _ (by omega) h3
    exact ⟨(e, c), h2, h4, h5, h6⟩
  have hsp : 0 < len → a.spot = none := fun h0 => by
    obtain ⟨e, h1, _⟩ := key 0 h0
    have hk := (World.cells?_some h1).2.2 0 hp
    have hl := (World.cells?_some h1).2.1
    rw [List.getElem?_eq_getElem (by omega)] at hk
    have := World.cell?_spot hk
    simpa [Addr.add] using this
  obtain ⟨l, hl, hq⟩ := list_of len key
  refine ⟨_, l.map (·.1), rfl, ?_, ?_⟩
  · refine Rep.row a len cap size _ (fun i => if hi : i < l.length then (l[i]).2 else []) (by simp [hl]) hsp hlc hcm (fun _ h => h.elim) hp ?_ ?_ ?_
    · intro i hi
      have hi : i < l.length := by omega
      simp only [hi, dif_pos]
      exact (hq i hi).2.1
    · intro i hi j hj
      have hsp := hsp (by omega)
      have hi : i < l.length := by omega
      have hk := (World.cells?_some (hq i hi).1).2.2 j hj
      obtain ⟨b, off, spot⟩ := a
      have hsp : spot = none := hsp
      subst hsp
      have e : ((⟨b, off, none⟩ : Addr).add (i * size)).add j = ⟨b, off + (i * size + j), none⟩ := by
        have ha : ∀ o k : Nat, (⟨b, o, none⟩ : Addr).add k = ⟨b, o + k, none⟩ := fun o k => by unfold Addr.add; split <;> simp_all
        rw [ha, ha, Nat.add_assoc]
      rw [e] at hk
      simp only [hi, dif_pos]
      exact hk
    · intro i hi
      have hi : i < l.length := by simpa using hi
      simp only [hi, dif_pos, List.getElem_map]
      exact (hq i hi).2.2.1
  · intro e he
    obtain ⟨y, hy, rfl⟩ := List.mem_map.1 he
    obtain ⟨i, hi, rfl⟩ := List.getElem_of_mem hy
    exact (hq i hi).2.2.2

/-- A struct's fields are read, each by its own. -/
theorem fields_of {t : TypeId} {fs : Array Field} (ht : Try.prog.underlying t = some (.struct fs)) {fuel : Nat} {cs : List Value} {x : DataW H × List MemPlace} (h : DataW.trod enc Try.prog w 0 sp held fuel t cs = some x) :
    cs.length = Try.prog.cellsOf t ∧ ∃ n, n < fuel ∧ ∀ (i : Nat) (f : Field), fs[i]? = some f → ∃ y, DataW.trod enc Try.prog w 0 sp held n f.type ((cs.drop f.offset).take (Try.prog.cellsOf f.type)) = some y := by
  obtain ⟨xs, n, rfl, _, hl, hlen, hel⟩ := DataW.trod_struct ht h
  refine ⟨hl, n, by omega, fun i f hf => ?_⟩
  have hi : i < xs.length := by rw [hlen]; exact (Array.getElem?_eq_some_iff.1 hf).1
  exact ⟨xs[i], (hel i f hf).trans (List.getElem?_eq_getElem hi)⟩
theorem int_field {t : TypeId} {fuel : Nat} {v : Value} {y : DataW H × List MemPlace} (ht : Try.prog.underlying t = some (.int .i64)) (h : DataW.trod enc Try.prog w 0 sp held fuel t [v] = some y) : ∃ n, v = .int .i64 n ∧ -9223372036854775808 ≤ n ∧ n ≤ 9223372036854775807 := by
  obtain ⟨n, hc, _, hw⟩ := DataW.trod_int ht h
  refine ⟨n, by simpa using hc, ?_⟩
  rw [Lit.wf, Bool.and_eq_true, decide_eq_true_eq, decide_eq_true_eq] at hw
  exact hw
end
def AC.d (x : AC) : D := .agg [.int .i64 x.what, .int .i64 x.n, .int .i64 x.t, .int .i64 x.v]
theorem AC.rep {W : World} {Z : Nat → Prop} {cs : List Value} {x : AC} : Rep W Z cs x.d ↔ cs = x.cells := by
  unfold AC.d AC.cells
  constructor
  · intro h
    obtain ⟨c1, c2, rfl, h1, h⟩ := Rep.agg_cons.1 h
    obtain ⟨c3, c4, rfl, h2, h⟩ := Rep.agg_cons.1 h
    obtain ⟨c5, c6, rfl, h3, h⟩ := Rep.agg_cons.1 h
    obtain ⟨c7, c8, rfl, h4, h5⟩ := Rep.agg_cons.1 h
    rw [Rep.int_iff] at h1 h2 h3 h4
    rw [Rep.agg_nil] at h5
    subst h1 h2 h3 h4 h5
    rfl
  · rintro rfl
    exact Rep.agg_cons.2 ⟨[_], _, rfl, .int _ _, Rep.agg_cons.2 ⟨[_], _, rfl, .int _ _, Rep.agg_cons.2 ⟨[_], _, rfl, .int _ _, Rep.agg_cons.2 ⟨[_], [], rfl, .int _ _, Rep.agg_nil.2 rfl⟩⟩⟩⟩
theorem acts_of_row {W : World} {A : Option Addr} {n c : Nat} {l : List AC} (h : RowV W noX (.slice A n c) (l.map AC.d)) : n = l.length ∧ ActsAt W A l := by
  obtain ⟨A', n', c', hv, hn, _, _⟩ := h.form
  injection hv with _ hv _
  refine ⟨by rw [hv, hn, List.length_map], fun i hi => ?_⟩
  obtain ⟨b, o, c2, size, cs, hveq, hcl, hrep, hcell⟩ := h.at_ (i := i) (by simpa using hi)
  rw [List.getElem_map, AC.rep] at hrep
  subst hrep
  have hs : 4 = size := hcl
  subst hs
  injection hveq with hA _ _
  exact ⟨b, o, hA, hcell⟩
theorem four {l : List Value} (h : l.length = 4) : ∃ a b c d, l = [a, b, c, d] := by
  match l, h with
  | [a, b, c, d], _ => exact ⟨a, b, c, d, rfl⟩
section
variable {H : Type} {enc : TypeId × Value → H} {w : World} {sp : Nat → Bool} {held : Bool}
theorem act_of_trod (fuel : Nat) (cs : List Value) (x : DataW H × List MemPlace) (h : DataW.trod enc Try.prog w 0 sp held fuel 62 cs = some x) : ∃ e : AC, cs.length = 4 ∧ Rep w noX cs e.d ∧ True := by
  obtain ⟨hl, n, hn, hf⟩ := fields_of Try.underlying62 h
  rw [show Try.prog.cellsOf 62 = 4 from by kernel_rfl] at hl
  obtain ⟨c0, c1, c2, c3, rfl⟩ := four hl
  obtain ⟨y0, h0⟩ := hf 0 _ rfl
  obtain ⟨y1, h1⟩ := hf 1 _ rfl
  obtain ⟨y2, h2⟩ := hf 2 _ rfl
  obtain ⟨y3, h3⟩ := hf 3 _ rfl
  rw [show Try.prog.cellsOf _ = 1 from by kernel_rfl] at h0 h1 h2 h3
  obtain ⟨k0, rfl, _⟩ := int_field (by kernel_rfl) h0
  obtain ⟨k1, rfl, _⟩ := int_field (by kernel_rfl) h1
  obtain ⟨k2, rfl, _⟩ := int_field (by kernel_rfl) h2
  obtain ⟨k3, rfl, _⟩ := int_field (by kernel_rfl) h3
  exact ⟨⟨k0, k1, k2, k3⟩, rfl, AC.rep.2 rfl, trivial⟩
theorem acts_of_trod {fuel : Nat} {A : Option Addr} {n c : Nat} {x : DataW H × List MemPlace} (h : DataW.trod enc Try.prog w 0 sp held fuel 57 [.slice A n c] = some x) : ∃ l : List AC, n = l.length ∧ ActsAt w A l := by
  obtain ⟨v, l, hv, hr, _⟩ := row_of_slice (el := 62) (size := 4) Try.underlying57 (by kernel_rfl) (by decide) AC.d (fun _ => True) h (fun m cs x _ hx => act_of_trod m cs x hx)
  obtain rfl : .slice A n c = v := by simpa using hv
  obtain ⟨h1, h2⟩ := acts_of_row hr
  exact ⟨l, h1, h2⟩
end
end Go.Proofs.Ytehcfahfbdphpaa
namespace Go.Proofs.Ytehcfahfbdphpaa
open Go.RowKit Go.Shelf
theorem three {l : List Value} (h : l.length = 3) : ∃ a b c, l = [a, b, c] := by
  match l, h with
  | [a, b, c], _ => exact ⟨a, b, c, rfl⟩
section
variable {H : Type} {enc : TypeId × Value → H} {w : World} {sp : Nat → Bool} {held : Bool}
theorem form_of_trod {fuel : Nat} {cs : List Value} {x : DataW H × List MemPlace} (h : DataW.trod enc Try.prog w 0 sp held fuel 24 cs = some x) :
    ∃ (m c : Int) (A : Option Addr) (rc : Nat) (rooms : List Int), cs = [.int .i64 m, .int .i64 c, .slice A rooms.length rc] ∧ RowV w noX (.slice A rooms.length rc) (dI rooms) := by
  obtain ⟨hl, n, hn, hf⟩ := fields_of Try.underlying24 h
  rw [show Try.prog.cellsOf 24 = 3 from by kernel_rfl] at hl
  obtain ⟨c0, c1, c2, rfl⟩ := three hl
  obtain ⟨y0, h0⟩ := hf 0 _ rfl
  obtain ⟨y1, h1⟩ := hf 1 _ rfl
  obtain ⟨y2, h2⟩ := hf 2 _ rfl
  rw [show Try.prog.cellsOf _ = 1 from by kernel_rfl] at h0 h1 h2
  obtain ⟨k0, rfl, _⟩ := int_field (by kernel_rfl) h0
  obtain ⟨k1, rfl, _⟩ := int_field (by kernel_rfl) h1
  obtain ⟨v, l, hv, hr, _⟩ := row_of_slice (el := 3) (size := 1) Try.underlying22 (by kernel_rfl) (by decide) (D.int .i64) (fun _ => True) h2 (fun m cs x _ hx => by
    obtain ⟨k, hc1, _, _⟩ := DataW.trod_int (by kernel_rfl) hx
    exact ⟨k, by rw [hc1]; rfl, by rw [hc1]; exact .int _ _, trivial⟩)
  obtain rfl : c2 = v := by simpa using hv
  obtain ⟨A', n', c', hv2, hn2, _⟩ := hr.form
  rw [List.length_map] at hn2
  subst hv2 hn2
  exact ⟨k0, k1, A', c', l, rfl, hr⟩
end
end Go.Proofs.Ytehcfahfbdphpaa
