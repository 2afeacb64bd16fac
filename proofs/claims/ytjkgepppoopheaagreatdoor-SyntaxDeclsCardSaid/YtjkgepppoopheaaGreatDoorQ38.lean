/- The table of operators stands where the rows' conditions hold, and so do all tables (conditions: those of the rows). -/
import Derived.Test.YtjkgepppoopheaaGreatDoorAbb
import Derived.Test.YtjkgepppoopheaaGreatDoorQ30
import Derived.Test.YtjkgepppoopheaaGreatDoorRows
import Derived.OpenShut
import Derived.Lib.LaidTab
import Derived.LaidMore
set_option maxRecDepth 100000
set_option maxHeartbeats 1000000
namespace Go.Proofs.YtjkgepppoopheaaGreatDoor
open Go.RowKit Go.Shelf
def litV : Lit → Value
 | .bool b => .bool b
 | .int k n => .int k n
 | .string l => .string ⟨l.toArray⟩
 | _ => .nilFunc
def Plain1 (P : Program) (t : TypeId) : Prop := P.cellsOf t = 1 ∧ (P.underlying t = some .bool ∨ (∃ k, P.underlying t = some (.int k)) ∨ P.underlying t = some .string)
section
variable {H : Type} {enc : TypeId × Value → H} {P : Program} {w : World} {base : Nat} {sp : Nat → Bool} {held : Bool} {fuel : Nat} {t e : TypeId} {cs : List Value} {p : List MemPlace}
theorem lit_of_trod {L : Lit} (ht : Plain1 P t) (h : DataW.trod enc P w base sp held fuel t cs = some (.lit L, p)) : cs = [litV L] := by
 rcases ht.2 with ht | ⟨k, ht⟩ | ht
 ·obtain ⟨b, rfl, hx⟩ := DataW.trod_bool ht h
  simp only [Prod.mk.injEq, DataW.lit.injEq] at hx
  rw [hx.1] <;> rfl
 ·obtain ⟨n, rfl, hx, _⟩ := DataW.trod_int ht h
  simp only [Prod.mk.injEq, DataW.lit.injEq] at hx
  rw [hx.1] <;> rfl
 ·obtain ⟨s, rfl, hx, _⟩ := DataW.trod_string ht h
  simp only [Prod.mk.injEq, DataW.lit.injEq] at hx
  rw [hx.1] <;> rfl
theorem cells_of_struct {fs : Array Field} (ht : P.underlying t = some (.struct fs)) (hf : ∀ (i : Nat) (f : Field), fs[i]? = some f → f.offset = i ∧ Plain1 P f.type) {ds : List (DataW H)}
  (h : DataW.trod enc P w base sp held fuel t cs = some (.agg ds, p)) : ∀ (j : Nat) (L : Lit), ds[j]? = some (.lit L) → cs[j]? = some (litV L) := by
 obtain ⟨xs, n, _, hx, hl, hlen, hel⟩ := DataW.trod_struct ht h
 simp only [Prod.mk.injEq, DataW.agg.injEq] at hx
 intro j L hj
 rw [hx.1, List.getElem?_map] at hj
 cases hxj : xs[j]? with
 | none => rw [hxj] at hj; cases hj
 | some x =>
  rw [hxj] at hj
  obtain ⟨d, q⟩ := x
  simp only [Option.map_some, Option.some.injEq] at hj
  subst hj
  have hjl : j < fs.size := by rw [← hlen]; exact (List.getElem?_eq_some_iff.1 hxj).1
  have hfj := Array.getElem?_eq_getElem hjl
  obtain ⟨ho, hp⟩ := hf j _ hfj
  have := lit_of_trod hp ((hel j _ hfj).trans hxj)
  rw [ho, hp.1] at this
  have h2 := congrArg (·[0]?) this
  simpa [List.getElem?_take, List.getElem?_drop] using h2
theorem cells_of_array {n : Nat} (ht : P.underlying t = some (.array n e)) {ds : List (DataW H)} (h : DataW.trod enc P w base sp held fuel t cs = some (.agg ds, p)) :
  ∀ (i : Nat) (d : DataW H), ds[i]? = some d → ∃ m q, DataW.trod enc P w base sp held m e ((cs.drop (i * P.cellsOf e)).take (P.cellsOf e)) = some (d, q) := by
 obtain ⟨xs, m, _, hx, hl, hlen, hel⟩ := DataW.trod_array ht h
 simp only [Prod.mk.injEq, DataW.agg.injEq] at hx
 intro i d hi
 rw [hx.1, List.getElem?_map] at hi
 cases hxi : xs[i]? with
 | none => rw [hxi] at hi; cases hi
 | some x =>
  rw [hxi] at hi
  obtain ⟨d', q⟩ := x
  simp only [Option.map_some, Option.some.injEq] at hi
  subst hi
  exact ⟨m, q, (hel i (by rw [← hlen]; exact (List.getElem?_eq_some_iff.1 hxi).1)).trans hxi⟩
theorem cells_of_lits {n : Nat} (ht : P.underlying t = some (.array n e)) (he : Plain1 P e) {ds : List (DataW H)} (h : DataW.trod enc P w base sp held fuel t cs = some (.agg ds, p)) :
  ∀ (i : Nat) (L : Lit), ds[i]? = some (.lit L) → cs[i]? = some (litV L) := by
 intro i L hi
 obtain ⟨m, q, h1⟩ := cells_of_array ht h i _ hi
 have := lit_of_trod he h1
 rw [he.1, Nat.mul_one] at this
 have h2 := congrArg (·[0]?) this
 simpa [List.getElem?_take, List.getElem?_drop] using h2
theorem cells_of_rows {n m : Nat} {fs : Array Field} (ht : P.underlying t = some (.array n e)) (he : P.underlying e = some (.struct fs)) (hm : P.cellsOf e = m) (hf : ∀ (i : Nat) (f : Field), fs[i]? = some f → f.offset = i ∧ Plain1 P f.type) {ds : List (DataW H)}
  (h : DataW.trod enc P w base sp held fuel t cs = some (.agg ds, p)) : ∀ (i : Nat) (r : List (DataW H)), ds[i]? = some (.agg r) → ∀ (j : Nat) (L : Lit), j < m → r[j]? = some (.lit L) → cs[i * m + j]? = some (litV L) := by
 intro i r hi j L hj hr
 obtain ⟨mm, q, h1⟩ := cells_of_array ht h i _ hi
 have h2 := cells_of_struct he hf h1 j L hr
 rw [hm] at h2
 rw [List.getElem?_take_of_lt hj, List.getElem?_drop] at h2
 exact h2
theorem laidVars_mem : ∀ {l : List (String × DataW Unit)} {ps : List MemPlace}, DataW.LaidVars P w l ps → ∀ {n : String} {d : DataW Unit}, (n, d) ∈ l →
  ∃ g t cs fuel p, P.globalNamed n = some g ∧ (P.globals[g]?).map (·.type) = some t ∧ w.var? P n = some cs ∧ DataW.trod (fun _ => ()) P w 0 (fun _ => true) false fuel t cs.toList = some (d, p)
 | [], _, _, _, _, hm => by cases hm
 | x :: l, _, ⟨g, t, cs, fuel, p, q, h1, h2, h3, h4, h5, _⟩, n, d, hm => by
  rcases List.mem_cons.1 hm with rfl | hm
  ·exact ⟨g, t, cs, fuel, p, h1, h2, h3, h4⟩
  ·exact laidVars_mem h5 hm
end
theorem laid_cells {l : List (String × DataW Unit)} {W : World} (h : laidMet Tryz.prog l W) {n : String} {d : DataW Unit} (hm : (n, d) ∈ l) {g : Nat} {t : TypeId} (hg : Tryz.prog.globalNamed n = some g) (ht : (Tryz.prog.globals[g]?).map (·.type) = some t) :
  ∃ (cs : Array Value) (fuel : Nat) (p : List MemPlace), (∀ i, W.cell? ⟨g, i, none⟩ = cs[i]?) ∧ W.var? Tryz.prog n = some cs ∧ DataW.trod (fun _ => ()) Tryz.prog W 0 (fun _ => true) false fuel t cs.toList = some (d, p) := by
 obtain ⟨ps, hv, _⟩ := h
 obtain ⟨g', t', cs, fuel, p, h1, h2, h3, h4⟩ := laidVars_mem hv hm
 obtain rfl := Option.some.inj (hg.symm.trans h1)
 obtain rfl := Option.some.inj (ht.symm.trans h2)
 exact ⟨cs, fuel, p, fun i => World.var?_cell h1 h3 i, h3, h4⟩
theorem plain4 : Plain1 Tryz.prog 4 := ⟨by kernel_rfl, .inl Tryz.underlying4⟩
theorem plain9 : Plain1 Tryz.prog 9 := ⟨by kernel_rfl, .inr (.inr Tryz.underlying9)⟩
theorem plainInt : Plain1 Tryz.prog 3 := ⟨by kernel_rfl, .inr (.inl ⟨_, Tryz.underlying3⟩)⟩
theorem at_lits {ds : List (DataW Unit)} {r : List Lit} {vs : List Value} (h1 : ds = r.map .lit) (h2 : r.map litV = vs) {j : Nat} {v : Value} (hj : vs[j]? = some v) : ∃ L, ds[j]? = some (.lit L) ∧ litV L = v := by
 subst h1 h2
 rw [List.getElem?_map] at hj
 cases hr : r[j]? with
 | none => rw [hr] at hj; cases hj
 | some L =>
  rw [hr] at hj
  exact ⟨L, by rw [List.getElem?_map, hr] <;> rfl, Option.some.inj hj⟩
theorem exprs_fields : ∀ fs : Array Field, Tryz.prog.underlying 149 = some (.struct fs) → ∀ (i : Nat) (f : Field), fs[i]? = some f → f.offset = i ∧ Plain1 Tryz.prog f.type := by
 intro fs hfs i f hf
 obtain rfl := TypeDesc.struct.inj (Option.some.inj (Tryz.underlying149.symm.trans hfs))
 match i, hf with
 | 0, hf => obtain rfl := Option.some.inj hf; exact ⟨rfl, plain4⟩
 | 1, hf => obtain rfl := Option.some.inj hf; exact ⟨rfl, plain4⟩
 | 2, hf => obtain rfl := Option.some.inj hf; exact ⟨rfl, plain4⟩
 | 3, hf => obtain rfl := Option.some.inj hf; exact ⟨rfl, plainInt⟩
 | i + 4, hf => simp at hf
theorem stmts_fields : ∀ fs : Array Field, Tryz.prog.underlying 213 = some (.struct fs) → ∀ (i : Nat) (f : Field), fs[i]? = some f → f.offset = i ∧ Plain1 Tryz.prog f.type := by
 intro fs hfs i f hf
 obtain rfl := TypeDesc.struct.inj (Option.some.inj (Tryz.underlying213.symm.trans hfs))
 match i, hf with
 | 0, hf => obtain rfl := Option.some.inj hf; exact ⟨rfl, plain4⟩
 | 1, hf => obtain rfl := Option.some.inj hf; exact ⟨rfl, plain4⟩
 | 2, hf => obtain rfl := Option.some.inj hf; exact ⟨rfl, plain4⟩
 | 3, hf => obtain rfl := Option.some.inj hf; exact ⟨rfl, plain4⟩
 | 4, hf => obtain rfl := Option.some.inj hf; exact ⟨rfl, plain4⟩
 | 5, hf => obtain rfl := Option.some.inj hf; exact ⟨rfl, plain4⟩
 | i + 6, hf => simp at hf
section
variable {l : List (String × DataW Unit)} {W : World}
theorem rowE_is (k : Nat) (hk : k < 7) : ∃ r : List Lit, (match (Rows.laid_warp_syntax_exprShapes : DataW Unit) with | .agg ds => ds | _ => [])[k]? = some (.agg (r.map .lit)) ∧ r.map litV = shapeE k := by
 match k, hk with
 | 0, _ => exact ⟨[.bool false, .bool false, .bool false, .int .i64 0], rfl, rfl⟩
 | 1, _ => exact ⟨[.bool true, .bool false, .bool false, .int .i64 0], rfl, rfl⟩
 | 2, _ => exact ⟨[.bool false, .bool true, .bool false, .int .i64 0], rfl, rfl⟩
 | 3, _ => exact ⟨[.bool false, .bool true, .bool false, .int .i64 1], rfl, rfl⟩
 | 4, _ => exact ⟨[.bool false, .bool false, .bool false, .int .i64 1], rfl, rfl⟩
 | 5, _ => exact ⟨[.bool false, .bool false, .bool false, .int .i64 1], rfl, rfl⟩
 | 6, _ => exact ⟨[.bool false, .bool false, .bool true, .int .i64 2], rfl, rfl⟩
 | k + 7, hk => omega
theorem rowS_is (k : Nat) (h0 : 0 < k) (hk : k < 16) : ∃ r : List Lit, (match (Rows.laid_warp_syntax_stmtShapes : DataW Unit) with | .agg ds => ds | _ => [])[k]? = some (.agg (r.map .lit)) ∧ r.map litV = shapeS k := by
 match k, h0, hk with
 | 0, h0, _ => exact absurd h0 (by decide)
 | 1, _, _ => exact ⟨[.bool true, .bool false, .bool true, .bool false, .bool false, .bool false], rfl, rfl⟩
 | 2, _, _ => exact ⟨[.bool true, .bool false, .bool true, .bool false, .bool false, .bool false], rfl, rfl⟩
 | 3, _, _ => exact ⟨[.bool true, .bool false, .bool true, .bool true, .bool false, .bool false], rfl, rfl⟩
 | 4, _, _ => exact ⟨[.bool false, .bool false, .bool true, .bool false, .bool true, .bool true], rfl, rfl⟩
 | 5, _, _ => exact ⟨[.bool false, .bool false, .bool true, .bool false, .bool true, .bool false], rfl, rfl⟩
 | 6, _, _ => exact ⟨[.bool true, .bool false, .bool false, .bool false, .bool false, .bool false], rfl, rfl⟩
 | 7, _, _ => exact ⟨[.bool true, .bool false, .bool false, .bool false, .bool false, .bool false], rfl, rfl⟩
 | 8, _, _ => exact ⟨[.bool true, .bool true, .bool false, .bool false, .bool false, .bool false], rfl, rfl⟩
 | 9, _, _ => exact ⟨[.bool true, .bool false, .bool false, .bool false, .bool false, .bool false], rfl, rfl⟩
 | 10, _, _ => exact ⟨[.bool true, .bool false, .bool false, .bool false, .bool false, .bool false], rfl, rfl⟩
 | 11, _, _ => exact ⟨[.bool true, .bool false, .bool true, .bool false, .bool false, .bool false], rfl, rfl⟩
 | 12, _, _ => exact ⟨[.bool true, .bool true, .bool false, .bool false, .bool false, .bool false], rfl, rfl⟩
 | 13, _, _ => exact ⟨[.bool true, .bool false, .bool false, .bool false, .bool false, .bool false], rfl, rfl⟩
 | 14, _, _ => exact ⟨[.bool false, .bool false, .bool false, .bool false, .bool false, .bool false], rfl, rfl⟩
 | 15, _, _ => exact ⟨[.bool false, .bool false, .bool true, .bool false, .bool false, .bool false], rfl, rfl⟩
 | k + 16, _, hk => omega
theorem exprs_of (h : laidMet Tryz.prog l W) (hm : ("warp/syntax.exprShapes", Rows.laid_warp_syntax_exprShapes) ∈ l) : ExprsAt W := by
 obtain ⟨cs, fuel, p, hc, _, hd⟩ := laid_cells h hm (g := 1) (t := 150) krf krf
 intro k hk j v hj
 have hj4 : j < 4 := (List.getElem?_eq_some_iff.1 hj).1
 obtain ⟨r, h1, h2⟩ := rowE_is k hk
 obtain ⟨L, h3, rfl⟩ := at_lits rfl h2 hj
 rw [hc, ← Array.getElem?_toList]
 exact cells_of_rows Tryz.underlying150 Tryz.underlying149 (m := 4) krf (exprs_fields _ Tryz.underlying149) hd k _ h1 j L hj4 h3
theorem stmts_of (h : laidMet Tryz.prog l W) (hm : ("warp/syntax.stmtShapes", Rows.laid_warp_syntax_stmtShapes) ∈ l) : StmtsAt W := by
 obtain ⟨cs, fuel, p, hc, _, hd⟩ := laid_cells h hm (g := 3) (t := 214) krf krf
 intro k h0 hk j v hj
 have hj6 : j < 6 := (List.getElem?_eq_some_iff.1 hj).1
 obtain ⟨r, h1, h2⟩ := rowS_is k h0 hk
 obtain ⟨L, h3, rfl⟩ := at_lits rfl h2 hj
 rw [hc, ← Array.getElem?_toList]
 exact cells_of_rows Tryz.underlying214 Tryz.underlying213 (m := 6) krf (stmts_fields _ Tryz.underlying213) hd k _ h1 j L hj6 h3
theorem words_of (h : laidMet Tryz.prog l W) (hm : ("warp/syntax.stmtWords", Rows.laid_warp_syntax_stmtWords) ∈ l) : WordsAt W := by
 obtain ⟨cs, fuel, p, hc, _, hd⟩ := laid_cells h hm (g := 2) (t := 211) krf krf
 intro j s hj
 have hj2 : (wordL.map Value.string)[j]? = some (.string s) := by rw [List.getElem?_map, hj] <;> rfl
 obtain ⟨L, h3, h4⟩ := at_lits (r := [.string [], .string [108, 101, 116], .string [], .string [], .string [105, 102], .string [119, 104, 105, 108, 101], .string [108, 111, 99, 107], .string [117, 110, 108, 111, 99, 107], .string [119, 97, 105, 116], .string [115, 105, 103, 110, 97, 108], .string [97, 108, 108], .string [115, 101, 110, 100], .string [114, 101, 99, 118], .string [115, 112, 97, 119, 110], .string [106, 111, 105, 110], .string [112, 114, 105, 110, 116]]) rfl (vs := wordL.map Value.string) rfl hj2
 rw [hc, ← Array.getElem?_toList, ← h4]
 exact cells_of_lits Tryz.underlying211 plain9 hd j L h3
theorem decls_of (h : laidMet Tryz.prog l W) (hm : ("warp/syntax.declWords", Rows.laid_warp_syntax_declWords) ∈ l) : DeclsAt W := by
 obtain ⟨cs, fuel, p, hc, _, hd⟩ := laid_cells h hm (g := 0) (t := 142) krf krf
 intro j s hj
 have hj2 : (declL.map Value.string)[j]? = some (.string s) := by rw [List.getElem?_map, hj] <;> rfl
 obtain ⟨L, h3, h4⟩ := at_lits (r := [.string [], .string [118, 97, 114], .string [97, 114, 114, 97, 121], .string [109, 117, 116, 101, 120], .string [99, 111, 110, 100], .string [99, 104, 97, 110], .string [116, 104, 114, 101, 97, 100]]) rfl (vs := declL.map Value.string) rfl hj2
 rw [hc, ← Array.getElem?_toList, ← h4]
 exact cells_of_lits Tryz.underlying142 plain9 hd j L h3
theorem tab_of (h : laidMet Tryz.prog l W) (hm : ("internal/strconv.uint64pow10", Rows.laid_internal_strconv_uint64pow10) ∈ l) : TabAt W := by
 obtain ⟨cs, fuel, p, _, hv, hd⟩ := laid_cells h hm (g := 4) (t := 217) krf krf
 have hd2 : DataW.trod (fun _ => ()) Tryz.prog W 0 (fun _ => true) false fuel 217 cs.toList = some (Lib.tabData .u64 Lib.pow10Tab, p) := hd
 have := Lib.cells_of_tab (e := 190) (n := 20) Tryz.underlying217 Tryz.underlying190 krf krf hd2
 show W.var? _ _ = _
 rw [hv, ← this]
end
theorem oper_fields : ∀ fs : Array Field, Tryz.prog.underlying 196 = some (.struct fs) → ∀ (i : Nat) (f : Field), fs[i]? = some f → f.offset = i ∧ Plain1 Tryz.prog f.type := by
 intro fs hfs i f hf
 obtain rfl := TypeDesc.struct.inj (Option.some.inj (Tryz.underlying196.symm.trans hfs))
 match i, hf with
 | 0, hf => obtain rfl := Option.some.inj hf; exact ⟨rfl, plain9⟩
 | 1, hf => obtain rfl := Option.some.inj hf; exact ⟨rfl, ⟨by kernel_rfl, .inr (.inl ⟨_, Tryz.underlying41⟩)⟩⟩
 | i + 2, hf => simp at hf
theorem five {l : List Value} (h : l.length = 5) : ∃ v0 v1 v2 v3 v4, l = [v0, v1, v2, v3, v4] := by
 match l, h with
 | [v0, v1, v2, v3, v4], _ => exact ⟨v0, v1, v2, v3, v4, rfl⟩
theorem row_of_trod {W : World} {sp : Nat → Bool} {held : Bool} {fuel : Nat} {v : Value} {dsl rest : List (DataW Unit)} {p : List MemPlace}
  (h : DataW.trod (fun _ => ()) Tryz.prog W 0 sp held fuel 223 [v] = some (.slice dsl rest, p)) (x : List (ByteArray × Int)) (h0 : 0 < x.length)
  (hx : dsl = x.map fun y => .agg [.lit (.string y.1.data.toList), .lit (.int .i64 y.2)]) : RowV W noX v (x.map opD) := by
 rcases DataW.trod_slice Tryz.underlying223 h with ⟨_, hn⟩ | ⟨a, len, cap, elems, rst, n, _, hcs, hxe, _, hlc, hcm, hlen, hel, _⟩
 ·simp at hn
 simp only [Prod.mk.injEq, DataW.slice.injEq] at hxe
 obtain rfl : v = .slice (some a) len cap := by simpa using hcs
 have he : (elems.map (·.1)) = x.map fun y => (DataW.agg [.lit (.string y.1.data.toList), .lit (.int .i64 y.2)] : DataW Unit) := hxe.1.1.symm.trans hx
 have hlx : len = x.length := by have := congrArg List.length he; simp at this; omega
 have hc2 : Tryz.prog.cellsOf 196 = 2 := by kernel_rfl
 have key : ∀ i (hi : i < x.length), W.cells? 0 (a.add (i * 2)) 2 = some [.string x[i].1, .int .i64 x[i].2] := by
  intro i hi
  have h1 := hel i kom
  rw [hc2] at h1
  have h2 : (elems.map (·.1))[i]? = some (DataW.agg [.lit (.string x[i].1.data.toList), .lit (.int .i64 x[i].2)] : DataW Unit) := by rw [he, List.getElem?_map, List.getElem?_eq_getElem hi] <;> rfl
  rw [List.getElem?_map] at h2
  cases hei : elems[i]? with
  | none => rw [hei] at h2; cases h2
  | some y =>
   rw [hei] at h1 h2
   obtain ⟨d, q⟩ := y
   simp only [Option.map_some, Option.some.injEq] at h2
   subst h2
   obtain ⟨c, hc, ht⟩ := Option.bind_eq_some_iff.1 h1
   have h3 := cells_of_struct Tryz.underlying196 (oper_fields _ Tryz.underlying196) ht
   have e0 := h3 0 _ rfl
   have e1 := h3 1 _ rfl
   have hl := (World.cells?_some hc).2.1
   rw [hc]
   match c, hl, e0, e1 with
   | [u, u'], _, e0, e1 =>
    simp only [aZ, aS, Option.some.injEq] at e0 e1
    rw [e0, e1]
    rfl
 have hsp : a.spot = none := by
  have hk := (World.cells?_some (key 0 h0)).2.2 0 (by decide)
  have := World.cell?_spot hk
  simpa [Addr.add] using this
 obtain ⟨b, off, spot⟩ := a
 have hsp : spot = none := hsp
 subst hsp
 refine Rep.row ⟨b, off, none⟩ len cap 2 _ (fun i => if hi : i < x.length then [.string x[i].1, .int .i64 x[i].2] else []) (by simpa using hlx) (fun _ => rfl) hlc hcm (fun _ h => h.elim) (by decide) ?_ ?_ ?_
 ·intro i hi
  have hi : i < x.length := by omega
  simp [hi]
 ·intro i hi j hj
  have hi : i < x.length := by omega
  have hk := (World.cells?_some (key i hi)).2.2 j hj
  have e : ((⟨b, off, none⟩ : Addr).add (i * 2)).add j = ⟨b, off + (i * 2 + j), none⟩ := by
   have ha : ∀ o k : Nat, (⟨b, o, none⟩ : Addr).add k = ⟨b, o + k, none⟩ := fun o k => by unfold Addr.add; split <;> simp_all
   rw [ha, ha, Nat.add_assoc]
  rw [e] at hk
  simp only [hi, dif_pos]
  exact hk
 ·intro i hi
  have hi : i < x.length := by simpa using hi
  simp only [hi, dif_pos, List.getElem_map]
  exact Rep.agg [[.string x[i].1], [.int .i64 x[i].2]] [.str x[i].1, .int .i64 x[i].2] rfl (fun j hj => by
    match j, hj with
    | 0, _ => exact .str _
    | 1, _ => exact .int _ _)
section
variable {l : List (String × DataW Unit)} {W : World}
theorem ops_of (h : laidMet Tryz.prog l W) (hm : ("warp/syntax.operators", Rows.laid_warp_syntax_operators) ∈ l) : OpsAt W := by
 obtain ⟨cs, fuel, p, hc, _, hd⟩ := laid_cells h hm (g := 5) (t := 224) krf krf
 obtain ⟨xs, m, _, _, hl, _, _⟩ := DataW.trod_array Tryz.underlying224 hd
 have key := cells_of_array Tryz.underlying224 hd
 rw [show Tryz.prog.cellsOf 224 = 5 from by kernel_rfl] at hl
 rw [show Tryz.prog.cellsOf 223 = 1 from by kernel_rfl] at key
 obtain ⟨cs⟩ := cs
 have hl : cs.length = 5 := hl
 obtain ⟨v0, v1, v2, v3, v4, rfl⟩ : ∃ v0 v1 v2 v3 v4, cs = [v0, v1, v2, v3, v4] := five hl
 refine ⟨v0, v1, v2, v3, v4, fun j v hj => ?_, fun i hi => ?_⟩
 ·rw [Nat.zero_add, hc]
  simpa using hj
 ·match i, hi with
  | 0, _ => obtain ⟨m, q, h1⟩ := key 0 _ rfl; exact row_of_trod h1 _ (by exact Nat.zero_lt_succ _) rfl
  | 1, _ => obtain ⟨m, q, h1⟩ := key 1 _ rfl; exact row_of_trod h1 _ (by exact Nat.zero_lt_succ _) rfl
  | 2, _ => obtain ⟨m, q, h1⟩ := key 2 _ rfl; exact row_of_trod h1 _ (by exact Nat.zero_lt_succ _) rfl
  | 3, _ => obtain ⟨m, q, h1⟩ := key 3 _ rfl; exact row_of_trod h1 _ (by exact Nat.zero_lt_succ _) rfl
  | 4, _ => obtain ⟨m, q, h1⟩ := key 4 _ rfl; exact row_of_trod h1 _ (by exact Nat.zero_lt_succ _) rfl
theorem tabs_of (h : laidMet Tryz.prog l W) (h1 : ("warp/syntax.exprShapes", Rows.laid_warp_syntax_exprShapes) ∈ l) (h2 : ("warp/syntax.stmtShapes", Rows.laid_warp_syntax_stmtShapes) ∈ l)
  (h3 : ("warp/syntax.operators", Rows.laid_warp_syntax_operators) ∈ l) (h4 : ("internal/strconv.uint64pow10", Rows.laid_internal_strconv_uint64pow10) ∈ l)
  (h5 : ("warp/syntax.stmtWords", Rows.laid_warp_syntax_stmtWords) ∈ l) (h6 : ("warp/syntax.declWords", Rows.laid_warp_syntax_declWords) ∈ l) : Tabs W :=
 ⟨exprs_of h h1, stmts_of h h2, ops_of h h3, tab_of h h4, words_of h h5, decls_of h h6⟩
end
end Go.Proofs.YtjkgepppoopheaaGreatDoor
