/- The project's printer of expressions: what it writes, and a cell's text (conditions: the text is of at most 2^46 bytes; the tables stand; the expression is one that may be). -/
import Derived.Test.YtjkgepppoopheaaGreatDoorAbb
import Derived.Test.YtjkgepppoopheaaGreatDoorQ1
import Derived.Lib.AppendStr
import Derived.Lib.Builder
import Derived.Lib.UnsafeStr
import Derived.Defers
import Derived.Test.YtjkgepppoopheaaGreatDoorShf
import Derived.Lib.SmallJoins
import Derived.Test.YtjkgepppoopheaaGreatDoorQ22
import Derived.Test.YtjkgepppoopheaaGreatDoorQ6
set_option maxRecDepth 100000
set_option maxHeartbeats 1000000
namespace Go.Proofs.YtjkgepppoopheaaGreatDoor
open Go.RowKit Go.Shelf
section
variable {P : Program} (w : World)
theorem run_append_string_at (base : Nat) (t u ty e : TypeId) (i : TypeInfo) (ht : P.underlying t = some (.slice e)) (hu : P.underlying u = some .string) (hi : P.info? e = some i) (hz : i.zero = some (.int .u8 0))
  (hsize : i.size = 1) (hby : i.bytes = 1) (v : Value) (n : Nat) (xs : List Value) (hown : w.ownsRow base e 1 v n xs) (s : ByteArray) (h63 : n + s.size ≤ maxLen) (hbytes : n + s.size ≤ 140737488355328) (hbase : base ≤ w.heap.size) :
  ∃ v' w', (Builtin.append_ #[t, u] ty #[v, .string s]).run P w = .ok v' w' ∧ w'.ownsRow base e 1 v' (n + s.size) (xs ++ Lib.strCells s) ∧ w.grownBy w' v.ownBlock ∧ (v'.ownBlock = v.ownBlock ∨ ∀ g, v'.ownBlock = some g → w.heap.size ≤ g) := by
 have hxl : xs.length = n := by simpa using hown.1
 obtain ⟨v', w', hr, h1, h2, _⟩ := Lib.run_append_own_string (P := P) w base t u ty e i ht hu hi hz hsize hby v n xs hown s h63 hbytes hbase
 refine ⟨v', w', hr, h1, h2, ?_⟩
 have hown2 := hown
 rcases hown.2 with ⟨rfl, rfl⟩ | ⟨g, cap, cur, rfl, hbg, hg, hnc, hcm, hcs, htake⟩
 ·have hx : xs = [] := List.eq_nil_of_length_eq_zero hxl
  subst hx
  obtain ⟨v2, w2, hr2, h3, _⟩ := Lib.run_append_own_string (P := P) w w.heap.size t u ty e i ht hu hi hz hsize hby (.slice none 0 0) 0 [] (World.ownsRow_nil w _ e 1) s h63 hbytes (Nat.le_refl _)
  rw [hr] at hr2
  injection hr2 with hv _
  subst hv
  right
  intro g hg
  rcases h3.2 with ⟨rfl, _⟩ | ⟨g', _, _, rfl, hb, _⟩
  ·simp [Value.ownBlock] at hg
  ·have : g' = g := by simpa [Value.ownBlock] using hg
   omega
 ·by_cases hroom : n + s.size ≤ cap
  ·have hcs' : cur.size = cap := by simpa using hcs
   have hr2 := Lib.run_append_room_string (P := P) w t u ty e i ht hu hi hsize g n cap cur hg s hroom kom
   rw [hr] at hr2
   injection hr2 with hv _
   subst hv
   exact .inl rfl
  ·have holds : ∀ j u, xs[j]? = some u → w.cell? ((⟨g, 0, none⟩ : Addr).add j) = some u := hown2.cells (g := g) rfl
   have hsmall : n + s.size ≤ 9223372036854775807 := by simp only [maxLen] at h63; omega
   have hr2 := Lib.run_append_grow_string (P := P) w t u ty e i (.int .u8 0) ht hu hi hz ⟨g, 0, none⟩ n cap xs (by rw [hsize]; simpa using hxl) holds s kom kom (by rw [hby]; exact growslice_fits kom kom)
   rw [hr] at hr2
   injection hr2 with hv _
   subst hv
   right
   intro g' hg'
   have : w.heap.size = g' := by simpa [Value.ownBlock] using hg'
   omega
theorem wpList_append_string_at {ops : Array Oper} {rest : List Oper} {o : Oper} {a : Act} {Q : Exit → Act → World → Prop} (hgd : o.guard = none) (sl x : Operand) (t u : TypeId)
  (ho : o.op = .call { callee := .builtin .append, args := #[sl, x], argTypes := #[t, u] })
  (base : Nat) (e : TypeId) (i : TypeInfo) (ht : P.underlying t = some (.slice e)) (hu : P.underlying u = some .string) (hi : P.info? e = some i) (hz : i.zero = some (.int .u8 0))
  (hsize : i.size = 1) (hby : i.bytes = 1) (v : Value) (n : Nat) (xs : List Value) (hs : a.eval sl = v) (hown : w.ownsRow base e 1 v n xs) (s : ByteArray) (hx : a.eval x = .string s)
  (h63 : n + s.size ≤ maxLen) (hbytes : n + s.size ≤ 140737488355328) (hbase : base ≤ w.heap.size)
  (h : ∀ v' w', w'.ownsRow base e 1 v' (n + s.size) (xs ++ Lib.strCells s) → w.grownBy w' v.ownBlock → (v'.ownBlock = v.ownBlock ∨ ∀ g, v'.ownBlock = some g → w.heap.size ≤ g) → wpList P ops Q rest (a.put o.dst v') w') : wpList P ops Q (o :: rest) a w := by
 refine wpList_plain hgd fun K hK => ?_
 obtain ⟨v', w', hr, h2, h3, h4⟩ := run_append_string_at (P := P) w base t u o.type e i ht hu hi hz hsize hby v n xs hown s h63 hbytes hbase
 unfold Oper.wp execOp
 simp only [ho, resolve, invoke, builtin, Sem.run_bind, Sem.run_pure, Result.andThen_ok, List.map_toArray, List.map_cons, List.map_nil, hs, hx, hr]
 exact hK _ _ (h v' w' h2 h3 h4)
end
def BAt (W : World) (B : Nat) (s : ByteArray) : Prop := ∃ ad v, Cells W B 99 [ad, v] ∧ (ad = .pointer none ∨ ad = .pointer (some ⟨B, 0, none⟩)) ∧ W.ownsRow B 5 1 v s.size (Lib.strCells s)
def rowB (W : World) (B : Nat) : Option Nat := (W.cell? ⟨B, 1, none⟩).bind Value.ownBlock
structure Put (B : Nat) (W W' : World) : Prop where
 kept : Kept (fun k => k = B ∨ rowB W B = some k) W W'
 loc : rowB W' B = rowB W B ∨ ∀ g, rowB W' B = some g → W.heap.size ≤ g
section
variable {W W' W'' : World} {B : Nat} {s t : ByteArray}
theorem BAt.lt (h : BAt W B s) : B < W.heap.size := by
 obtain ⟨ad, v, hc, _⟩ := h
 exact hc.lt
theorem rowB_eq {ad v : Value} (h : Cells W B 99 [ad, v]) : rowB W B = v.ownBlock := by
 unfold rowB
 rw [h.cell 1]
 rfl
theorem BAt.row (h : BAt W B s) {g : Nat} (hg : rowB W B = some g) : B < g ∧ g < W.heap.size ∧ ∀ t cs, Cells W g t cs → t = 5 := by
 obtain ⟨ad, v, hc, _, ho⟩ := h
 rw [rowB_eq hc] at hg
 rcases ho.2 with ⟨rfl, _⟩ | ⟨g', cap, cur, rfl, hb, hgg, _⟩
 ·simp [Value.ownBlock] at hg
 ·have : g' = g := by simpa [Value.ownBlock] using hg
  subst this
  have hl := (Array.getElem?_eq_some_iff.1 hgg).1
  have hty : ∀ t cs, Cells W g' t cs → t = 5 := fun t cs hh => by
   unfold Cells at hh
   rw [hgg] at hh
   injection hh with hh
   injection hh with _ hh
   exact hh.symm
  refine ⟨?_, hl, hty⟩
  rcases Nat.lt_or_ge B g' with h | h
  ·exact h
  ·have : g' = B := by omega
   subst this
   exact absurd (hty _ _ hc) (by decide)
theorem BAt.kept {X : Nat → Prop} (h : BAt W B s) (hk : Kept X W W') (hx : ¬ X B) (hr : ∀ g, rowB W B = some g → ¬ X g) : BAt W' B s ∧ rowB W' B = rowB W B := by
 obtain ⟨ad, v, hc, ha, ho⟩ := h
 have hc' := hc.kept hk hx
 refine ⟨⟨ad, v, hc', ha, ?_⟩, by rw [rowB_eq hc, rowB_eq hc']⟩
 rw [rowB_eq hc] at hr
 refine ⟨ho.1, ?_⟩
 rcases ho.2 with hn | ⟨g, cap, cur, rfl, hb, hgg, rest⟩
 ·exact .inl hn
 ·exact .inr ⟨g, cap, cur, rfl, hb, hk.heap hgg (hr g rfl), rest⟩
theorem BAt.keep (h : BAt W B s) (hk : Kept noX W W') : BAt W' B s := (h.kept hk (fun h => h) (fun _ _ h => h)).1
theorem Put.refl (B : Nat) (W : World) : Put B W W := ⟨Kept.refl _ _, .inl rfl⟩
theorem Put.trans (h : Put B W W') (k : Put B W' W'') (hb : BAt W B s) : Put B W W'' := by
 have hs := h.kept.size
 refine ⟨h.kept.join k.kept (fun i hi hlt => ?_), ?_⟩
 ·rcases hi with rfl | hi
  ·exact .inl rfl
  ·rcases h.loc with h1 | h1
   ·exact .inr (h1 ▸ hi)
   ·have := h1 i hi; omega
 ·rcases k.loc with h1 | h1
  ·rw [h1]; exact h.loc
  ·right
   intro g hg
   have := h1 g hg
   omega
theorem Put.pre (hb : BAt W B s) (hk : Kept noX W W') (k : Put B W' W'') : Put B W W'' := by
 obtain ⟨hb', hr⟩ := hb.kept hk (fun h => h) (fun _ _ h => h)
 have hs := hk.size
 refine ⟨hk.any.trans (k.kept.mono (fun i _ hi => by rw [hr] at hi; exact hi)), ?_⟩
 rcases k.loc with h1 | h1
 ·exact .inl (h1.trans hr)
 ·right
  intro g hg
  have := h1 g hg
  omega
theorem Put.post (h : Put B W W') (hb : BAt W' B s) (hk : Kept noX W' W'') : Put B W W'' := by
 obtain ⟨_, hr⟩ := hb.kept hk (fun h => h) (fun _ _ h => h)
 refine ⟨h.kept.trans hk.any, ?_⟩
 rcases h.loc with h1 | h1
 ·exact .inl (hr.trans h1)
 ·right
  intro g hg
  rw [hr] at hg
  exact h1 g hg
theorem Put.cells {g : Nat} {ty : TypeId} {cs : List Value} (h : Put B W W') (hb : BAt W B s) (hc : Cells W g ty cs) (hne : g ≠ B) (ht : ty ≠ 5) : Cells W' g ty cs :=
 hc.kept h.kept (fun hx => by
   rcases hx with hx | hx
   · exact hne hx
   · exact ht ((hb.row hx).2.2 _ _ hc))
theorem Put.below (h : Put B W W') (hb : BAt W B s) : Kept (B ≤ ·) W W' := h.kept.mono (fun k _ hk => by
  rcases hk with rfl | hk
  · exact Nat.le_refl _
  · exact Nat.le_of_lt (hb.row hk).1)
end
theorem copyCheck_calls {W : World} {B : Nat} {ad v : Value} (h : Cells W B 99 [ad, v]) (ha : ad = .pointer none ∨ ad = .pointer (some ⟨B, 0, none⟩)) :
  Calls Tryz.prog 172 #[.pointer (some ⟨B, 0, none⟩)] W fun e W' => e = .returned (.tuple #[]) ∧ Cells W' B 99 [.pointer (some ⟨B, 0, none⟩), v] ∧ Kept (· = B) W W' := by
 have c0 := h.cell 0; have f0 := h.free 0
 simp only [aZ] at c0
 rcases ha with rfl | rfl
 ·have hsh : W.shape? B = some (99, 2) := by
   have h' := h
   unfold Cells at h'
   simp [World.shape?, h']
  have hto : (convert 95 226 (.pointer (some ⟨B, 0, none⟩))).run Tryz.prog W = .ok (.pointer (some ⟨B, 0, none⟩)) W := by
   obtain ⟨j, hj, hjs⟩ := Option.map_eq_some_iff.1 (show (Tryz.prog.info? 97).map (·.size) = some 2 from by kernel_rfl)
   exact Lib.run_to_unsafe W ⟨B, 0, none⟩ Tryz.underlying95 Tryz.underlying226 hj (by rw [hjs]; decide) hsh (show 0 < 2 from by decide)
  have hno : (callFunc 190 #[.pointer (some ⟨B, 0, none⟩)]).run Tryz.prog W = .ok (.value (.pointer (some ⟨B, 0, none⟩))) W := by
   rw [run_callFunc_extern Tryz.func190 krf krf krf (e := Extern.AbiNoEscape.same) krf, Lib.run_noEscape]
   rfl
  have hfrom : (convert 226 95 (.pointer (some ⟨B, 0, none⟩))).run Tryz.prog W = .ok (.pointer (some ⟨B, 0, none⟩)) W := by
   obtain ⟨j, hj, hjs⟩ := Option.map_eq_some_iff.1 (show (Tryz.prog.info? 97).map (·.size) = some 2 from by kernel_rfl)
   exact Lib.run_from_unsafe W ⟨B, 0, none⟩ Tryz.underlying226 Tryz.underlying95 hj hsh krf
  have HH := aP h
  clear h hsh
  go_enter Tryz.func172, Tryz.ntmps172
  go_wp2
  go_end0
  exact ⟨rfl, HH.out.put 0 _, (Kept.refl _ _).setCell (fun _ => by rfl) _⟩
 ·have HH := aP h
  have hneq : (binOp .neq 95 (.pointer (some ⟨B, 0, none⟩)) (.pointer (some ⟨B, 0, none⟩))).run Tryz.prog W = .ok (.bool false) W := by
   obtain ⟨j, hj, _⟩ := Option.map_eq_some_iff.1 (show (Tryz.prog.info? 97).map (·.size) = some 2 from by kernel_rfl)
   exact Lib.run_neq_ptr_same W _ Tryz.underlying95 hj
  clear h
  go_enter Tryz.func172, Tryz.ntmps172
  go_wp2
  go_end0
  exact ⟨rfl, HH.out, Kept.refl _ _⟩
theorem own_form {W : World} {base : Nat} {e : TypeId} {size : Nat} {v : Value} {n : Nat} {xs : List Value} (h : W.ownsRow base e size v n xs) : ∃ ao n' cap, v = .slice ao n' cap := by
 rcases h.2 with ⟨hv, _⟩ | ⟨g, cap, cur, hv, _⟩
 ·exact ⟨_, _, _, hv⟩
 ·exact ⟨_, _, _, hv⟩
theorem strCells_append (s t : ByteArray) : Lib.strCells (s ++ t) = Lib.strCells s ++ Lib.strCells t := by
 simp [Lib.strCells]
theorem write_calls {W : World} {B : Nat} {s : ByteArray} (t : ByteArray) (h : BAt W B s) (hlen : s.size + t.size ≤ 70368744177664) :
  Calls Tryz.prog 139 #[.pointer (some ⟨B, 0, none⟩), .string t] W fun e W' => e = .returned (.tuple #[.int .i64 (t.size : Nat), .nilIface]) ∧ BAt W' B (s ++ t) ∧ Put B W W' := by
 have hb := h
 obtain ⟨ad, v, hc, ha, ho⟩ := h
 have HC := aP (copyCheck_calls hc ha)
 have HB := aP hb
 have HO := aP ho
 have hlt := hc.lt
 have hrow := rowB_eq hc
 have hne : v.ownBlock ≠ some B := fun he => by have := (hb.row (hrow.trans he)).1; omega
 have HROW := aP hrow
 have HNE := aP hne
 obtain ⟨i0, hi, hz0, hz1, hz2⟩ := (show ∃ i, Tryz.prog.info? 5 = some i ∧ i.zero = some (.int .u8 0) ∧ i.size = 1 ∧ i.bytes = 1 from by
   have h5 : (Tryz.prog.info? 5).map (fun i => (i.zero, i.size, i.bytes)) = some (some (.int .u8 0), 1, 1) := by kernel_rfl
   obtain ⟨i, h1, h2⟩ := Option.map_eq_some_iff.1 h5
   injection h2 with h2 h3
   injection h3 with h3 h4
   exact ⟨i, h1, h2, h3, h4⟩)
 clear hb hc ha ho hrow hne
 go_enter Tryz.func139, Tryz.ntmps139
 go_wp2_with (first
   | (go_at_call 172; refine HC.out.mono ?_; rintro e W1 ⟨rfl, hc1, hk1⟩; (have k0 := hc1.cell 1); (have k1 := hc1.free 1); simp only [aZ, aS] at k0; (have HC1 := aP hc1); (have HO1 := aP (own_kept HO.out hk1 (fun g hg h => HNE.out (by rw [hg, h])))); (have hs1 := hk1.size); clear hc1)
   | (at_builtin; refine wpList_append_string_at _ rfl _ _ 67 9 rfl B 5 i0 Tryz.underlying67 Tryz.underlying9 hi hz0 hz1 hz2 v s.size (Lib.strCells s) rfl HO1.out t rfl (by unfold maxLen; omega) kom kom ?_; intro v' W2 hown' hgrow hloc; obtain ⟨ao, n', cap, rfl⟩ := own_form hown'; (have hk2 : Kept (fun k => v.ownBlock = some k) W1 W2 := (Kept.refl _ _).grown hgrow (fun k hk _ => hk)); (have hB2 := aP (HC1.out.kept hk2 (fun h => HNE.out h))); (have HW2 := aP hown'); (have HL2 := aP hloc); clear hown' hgrow hloc k0 k1)
   | ((with_reducible refine ats ?_); (refine wpList_store_part rfl rfl 67 (.tmp 16) (.tmp 14) rfl (B) 1 rfl [.slice ao n' cap] rfl hB2.out kle krf k1c ?_; intro W3 hB3 hk3; replace hB3 : Cells W3 (B) 99 [.pointer (some ⟨B, 0, none⟩), .slice ao n' cap] := (by simpa using hB3); have HB3 := aP hB3; clear hB3)))
 go_ret2
 have hs2 := hk2.size
 have hk02 : Kept (fun k => k = B ∨ rowB W B = some k) W W2 := (hk1.mono (fun k _ h => .inl h)).trans (hk2.mono (fun k _ h => .inr (HROW.out.trans h)))
 have hrow2 : W3.ownsRow B 5 1 (.slice ao n' cap) (s.size + t.size) (Lib.strCells s ++ Lib.strCells t) := own_kept HW2.out hk3 (fun g hg h => by
   have h : g = B := h
   rcases HL2.out with h2 | h2
   · exact HNE.out (by rw [← h2, hg, h])
   · have := h2 g hg; omega)
 have hsz : (s ++ t).size = s.size + t.size := by simp
 refine ⟨rfl, ⟨_, _, HB3.out, .inr rfl, by rw [hsz, strCells_append]; exact hrow2⟩, ⟨hk02.trans (hk3.mono (fun k _ h => .inl h)), ?_⟩⟩
 rw [rowB_eq HB3.out, HROW.out]
 rcases HL2.out with h2 | h2
 ·exact .inl h2
 ·right
  intro g hg
  have := h2 g hg
  omega
theorem ba_an (s : ByteArray) : s ++ (⟨#[]⟩ : ByteArray) = s := ByteArray.append_empty
theorem ba_na (s : ByteArray) : (⟨#[]⟩ : ByteArray) ++ s = s := ByteArray.empty_append
def catL : List ByteArray → ByteArray
 | [] => ⟨#[]⟩
 | a :: l => a ++ catL l
theorem catL_append (l m : List ByteArray) : catL (l ++ m) = catL l ++ catL m := by
 induction l with
 | nil => simp [catL, ba_na]
 | cons a l ih => simp [catL, ih, ByteArray.append_assoc]
theorem catL_take {l : List ByteArray} {k : Nat} (hk : k < l.length) : catL (l.take (k + 1)) = catL (l.take k) ++ l[k] := by
 rw [List.take_succ_eq_append_getElem hk, catL_append]
 simp [catL, ba_an]
theorem catL_take_le (l : List ByteArray) (k : Nat) : (catL (l.take k)).size ≤ (catL l).size := by
 have h := catL_append (l.take k) (l.drop k)
 rw [List.take_append_drop] at h
 rw [h]
 simp
theorem put_calls {W : World} {B : Nat} {s : ByteArray} (h : BAt W B s) {g : Nat} {ts : List ByteArray} (hg : Cells W g 9 (ts.map .string)) (hne : g ≠ B) (hlen : s.size + (catL ts).size ≤ 70368744177664) (hn : ts.length ≤ 1000) :
  Calls Tryz.prog 90 #[.pointer (some ⟨B, 0, none⟩), .slice (some ⟨g, 0, none⟩) ts.length ts.length] W fun e W' => e = .returned (.tuple #[]) ∧ BAt W' B (s ++ catL ts) ∧ Put B W W' := by
 have HB := aP h
 have HG := aP hg
 clear h hg
 go_enter Tryz.func90, Tryz.ntmps90
 go_wp2
 go_loopw [8] (fun i wr => ∃ k : Nat, k ≤ ts.length ∧ i = .int .i64 k ∧ BAt wr B (s ++ catL (ts.take k)) ∧ Put B W wr ∧ Cells wr g 9 (ts.map .string)) (fun i _ => ts.length - (intOf i).toNat)
 case atStart => exact ⟨0, Nat.zero_le _, rfl, by simpa [catL, ba_an] using HB.out, Put.refl _ _, HG.out⟩
 case round => exact k_6
theorem put_deferred {W : World} {B : Nat} {s : ByteArray} (h : BAt W B s) {g : Nat} {ts : List ByteArray} (hg : Cells W g 9 (ts.map .string)) (hne : g ≠ B) (hlen : s.size + (catL ts).size ≤ 70368744177664) (hn : ts.length ≤ 1000) (u : FrameMode) :
  CallsD Tryz.prog 90 #[.pointer (some ⟨B, 0, none⟩), .slice (some ⟨g, 0, none⟩) ts.length ts.length] u W fun e u' W' => u' = u ∧ e = .returned (.tuple #[]) ∧ BAt W' B (s ++ catL ts) ∧ Put B W W' := by
 have HB := aP h
 have HG := aP hg
 clear h hg
 go_enter_d Tryz.func90, Tryz.ntmps90
 go_wp2
 go_loopw [8] (fun i wr => ∃ k : Nat, k ≤ ts.length ∧ i = .int .i64 k ∧ BAt wr B (s ++ catL (ts.take k)) ∧ Put B W wr ∧ Cells wr g 9 (ts.map .string)) (fun i _ => ts.length - (intOf i).toNat)
 case atStart => exact ⟨0, Nat.zero_le _, rfl, by simpa [catL, ba_an] using HB.out, Put.refl _ _, HG.out⟩
 case round => exact k_6
def TabAt (W : World) : Prop := Lib.TabIs Tryz.prog W "internal/strconv.uint64pow10" .u64 Lib.pow10Tab
theorem TabAt.kept {X : Nat → Prop} {W W' : World} (h : TabAt W) (hk : Kept X W W') (hx : ∀ g, X g → W.heap.size ≤ g) : TabAt W' :=
 Go.Joins.tab_stays (g := 4) krf h (hk.below (Nat.le_refl _) hx) (Nat.le_refl _)
def itoaB (n : Int) : ByteArray := ⟨(Lib.itoa n).toArray⟩
def tabsB (n : Nat) : ByteArray := ⟨(List.replicate n 9).toArray⟩
theorem repeat_tabs (n : Nat) : Lib.repeatL [9] n = List.replicate n 9 := by
 induction n with
 | zero => rfl
 | succ n ih => rw [Lib.repeatL, ih] <;> rfl
@[simp] theorem tabsB_size (n : Nat) : (tabsB n).size = n := by simp [tabsB, ByteArray.size]
theorem fmt_calls {W : World} (n : Int) (h0 : -9223372036854775808 ≤ n) (h1 : n ≤ 9223372036854775807) (hT : TabAt W) :
  Calls Tryz.prog 50 #[.int .i64 n, .int .i64 10] W fun e W' => e = .returned (.string (itoaB n)) ∧ Kept noX W W' := by
 refine (Tryz.strconv_FormatInt_10 n h0 h1 W hT).mono ?_
 rintro e W' ⟨rfl, k, os, rfl⟩
 refine ⟨rfl, ⟨rfl, rfl, rfl, ?_, fun i hi _ => ?_⟩⟩
 ·show W.heap.size ≤ (W.heap ++ os).size
  simp
 ·show (W.heap ++ os)[i]? = W.heap[i]?
  rw [Array.getElem?_append_left hi]
theorem rep_calls {W : World} (n : Nat) (hn : n ≤ 1000000) :
  Calls Tryz.prog 173 #[.string ⟨#[9]⟩, .int .i64 (n : Nat)] W fun e W' => e = .returned (.string (tabsB n)) ∧ Kept noX W W' := by
 refine (Tryz.strings_Repeat ⟨#[9]⟩ n W kom (by rw [show (⟨#[9]⟩ : ByteArray).size = 1 from rfl]; omega)).mono ?_
 rintro e W' ⟨rfl, hb⟩
 refine ⟨?_, Kept.of_below hb (fun k h1 h2 => by omega)⟩
 have : (⟨#[9]⟩ : ByteArray).data.toList = [9] := rfl
 rw [this, repeat_tabs]
 rfl
theorem put_lit {W : World} {B : Nat} {s : ByteArray} (ts : List ByteArray) (h : BAt W B s) (hlen : s.size + (catL ts).size ≤ 70368744177664) (hn : ts.length ≤ 1000) :
  Calls Tryz.prog 90 #[.pointer (some ⟨B, 0, none⟩), .slice (some ⟨W.heap.size, 0, none⟩) ts.length ts.length] (W.alloc (.cells (ts.map Value.string).toArray 9)) fun e W' => e = .returned (.tuple #[]) ∧ BAt W' B (s ++ catL ts) ∧ Put B W W' := by
 have hk : Kept noX W (W.alloc (.cells (ts.map Value.string).toArray 9)) := (Kept.refl _ _).alloc _
 refine (put_calls (h.keep hk) (Cells.fresh W 9 (ts.map .string)) (by have := h.lt; omega) hlen hn).mono ?_
 rintro e W' ⟨rfl, h1, h2⟩
 exact ⟨rfl, h1, Put.pre h hk h2⟩
theorem tabs_calls {W : World} {B : Nat} {s : ByteArray} (n : Nat) (hn : n ≤ 1000000) (h : BAt W B s) (hlen : s.size + n ≤ 70368744177664) :
  Calls Tryz.prog 140 #[.pointer (some ⟨B, 0, none⟩), .int .i64 (n : Nat)] W fun e W' => e = .returned (.tuple #[]) ∧ BAt W' B (s ++ tabsB n) ∧ Put B W W' := by
 have HR := aP (rep_calls (W := W) n hn)
 have HB := aP h
 clear h
 go_enter Tryz.func140, Tryz.ntmps140
 go_wp2_with fail
 refine HR.out.mono ?_
 rintro e W1 ⟨rfl, hk1⟩
 have HP := aP (put_lit [tabsB n] (HB.out.keep hk1) (by simp [catL, ba_an]; omega) kle)
 have hl := HB.out.lt
 have hs := hk1.size
 go_wp2_with fail
 refine HP.out.mono ?_
 rintro e W2 ⟨rfl, hb2, hp2⟩
 have HB2 := aP hb2
 clear hb2
 go_wp2
 go_end0
 refine ⟨rfl, ?_, Put.pre HB.out hk1 hp2⟩
 have := HB2.out
 simpa [catL, ba_an] using this
def sgR : List ByteArray := [⟨#[61, 61]⟩, ⟨#[33, 61]⟩, ⟨#[60, 61]⟩, ⟨#[38, 38]⟩, ⟨#[124, 124]⟩, ⟨#[59]⟩, ⟨#[40]⟩, ⟨#[41]⟩, ⟨#[123]⟩, ⟨#[125]⟩, ⟨#[91]⟩, ⟨#[93]⟩, ⟨#[61]⟩, ⟨#[60]⟩, ⟨#[43]⟩, ⟨#[45]⟩, ⟨#[42]⟩, ⟨#[47]⟩, ⟨#[37]⟩, ⟨#[33]⟩]
theorem rletter_any (x : Int) (w : World) :
  Calls Tryz.prog 92 #[.int .u8 x] w fun e w' => e = .returned (.bool (letB x)) ∧ w = w' := by
 go_enter Tryz.func92, Tryz.ntmps92
 go_wp2
 all_goals go_ret
 all_goals exact ⟨by simp [letB]; try omega, rfl⟩
theorem rdigit_any (x : Int) (w : World) :
  Calls Tryz.prog 94 #[.int .u8 x] w fun e w' => e = .returned (.bool (digB x)) ∧ w = w' := by
 go_enter Tryz.func94, Tryz.ntmps94
 go_wp2
 all_goals go_ret
 all_goals exact ⟨by simp [digB]; try omega, rfl⟩
theorem rwords_any (w : World) : Calls Tryz.prog 142 #[] w fun e w' => e = .returned (.slice (some ⟨w.heap.size, 0, none⟩) 20 20) ∧ Cells w' w.heap.size 9 (kwB.map Value.string) ∧ Kept noX w w' := by
 have hc := Cells.fresh w 9 (kwB.map Value.string)
 go_enter Tryz.func142, Tryz.ntmps142
 go_wp2
 go_ret
 exact ⟨rfl, hc, (Kept.refl _ _).alloc _⟩
theorem rsigns_any (w : World) : Calls Tryz.prog 137 #[] w fun e w' => e = .returned (.slice (some ⟨w.heap.size, 0, none⟩) 20 20) ∧ Cells w' w.heap.size 9 (sgR.map Value.string) ∧ Kept noX w w' := by
 have hc := Cells.fresh w 9 (sgR.map Value.string)
 go_enter Tryz.func137, Tryz.ntmps137
 go_wp2
 go_ret
 exact ⟨rfl, hc, (Kept.refl _ _).alloc _⟩
theorem row_at {w : World} {g : Nat} {l : List ByteArray} (h : Cells w g 9 (l.map Value.string)) {k : Nat} (hk : k < l.length) : w.cell? ⟨g, k, none⟩ = some (.string l[k]) := by
 rw [h.cell k, List.getElem?_map, List.getElem?_eq_getElem hk]
 rfl
theorem toList_beq (a b : ByteArray) : (a.toList == b.toList) = decide (a.data.toList = b.data.toList) := by
 rw [ByteArray.toList_eq, ByteArray.toList_eq]
 by_cases h : a.data.toList = b.data.toList
 ·simp [h]
 ·rw [decide_eq_false h]
  exact beq_eq_false_iff_ne.2 h
def kwIs (s : List UInt8) : Bool := decide (s ∈ kwL)
theorem rkeyword_any (s : ByteArray) (w : World) : Calls Tryz.prog 93 #[.string s] w fun e w' => e = .returned (.bool (kwIs s.data.toList)) ∧ Kept noX w w' := by
 go_enter Tryz.func93, Tryz.ntmps93
 go_wp2_with fail
 refine (rwords_any w).mono ?_
 rintro e W1 ⟨rfl, hrow, hk1⟩
 go_wp2_with fail
 go_loop [4] (fun i => ∃ k : Nat, i = .int .i64 k ∧ k ≤ 20 ∧ s.data.toList ∉ kwL.take k) (fun i => 20 - (intOf i).toNat)
 case atStart => exact ⟨0, rfl, by omega, by simp⟩
 case round =>
  obtain ⟨k, rfl, hk, hn⟩ := hrel
  have HN := aP hn
  clear hn
  by_cases hlt : k < 20
  ·have hc := row_at hrow (k := k) (by simpa [kwB] using hlt)
   have hkl : k < kwL.length := by simpa [kwL] using hlt
   have hkb : k < kwB.length := by simpa [kwB] using hlt
   have hd : kwB[k].data.toList = kwL[k] := by
    have := congrArg (fun l => l[k]?) kwB_L
    simp only [List.getElem?_map, List.getElem?_eq_getElem hkb, List.getElem?_eq_getElem hkl, Option.map_some, Option.some.injEq] at this
    exact this
   have HD := aP hd
   clear hd
   obtain ⟨b, hb⟩ : ∃ b, b = kwB[k] := ⟨_, rfl⟩
   rw [← hb] at hc
   have HB := aP hb
   clear hb hrow
   by_cases he : b.data.toList = s.data.toList
   ·have te : (b.toList == s.toList) = true := by rw [toList_beq]; simpa using he
    have HY : Hid (kwIs s.data.toList = true) := aP (by
      unfold kwIs
      rw [decide_eq_true_iff, ← he, HB.out, HD.out]
      exact List.getElem_mem hkl)
    clear he
    go_wp2
    go_ret
    exact ⟨by rw [HY.out] <;> rfl, hk1⟩
   ·have te : (b.toList == s.toList) = false := by rw [toList_beq]; simpa using he
    have HE := aP he
    clear he
    go_wp2
    go_round
    case rel =>
     refine ⟨k + 1, by go_num, by omega, ?_⟩
     rw [List.take_add_one, List.getElem?_eq_getElem hkl]
     simp only [Option.toList_some, List.mem_append, List.mem_singleton, not_or]
     refine ⟨HN.out, fun h => HE.out ?_⟩
     rw [HB.out, HD.out]
     exact h.symm
    case measure => simp [intOf]; omega
  ·obtain rfl : k = 20 := by omega
   have HY : Hid (kwIs s.data.toList = false) := aP (by
     unfold kwIs
     rw [decide_eq_false_iff_not]
     exact HN.out)
   go_wp2
   go_ret
   exact ⟨by rw [HY.out] <;> rfl, hk1⟩
theorem runQ_step {q : Int → Bool} {s : ByteArray} {k : Nat} (hk : k < s.size) : runQ q (s.data.toList.drop k) = if q (s[k].toNat : Nat) then runQ q (s.data.toList.drop (k + 1)) + 1 else 0 := by
 rw [List.drop_eq_getElem_cons (by simpa using hk), runQ_cons]
 rfl
theorem run_any (s : ByteArray) (hs : s.size ≤ 1000000) (i0 : Nat) (hi : i0 ≤ s.size) (w : World) :
  Calls Tryz.prog 135 #[.string s, .int .i64 i0] w fun e w' => e = .returned (.int .i64 (runQ alnB (s.data.toList.drop i0) : Nat)) ∧ Kept noX w w' := by
 go_enter Tryz.func135, Tryz.ntmps135
 go_wp2
 go_loop [5] (fun i => ∃ k : Nat, i = .int .i64 k ∧ i0 + k ≤ s.size ∧ runQ alnB (s.data.toList.drop i0) = k + runQ alnB (s.data.toList.drop (i0 + k))) (fun i => s.size - (intOf i).toNat)
 case atStart => exact ⟨0, rfl, by omega, by simp⟩
 case round =>
  obtain ⟨k, rfl, hk, he⟩ := hrel
  have HE := aP he
  clear he
  by_cases hlt : i0 + k < s.size
  ·have hlt' : decide ((i0 : Int) + (k : Int) < (s.size : Int)) = true := by simp; omega
   have hst := runQ_step (q := alnB) hlt
   have HST := aP hst
   clear hst
   obtain ⟨x, hx⟩ : ∃ x : Int, x = (s[i0 + k].toNat : Nat) := ⟨_, rfl⟩
   cases hl : letB (s[i0 + k].toNat : Nat) with
   | true =>
    have HC : Hid (∀ W, Calls Tryz.prog 92 #[.int .u8 (s[i0 + k].toNat : Nat)] W fun e w' => e = .returned (.bool true) ∧ W = w') := aP (fun W => by rw [← hl]; exact rletter_any _ W)
    have HA : Hid (alnB (s[i0 + k].toNat : Nat) = true) := aP (by simp [alnB, hl])
    clear hl hx
    go_wp2_with (go_at_call 92; refine (HC.out _).mono ?_; rintro e w' ⟨rfl, rfl⟩)
    go_round
    case rel => exact k_26
    case measure => simp [intOf]; omega
   | false =>
    have HC : Hid (∀ W, Calls Tryz.prog 92 #[.int .u8 (s[i0 + k].toNat : Nat)] W fun e w' => e = .returned (.bool false) ∧ W = w') := aP (fun W => by rw [← hl]; exact rletter_any _ W)
    cases hdg : digB (s[i0 + k].toNat : Nat) with
    | true =>
     have HC2 : Hid (∀ W, Calls Tryz.prog 94 #[.int .u8 (s[i0 + k].toNat : Nat)] W fun e w' => e = .returned (.bool true) ∧ W = w') := aP (fun W => by rw [← hdg]; exact rdigit_any _ W)
     have HA : Hid (alnB (s[i0 + k].toNat : Nat) = true) := aP (by simp [alnB, hdg])
     clear hl hx hdg
     go_wp2_with (first | (go_at_call 92; refine (HC.out _).mono ?_; rintro e w' ⟨rfl, rfl⟩) | (go_at_call 94; refine (HC2.out _).mono ?_; rintro e w' ⟨rfl, rfl⟩))
     go_round
     case rel => exact k_26
     case measure => simp [intOf]; omega
    | false =>
     have HC2 : Hid (∀ W, Calls Tryz.prog 94 #[.int .u8 (s[i0 + k].toNat : Nat)] W fun e w' => e = .returned (.bool false) ∧ W = w') := aP (fun W => by rw [← hdg]; exact rdigit_any _ W)
     have HA : Hid (alnB (s[i0 + k].toNat : Nat) = false) := aP (by simp [alnB, hl, hdg])
     clear hl hx hdg
     go_wp2_with (first | (go_at_call 92; refine (HC.out _).mono ?_; rintro e w' ⟨rfl, rfl⟩) | (go_at_call 94; refine (HC2.out _).mono ?_; rintro e w' ⟨rfl, rfl⟩))
     go_ret
     refine ⟨?_, Kept.refl _ _⟩
     rw [HE.out, HST.out, HA.out]
     rfl
  ·have hlt' : decide ((i0 : Int) + (k : Int) < (s.size : Int)) = false := by simp; omega
   have hdn : s.data.toList.drop (i0 + k) = [] := List.drop_eq_nil_of_le (by simp; omega)
   have HDN := aP hdn
   clear hdn
   go_wp2
   go_ret
   refine ⟨?_, Kept.refl _ _⟩
   rw [HE.out, HDN.out]
   rfl
theorem rnumber_any (t : ByteArray) (hs : t.size ≤ 1000000) (h0 : 0 < t.size) (w : World) :
  Calls Tryz.prog 136 #[.string t] w fun e w' => (∃ x : Int, e = .returned (.tuple #[.int .i64 x, .bool (numOk t.data.toList)]) ∧ (numOk t.data.toList = true → x = numRes t.data.toList)) ∧ Kept noX w w' := by
 have hlen : t.data.toList.length = t.size := by simp
 have HL := aP hlen
 clear hlen
 go_enter Tryz.func136, Tryz.ntmps136
 go_wp2
 go_loop [4, 5] (fun n i => ∃ k : Nat, k ≤ t.size ∧ k ≤ 10 ∧ i = .int .i64 k ∧ n = .int .i64 (valF (t.data.toList.take k)) ∧ allDig (t.data.toList.take k) = true) (fun _ i => t.size - (intOf i).toNat)
 case atStart => exact ⟨0, Nat.zero_le _, by omega, rfl, rfl, rfl⟩
 case round =>
  obtain ⟨k, hk, hk10, rfl, rfl, hd⟩ := hrel
  have hv := valF_le (l := t.data.toList.take k) (by rw [List.length_take]; omega) hd
  have HD := aP hd
  clear hd
  by_cases hlt : k < t.size
  ·have hb0 : t.data.toList[k]? = some t[k] := byte_at hlt
   have ht : t.data.toList.take (k + 1) = t.data.toList.take k ++ [t[k]] := by rw [List.take_add_one, hb0] <;> rfl
   have HT := aP ht
   have HB := aP hb0
   have hub : (t[k].toNat : Int) ≤ 255 := by have := t[k].toNat_lt; omega
   clear ht hb0
   cases hdk : digB (t[k].toNat : Int) with
   | true =>
    have hdr := (digB_iff _).1 hdk
    have HC : Hid (∀ W, Calls Tryz.prog 94 #[.int .u8 (t[k].toNat : Int)] W fun e w' => e = .returned (.bool true) ∧ W = w') := aP (fun W => by rw [← hdk]; exact rdigit_any _ W)
    have HDK := aP hdk
    have hv2 : 0 ≤ valF (t.data.toList.take k) * 10 ∧ valF (t.data.toList.take k) * 10 ≤ 99999999990 := by omega
    clear hdk
    by_cases hk9 : k ≤ 9
    ·have hk9' : decide ((9 : Int) < (k : Int)) = false := by simp; omega
     go_wp2_with (go_at_call 94; refine (HC.out _).mono ?_; rintro e w' ⟨rfl, rfl⟩)
     go_round
     case rel =>
      refine ⟨k + 1, by omega, by omega, by go_num, ?_, ?_⟩
      ·rw [HT.out, valF_snoc, Int.mul_comm]
      ·have h1 := HD.out
       have h2 := HDK.out
       rw [HT.out]
       unfold allDig at h1 ⊢
       rw [List.all_append, h1]
       simpa using h2
     case measure => simp [intOf]; omega
    ·have hk9' : decide ((9 : Int) < (k : Int)) = true := by simp; omega
     have HN : Hid (numOk t.data.toList = false) := aP (by unfold numOk; rw [HL.out]; simp; omega)
     go_wp2_with (go_at_call 94; refine (HC.out _).mono ?_; rintro e w' ⟨rfl, rfl⟩)
     go_ret2
     exact ⟨⟨_, by rw [HN.out] <;> rfl, fun h => by rw [HN.out] at h; cases h⟩, Kept.refl _ _⟩
   | false =>
    have HC : Hid (∀ W, Calls Tryz.prog 94 #[.int .u8 (t[k].toNat : Int)] W fun e w' => e = .returned (.bool false) ∧ W = w') := aP (fun W => by rw [← hdk]; exact rdigit_any _ W)
    have HN : Hid (numOk t.data.toList = false) := by
     have hall : allDig t.data.toList = false := by
      unfold allDig
      rw [List.all_eq_false]
      exact ⟨t[k], List.mem_of_getElem? HB.out, by simp [hdk]⟩
     exact aP (by simp [numOk, hall])
    clear hdk
    go_wp2_with (go_at_call 94; refine (HC.out _).mono ?_; rintro e w' ⟨rfl, rfl⟩)
    go_ret2
    exact ⟨⟨_, by rw [HN.out] <;> rfl, fun h => by rw [HN.out] at h; cases h⟩, Kept.refl _ _⟩
  ·obtain rfl : k = t.size := by omega
   have hall : t.data.toList.take t.size = t.data.toList := List.take_of_length_le (by simp)
   rw [hall] at hv HD ⊢
   clear hall
   have hh : t.data.toList.head? = some t[0] := by
    rw [List.head?_eq_getElem?]
    exact byte_at h0
   have HH := aP hh
   clear hh
   by_cases hmax : valF t.data.toList ≤ 2147483647
   ·have dmax : decide (valF t.data.toList ≤ 2147483647) = true := by simpa using hmax
    by_cases h1 : t.size = 1
    ·have t1 : ((t.size : Int) == 1) = true := by rw [h1] <;> rfl
     have HN : Hid (numOk t.data.toList = true) := aP (by
       have h2 := HD.out
       unfold numOk
       rw [h2, HL.out, h1]
       simp [hmax])
     clear h1
     go_wp2_with fail
     go_quiet (fail)
     go_wp2
     go_ret2
     exact ⟨⟨_, by rw [HN.out] <;> rfl, fun _ => (numRes_yes HN.out).symm⟩, (Kept.refl _ _).drewN _⟩
    ·have t1 : ((t.size : Int) == 1) = false := by rw [beq_eq_false_iff_ne]; intro hh; apply h1; omega
     by_cases h48 : t[0] = 48
     ·have t48 : ((t[0].toNat : Int) != 48) = false := by rw [h48] <;> rfl
      have HN : Hid (numOk t.data.toList = false) := aP (by
        unfold numOk
        rw [HL.out, HH.out, h48]
        simp
        omega)
      clear h1 h48
      go_wp2_with fail
      go_quiet (fail)
      go_wp2
      go_ret2
      exact ⟨⟨_, by rw [HN.out] <;> rfl, fun h => by rw [HN.out] at h; cases h⟩, (Kept.refl _ _).drewN _⟩
     ·have t48 : ((t[0].toNat : Int) != 48) = true := by
       rw [bne_iff_ne]; intro hh; apply h48; apply UInt8.toNat_inj.1; show _ = 48; omega
      have HN : Hid (numOk t.data.toList = true) := aP (by
        have h2 := HD.out
        unfold numOk
        rw [h2, HL.out, HH.out]
        simp [hmax, h48, hk10])
      clear h1 h48
      go_wp2_with fail
      go_quiet (fail)
      go_wp2
      go_ret2
      exact ⟨⟨_, by rw [HN.out] <;> rfl, fun _ => (numRes_yes HN.out).symm⟩, (Kept.refl _ _).drewN _⟩
   ·have dmax : decide (valF t.data.toList ≤ 2147483647) = false := by simpa using hmax
    have HN : Hid (numOk t.data.toList = false) := aP (by unfold numOk; simp [hmax])
    go_wp2_with fail
    go_quiet (fail)
    go_wp2
    go_ret2
    exact ⟨⟨_, by rw [HN.out] <;> rfl, fun h => by rw [HN.out] at h; cases h⟩, (Kept.refl _ _).drewN _⟩
theorem keyword_any (s : ByteArray) (hs : s.size ≤ 1000000) (w : World) : Calls Tryz.prog 146 #[.string s] w fun e w' => e = .returned (.bool (kwIs s.data.toList)) ∧ Kept noX w w' := by
 cases hk : kwIs s.data.toList with
 | true =>
  have hin : s.data.toList ∈ kwL := by simpa [kwIs] using hk
  clear hk
  go_enter Tryz.func146, Tryz.ntmps146
  go_wp2_with fail
  refine (keywords_any w).mono ?_
  rintro e W1 ⟨rfl, hK, hk1⟩
  have hl := hK.look s (by unfold maxLen; omega)
  rw [if_pos hin] at hl
  clear hin hK
  go_wp2
  go_ret
  exact ⟨rfl, hk1⟩
 | false =>
  have hin : s.data.toList ∉ kwL := by simpa [kwIs] using hk
  clear hk
  go_enter Tryz.func146, Tryz.ntmps146
  go_wp2_with fail
  refine (keywords_any w).mono ?_
  rintro e W1 ⟨rfl, hK, hk1⟩
  have hl := hK.look s (by unfold maxLen; omega)
  rw [if_neg hin] at hl
  clear hin hK
  go_wp2
  go_ret
  exact ⟨rfl, hk1⟩
theorem drop_zero' {s : ByteArray} (hk : 0 < s.size) : s.data.toList.drop 0 = s[0] :: s.data.toList.drop 1 := by
 rw [List.drop_eq_getElem_cons (by simpa using hk)]
 rfl
def nameIs (l : List UInt8) : Bool := match l with
 | [] => false
 | b :: r => decide (r.length + 1 ≤ 16) && letB (b.toNat : Nat) && (b :: r).all (fun b => alnB (b.toNat : Nat)) && !kwIs (b :: r)
theorem nameIs_cons (b : UInt8) (r : List UInt8) : nameIs (b :: r) = (decide (r.length + 1 ≤ 16) && letB (b.toNat : Nat) && (b :: r).all (fun b => alnB (b.toNat : Nat)) && !kwIs (b :: r)) := rfl
theorem runQ_all_iff (q : Int → Bool) : ∀ l : List UInt8, runQ q l = l.length ↔ l.all (fun b => q (b.toNat : Nat)) = true := by
 intro l
 induction l with
 | nil => simp [runQ, runS]
 | cons b l ih =>
  rw [runQ_cons]
  cases h : q (b.toNat : Nat) with
  | true => simp only [if_true, List.length_cons, Nat.add_right_cancel_iff, ih, List.all_cons, h, Bool.true_and]
  | false => simp [h]
theorem name_any (s : ByteArray) (hs : s.size ≤ 9223372036854775807) (w : World) : Calls Tryz.prog 96 #[.string s] w fun e w' => e = .returned (.bool (nameIs s.data.toList)) ∧ Kept noX w w' := by
 have hlen : s.data.toList.length = s.size := by simp
 by_cases h0 : s.size = 0
 ·have hn : s.data.toList = [] := List.eq_nil_of_length_eq_zero kom
  have te : s.toList.isEmpty = true := by rw [ByteArray.toList_eq, hn] <;> rfl
  have HV : Hid (nameIs s.data.toList = false) := aP (by rw [hn] <;> rfl)
  clear hn hlen h0
  go_enter Tryz.func96, Tryz.ntmps96
  go_wp2
  go_ret
  exact ⟨by rw [HV.out] <;> rfl, Kept.refl _ _⟩
 ·have te : s.toList.isEmpty = false := by
   rw [ByteArray.toList_eq, List.isEmpty_eq_false_iff]
   intro h
   rw [h] at hlen
   exact h0 hlen.symm
  have hpos : 0 < s.size := by omega
  have hcons : s.data.toList = s[0] :: s.data.toList.drop 1 := by
   have := drop_zero' hpos
   rwa [List.drop_zero] at this
  have hlr : (s.data.toList.drop 1).length + 1 = s.size := by rw [List.length_drop, hlen]; omega
  by_cases h16 : s.size ≤ 16
  ·replace hs : s.size ≤ 1000000 := by omega
   have d16 : decide ((16 : Int) < (s.size : Int)) = false := by simp; omega
   cases hl : letB (s[0].toNat : Nat) with
   | false =>
    have HC : Hid (∀ W, Calls Tryz.prog 144 #[.int .u8 (s[0].toNat : Nat)] W fun e w' => e = .returned (.bool false) ∧ W = w') := aP (fun W => by rw [← hl]; exact letter_any _ W)
    have HV : Hid (nameIs s.data.toList = false) := aP (by rw [hcons]; simp [nameIs, hl])
    clear hcons hl hlen hlr h0
    go_enter Tryz.func96, Tryz.ntmps96
    go_wp2_with (go_at_call 144; refine (HC.out _).mono ?_; rintro e w' ⟨rfl, rfl⟩)
    go_ret
    exact ⟨by rw [HV.out] <;> rfl, Kept.refl _ _⟩
   | true =>
    have HC : Hid (∀ W, Calls Tryz.prog 144 #[.int .u8 (s[0].toNat : Nat)] W fun e w' => e = .returned (.bool true) ∧ W = w') := aP (fun W => by rw [← hl]; exact letter_any _ W)
    have hr0 : Rdr (w.alloc (.cells #[.int .i64 1, .int .i64 1, .string s, .int .i64 0] 125)) w.heap.size s 0 := Cells.fresh w 125 [.int .i64 1, .int .i64 1, .string s, .int .i64 0]
    have HO := aP (off_aln w.heap.size s hs 0 (Nat.zero_le _) _ hr0)
    have HB := aP (begin_any s w)
    have HKW := aP (fun W => keyword_any s hs W)
    have hv : nameIs s.data.toList = (s.data.toList.all (fun b => alnB (b.toNat : Nat)) && !kwIs s.data.toList) := by
     conv => lhs; rw [hcons]
     rw [nameIs_cons, hl, hlr, decide_eq_true h16, ← hcons]
     simp
    have hq := runQ_all_iff alnB s.data.toList
    rw [hlen] at hq
    by_cases hall : runQ alnB s.data.toList = s.size
    ·have hes : s.extract 0 (0 + runQ alnB (s.data.toList.drop 0)) = s := by
      rw [List.drop_zero, hall, Nat.zero_add]
      apply ByteArray.ext
      rw [ByteArray.data_extract]
      exact Array.extract_size
     have HV : Hid (nameIs s.data.toList = !kwIs s.data.toList) := aP (by rw [hv, hq.1 hall, Bool.true_and])
     have HES := aP hes
     clear hcons hl hlen hlr h0 hv hq hall hes
     go_enter Tryz.func96, Tryz.ntmps96
     go_wp2_with fail
     refine (HC.out _).mono ?_
     rintro e w' ⟨rfl, rfl⟩
     go_wp2_with fail
     refine HB.out.mono ?_
     rintro e w' ⟨rfl, rfl⟩
     go_wp2_with fail
     refine HO.out.mono ?_
     rintro e W1 ⟨rfl, _, hk1⟩
     rw [HES.out]
     have hkw := ((Kept.refl noX w).alloc (.cells #[.int .i64 1, .int .i64 1, .string s, .int .i64 0] 125)).join hk1 (fun i hi hlt => by omega)
     clear hk1
     go_wp2_with fail
     refine (HKW.out _).mono ?_
     rintro e W2 ⟨rfl, hk2⟩
     go_wp2
     go_ret
     exact ⟨by rw [HV.out] <;> rfl, hkw.trans hk2⟩
    ·have hne : ((s.extract 0 (0 + runQ alnB (s.data.toList.drop 0))).toList == s.toList) = false := by
      rw [ByteArray.toList_eq, ByteArray.toList_eq, beq_eq_false_iff_ne]
      intro h
      have h2 := congrArg List.length h
      rw [extract_list, List.drop_zero, List.length_take, hlen] at h2
      have := runQ_le alnB s.data.toList
      omega
     have HV : Hid (nameIs s.data.toList = false) := aP (by
       rw [hv]
       have : s.data.toList.all (fun b => alnB (b.toNat : Nat)) = false := by
         rw [Bool.eq_false_iff]; intro h; exact hall (hq.2 h)
       rw [this, Bool.false_and])
     clear hcons hl hlen hlr h0 hv hq hall
     obtain ⟨x, hx⟩ : ∃ x, x = s.extract 0 (0 + runQ alnB (s.data.toList.drop 0)) := ⟨_, rfl⟩
     rw [← hx] at hne
     have HX := aP hx
     clear hx
     go_enter Tryz.func96, Tryz.ntmps96
     go_wp2_with fail
     refine (HC.out _).mono ?_
     rintro e w' ⟨rfl, rfl⟩
     go_wp2_with fail
     refine HB.out.mono ?_
     rintro e w' ⟨rfl, rfl⟩
     go_wp2_with fail
     refine HO.out.mono ?_
     rintro e W1 ⟨rfl, _, hk1⟩
     rw [← HX.out]
     have hkw := ((Kept.refl noX w).alloc (.cells #[.int .i64 1, .int .i64 1, .string s, .int .i64 0] 125)).join hk1 (fun i hi hlt => by omega)
     clear hk1
     go_wp2
     go_ret
     exact ⟨by rw [HV.out] <;> rfl, hkw⟩
  ·have d16 : decide ((16 : Int) < (s.size : Int)) = true := by simp; omega
   have HV : Hid (nameIs s.data.toList = false) := aP (by
     rw [hcons, nameIs_cons, hlr, decide_eq_false h16]
     simp)
   clear hcons hlen hlr h0
   go_enter Tryz.func96, Tryz.ntmps96
   go_wp2
   go_ret
   exact ⟨by rw [HV.out] <;> rfl, Kept.refl _ _⟩
def argsN (k : Int) : Nat := if k = 6 then 2 else if k = 3 ∨ k = 4 ∨ k = 5 then 1 else 0
def nmB (s : ByteArray) (b : Bool) : Bool := if b then nameIs s.data.toList else decide (s = ⟨#[]⟩)
def numB (n : Int) (b : Bool) : Bool := decide (n = 0) || (b && decide (0 < n) && decide (n ≤ 2147483647))
def opB (o : Int) (b : Bool) : Bool := if b then decide (0 < o) && decide (o ≤ 11) else decide (o = 0)
def mayE : Nat → ET → Bool
 | 0, _ => false
 | d + 1, .node k m s _ _ o l => decide (0 < k) && decide (k ≤ 6) && nmB s (decide (k = 2 ∨ k = 3)) && numB m (decide (k = 1)) && opB o (decide (k = 6)) && decide (l.length = argsN k) && l.all (mayE d)
def opP (o : Int) : ByteArray → Int → Bool := fun _ q => decide (q = o)
def opSign (o : Int) : ByteArray := (rankedP (opP o)).1.1
def opRank (o : Int) : Nat := (rankedP (opP o)).2.1
def exprT : Nat → Nat → ET → ByteArray
 | 0, _, _ => ⟨#[]⟩
 | d + 1, least, .node k m s _ _ o l =>
  if k = 1 then itoaB m
  else if k = 2 then s
  else if k = 3 then (catL [s, ⟨#[91]⟩] ++ exprT d 0 (l.getD 0 zeroT)) ++ catL [⟨#[93]⟩]
  else if k = 4 then ⟨#[45]⟩ ++ exprT d 5 (l.getD 0 zeroT)
  else if k = 5 then ⟨#[33]⟩ ++ exprT d 5 (l.getD 0 zeroT)
  else if opRank o < least then
   (((⟨#[40]⟩ ++ exprT d (leftS (opRank o)) (l.getD 0 zeroT)) ++ catL [⟨#[32]⟩, opSign o, ⟨#[32]⟩]) ++ exprT d (opRank o + 1) (l.getD 1 zeroT)) ++ ⟨#[41]⟩
  else ((exprT d (leftS (opRank o)) (l.getD 0 zeroT)) ++ catL [⟨#[32]⟩, opSign o, ⟨#[32]⟩]) ++ exprT d (opRank o + 1) (l.getD 1 zeroT)
structure PW (w0 : World) (B : Nat) (W : World) (s : ByteArray) : Prop where
 at_ : BAt W B s
 kept : Kept (B ≤ ·) w0 W
 base : w0.heap.size ≤ B
 ops : OpsAt w0
 tab : TabAt w0
section
variable {w0 W W' : World} {B : Nat} {s t : ByteArray}
theorem PW.put (h : PW w0 B W s) (hp : Put B W W') (hb : BAt W' B t) : PW w0 B W' t := ⟨hb, h.kept.trans (hp.below h.at_), h.base, h.ops, h.tab⟩
theorem PW.keep (h : PW w0 B W s) (hk : Kept noX W W') : PW w0 B W' s := ⟨h.at_.keep hk, h.kept.trans hk.any, h.base, h.ops, h.tab⟩
theorem PW.rep {cs : List Value} {d : D} (h : PW w0 B W s) (hr : Rep w0 noX cs d) : Rep W noX cs d :=
 ((hr.mono (Z' := fun g => B ≤ g) (fun g hg hx => by have hx : B ≤ g := hx; have := h.base; omega)).kept h.kept (fun _ _ h => h)).any
theorem PW.opsAt (h : PW w0 B W s) : OpsAt W := by
 obtain ⟨v0, v1, v2, v3, v4, h1, h2⟩ := h.ops
 refine ⟨v0, v1, v2, v3, v4, fun j v hv => ?_, fun i hi => h.rep (h2 i hi)⟩
 have h3 := h1 j v hv
 rw [← h3]
 exact World.cell?_of_block (h.kept.block _ (block_lt_of h3) (fun hX => by have := block_lt_of h3; have hX : B ≤ _ := hX; have := h.base; dsimp only at *; omega))
theorem PW.cell (h : PW w0 B W s) {g o : Nat} {v : Value} (hc : w0.cell? ⟨g, o, none⟩ = some v) : W.cell? ⟨g, o, none⟩ = some v := by
 rw [← hc]
 exact World.cell?_of_block (h.kept.block g (block_lt_of hc) (fun hX => by have := block_lt_of hc; have hX : B ≤ g := hX; have := h.base; omega))
theorem PW.tabAt (h : PW w0 B W s) : TabAt W := h.tab.kept h.kept (fun _ hg => Nat.le_trans h.base hg)
theorem PW.lt (h : PW w0 B W s) : B < W.heap.size := h.at_.lt
end
def Wrote (w0 : World) (B : Nat) (W : World) (s : ByteArray) (e : Ending) (W' : World) : Prop := e = .returned (.tuple #[]) ∧ PW w0 B W' s ∧ Put B W W'
def most : Nat := 70368744177664
def PEC (w0 : World) (B d : Nat) : Prop := ∀ (W : World) (s : ByteArray) (least : Nat) (e : ET) (cs : List Value), PW w0 B W s → EV w0 noX cs e → mayE d e = true → least ≤ 100 → s.size + (exprT d least e).size ≤ most →
 Calls Tryz.prog 53 #[.pointer (some ⟨B, 0, none⟩), .agg cs.toArray, .int .i64 (least : Nat)] W (Wrote w0 B W (s ++ exprT d least e))
theorem PW.lit {w0 W : World} {B : Nat} {s : ByteArray} (h : PW w0 B W s) (ts : List ByteArray) (hlen : s.size + (catL ts).size ≤ most) (hn : ts.length ≤ 1000 := by exact Nat.le_of_ble_eq_true rfl) :
  Calls Tryz.prog 90 #[.pointer (some ⟨B, 0, none⟩), .slice (some ⟨W.heap.size, 0, none⟩) ts.length ts.length] (W.alloc (.cells (ts.map Value.string).toArray 9)) (Wrote w0 B W (s ++ catL ts)) := by
 refine (put_lit ts h.at_ hlen hn).mono ?_
 rintro e W' ⟨rfl, h1, h2⟩
 exact ⟨rfl, h.put h2 h1, h2⟩
def cellT (d : Nat) (s : ByteArray) (e : ET) : ByteArray := (catL [s, ⟨#[91]⟩] ++ exprT d 0 e) ++ catL [⟨#[93]⟩]
theorem cell_step {w0 : World} {B d : Nat} (hE : PEC w0 B d) (W : World) (s t : ByteArray) (e : ET) (cs : List Value) (h : PW w0 B W s) (he : EV w0 noX cs e) (hm : mayE d e = true) (hlen : s.size + (cellT d t e).size ≤ most) :
  Calls Tryz.prog 104 #[.pointer (some ⟨B, 0, none⟩), .string t, .agg cs.toArray] W (Wrote w0 B W (s ++ cellT d t e)) := by
 obtain ⟨k, m, n, sl, lo, o, A, N, C, rfl⟩ := he.form
 have hl : s.size + (catL [t, ⟨#[91]⟩]).size + (exprT d 0 e).size + (catL [(⟨#[93]⟩ : ByteArray)]).size ≤ most := by
  rw [cellT, ByteArray.size_append, ByteArray.size_append] at hlen
  omega
 have hlt := h.lt
 obtain ⟨W0, hW0⟩ : ∃ W0, W0 = W.alloc (.cells #[.int .i64 k, .int .i64 m, .string n, .int .i64 sl, .bool lo, .int .i64 o, .slice A N C] 44) := ⟨_, rfl⟩
 have hk0 : Kept noX W W0 := by rw [hW0]; exact (Kept.refl _ _).alloc _
 have HE0 := aP (show Cells W0 W.heap.size 44 [.int .i64 k, .int .i64 m, .string n, .int .i64 sl, .bool lo, .int .i64 o, .slice A N C] from by rw [hW0]; exact Cells.fresh W 44 [.int .i64 k, .int .i64 m, .string n, .int .i64 sl, .bool lo, .int .i64 o, .slice A N C])
 have z0 : W0.heap.size = W.heap.size + 1 := by rw [hW0]; simp
 have hw0 := h.keep hk0
 have HP1 := aP (hw0.lit [t, ⟨#[91]⟩] kom)
 have HE := aP (fun W (hW : PW w0 B W (s ++ catL [t, ⟨#[91]⟩])) => hE W _ 0 e _ hW he hm (by decide) (by rw [ByteArray.size_append]; omega))
 have HB0 := aP hw0.at_
 have HH := aP h
 have HK0 := aP hk0
 clear he hm hlen h hw0 hk0
 go_enter Tryz.func104, Tryz.ntmps104
 go_wp2_with fail
 rw [← hW0, ← z0]
 have l0 : W.heap.size < W0.heap.size := by omega
 clear hW0 z0
 refine (HP1.out).mono ?_
 rintro e W1 ⟨rfl, hw1, hp1⟩
 have HE1 := aP (hp1.cells HB0.out HE0.out kom (by decide))
 have l1 := HE1.out.lt
 have p0 := HE1.out.cell 0
 have p1 := HE1.out.cell 1
 have p2 := HE1.out.cell 2
 have p3 := HE1.out.cell 3
 have p4 := HE1.out.cell 4
 have p5 := HE1.out.cell 5
 have p6 := HE1.out.cell 6
 have q0 := HE1.out.free 0
 have q1 := HE1.out.free 1
 have q2 := HE1.out.free 2
 have q3 := HE1.out.free 3
 have q4 := HE1.out.free 4
 have q5 := HE1.out.free 5
 have q6 := HE1.out.free 6
 simp only [aZ, aS] at p0 p1 p2 p3 p4 p5 p6
 have HW1 := aP hw1
 clear hw1
 go_wp2_with fail
 refine (HE.out W1 HW1.out).mono ?_
 rintro e W2 ⟨rfl, hw2, hp2⟩
 clear p0 p1 p2 p3 p4 p5 p6 q0 q1 q2 q3 q4 q5 q6
 have HP3 := aP (hw2.lit [⟨#[93]⟩] (by rw [ByteArray.size_append, ByteArray.size_append]; omega))
 have HW2 := aP hw2
 clear hw2
 go_wp2_with fail
 refine (HP3.out).mono ?_
 rintro e W3 ⟨rfl, hw3, hp3⟩
 have HW3 := aP hw3
 clear hw3
 go_wp2
 go_end0
 refine ⟨rfl, ?_, Put.pre HH.out.at_ HK0.out ((hp1.trans hp2 HB0.out).trans hp3 HB0.out)⟩
 have := HW3.out
 unfold cellT
 simpa only [ByteArray.append_assoc] using this
end Go.Proofs.YtjkgepppoopheaaGreatDoor
