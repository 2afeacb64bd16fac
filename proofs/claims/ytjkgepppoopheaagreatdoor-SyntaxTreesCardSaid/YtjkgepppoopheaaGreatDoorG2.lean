/- The project's printer: numerals, bytes 9 (conditions: the text is of at most 2^46 bytes; the library's table of powers of ten stands). -/
import Derived.Test.YtjkgepppoopheaaGreatDoorG1
import Derived.Lib.AppendStr
import Derived.Lib.Builder
import Derived.Lib.UnsafeStr
import Derived.Defers
import Derived.Test.YtjkgepppoopheaaGreatDoorShf
import Derived.Lib.SmallJoins
namespace Go.Proofs.YtjkgepppoopheaaGreatDoor
open Go.RowKit Go.Shelf

section
variable {P : Program} (w : World)
/-- A string's bytes, appended onto a slice of one's own: where the new slice lies. -/
theorem run_append_string_at (base : Nat) (t u ty e : TypeId) (i : TypeInfo) (ht : P.underlying t = some (.slice e)) (hu : P.underlying u = some .string) (hi : P.info? e = some i) (hz : i.zero = some (.int .u8 0))
    (hsize : i.size = 1) (hby : i.bytes = 1) (v : Value) (n : Nat) (xs : List Value) (hown : w.ownsRow base e 1 v n xs) (s : ByteArray) (h63 : n + s.size ≤ maxLen) (hbytes : n + s.size ≤ 140737488355328) (hbase : base ≤ w.heap.size) :
    ∃ v' w', (Builtin.append_ #[t, u] ty #[v, .string s]).run P w = .ok v' w' ∧ w'.ownsRow base e 1 v' (n + s.size) (xs ++ Lib.strCells s) ∧ w.grownBy w' v.ownBlock ∧ (v'.ownBlock = v.ownBlock ∨ ∀ g, v'.ownBlock = some g → w.heap.size ≤ g) := by
  have hxl : xs.length = n := by simpa using hown.1
  obtain ⟨v', w', hr, h1, h2, _⟩ := Lib.run_append_own_string (P := P) w base t u ty e i ht hu hi hz hsize hby v n xs hown s h63 hbytes hbase
  refine ⟨v', w', hr, h1, h2, ?_⟩
  have hown2 := hown
  rcases hown.2 with ⟨rfl, rfl⟩ | ⟨g, cap, cur, rfl, hbg, hg, hnc, hcm, hcs, htake⟩
  · have hx : xs = [] := List.eq_nil_of_length_eq_zero hxl
    subst hx
    obtain ⟨v2, w2, hr2, h3, _⟩ := Lib.run_append_own_string (P := P) w w.heap.size t u ty e i ht hu hi hz hsize hby (.slice none 0 0) 0 [] (World.ownsRow_nil w _ e 1) s h63 hbytes (Nat.le_refl _)
    rw [hr] at hr2
    injection hr2 with hv _
    subst hv
    right
    intro g hg
    rcases h3.2 with ⟨rfl, _⟩ | ⟨g', _, _, rfl, hb, _⟩
    · simp [Value.ownBlock] at hg
    · have : g' = g := by simpa [Value.ownBlock] using hg
      omega
  · by_cases hroom : n + s.size ≤ cap
    · have hcs' : cur.size = cap := by simpa using hcs
      have hr2 := Lib.run_append_room_string (P := P) w t u ty e i ht hu hi hsize g n cap cur hg s hroom (by omega)
      rw [hr] at hr2
      injection hr2 with hv _
      subst hv
      exact .inl rfl
    · have holds : ∀ j u, xs[j]? = some u → w.cell? ((⟨g, 0, none⟩ : Addr).add j) = some u := hown2.cells (g := g) rfl
      have hsmall : n + s.size ≤ 9223372036854775807 := by simp only [maxLen] at h63; omega
      have hr2 := Lib.run_append_grow_string (P := P) w t u ty e i (.int .u8 0) ht hu hi hz ⟨g, 0, none⟩ n cap xs (by rw [hsize]; simpa using hxl) holds s (by omega) (by omega) (by rw [hby]; exact growslice_fits (by omega) (by omega))
      rw [hr] at hr2
      injection hr2 with hv _
      subst hv
      right
      intro g' hg'
      have : w.heap.size = g' := by simpa [Value.ownBlock] using hg'
      omega

theorem wpList_append_string_at {ops : Array Oper} {rest : List Oper} {o : Oper} {a : Act} {Q : Exit → Act → World → Prop} (hgd : o.guard = none) (sl x : Operand) (t u : TypeId)
    (ho : o.op = .call { callee := .builtin .append, args := #[sl, x], argTypes := #[t, u] })
    (base : Nat) (e : TypeId) (i : TypeInfo) (ht : P.underlying t = some (.slice e)) (hu : P.underlying u = some .string) (hi : P.info? e = some i) (hz : i.zero = some (.int .u8 0))
    (hsize : i.size = 1) (hby : i.bytes = 1) (v : Value) (n : Nat) (xs : List Value) (hs : a.eval sl = v) (hown : w.ownsRow base e 1 v n xs) (s : ByteArray) (hx : a.eval x = .string s)
    (h63 : n + s.size ≤ maxLen) (hbytes : n + s.size ≤ 140737488355328) (hbase : base ≤ w.heap.size)
    (h : ∀ v' w', w'.ownsRow base e 1 v' (n + s.size) (xs ++ Lib.strCells s) → w.grownBy w' v.ownBlock → (v'.ownBlock = v.ownBlock ∨ ∀ g, v'.ownBlock = some g → w.heap.size ≤ g) → wpList P ops Q rest (a.put o.dst v') w') : wpList P ops Q (o :: rest) a w := by
  refine wpList_plain hgd fun K hK => ?_
  obtain ⟨v', w', hr, h2, h3, h4⟩ := run_append_string_at (P := P) w base t u o.type e i ht hu hi hz hsize hby v n xs hown s h63 hbytes hbase
  unfold Oper.wp execOp
  simp only [ho, resolve, invoke, builtin, Sem.run_bind, Sem.run_pure, Result.andThen_ok, List.map_toArray, List.map_cons, List.map_nil, hs, hx, hr]
  exact hK _ _ (h v' w' h2 h3 h4)
end

/-- Block B is a printer with that text. -/
def BAt (W : World) (B : Nat) (s : ByteArray) : Prop := ∃ ad v, Cells W B 99 [ad, v] ∧ (ad = .pointer none ∨ ad = .pointer (some ⟨B, 0, none⟩)) ∧ W.ownsRow B 5 1 v s.size (Lib.strCells s)
/-- The block in which its bytes lie, if there is one. -/
def rowB (W : World) (B : Nat) : Option Nat := (W.cell? ⟨B, 1, none⟩).bind Value.ownBlock
/-- Something was written. -/
structure Put (B : Nat) (W W' : World) : Prop where
  kept : Kept (fun k => k = B ∨ rowB W B = some k) W W'
  loc : rowB W' B = rowB W B ∨ ∀ g, rowB W' B = some g → W.heap.size ≤ g

section
variable {W W' W'' : World} {B : Nat} {s t : ByteArray}
theorem BAt.lt (h : BAt W B s) : B < W.heap.size := by
  obtain ⟨ad, v, hc, _⟩ := h
  exact hc.lt
theorem rowB_eq {ad v : Value} (h : Cells W B 99 [ad, v]) : rowB W B = v.ownBlock := by
  unfold rowB
  rw [h.cell 1]
  rfl
theorem BAt.row (h : BAt W B s) {g : Nat} (hg : rowB W B = some g) : B < g ∧ g < W.heap.size ∧ ∀ t cs, Cells W g t cs → t = 5 := by
  obtain ⟨ad, v, hc, _, ho⟩ := h
  rw [rowB_eq hc] at hg
  rcases ho.2 with ⟨rfl, _⟩ | ⟨g', cap, cur, rfl, hb, hgg, _⟩
  · simp [Value.ownBlock] at hg
  · have : g' = g := by simpa [Value.ownBlock] using hg
    subst this
    have hl := (Array.getElem?_eq_some_iff.1 hgg).1
    have hty : ∀ t cs, Cells W g' t cs → t = 5 := fun t cs hh => by
      unfold Cells at hh
      rw [hgg] at hh
      injection hh with hh
      injection hh with _ hh
      exact hh.symm
    refine ⟨?_, hl, hty⟩
    rcases Nat.lt_or_ge B g' with h | h
    · exact h
    · have : g' = B := by omega
      subst this
      exact absurd (hty _ _ hc) (by decide)
theorem BAt.kept {X : Nat → Prop} (h : BAt W B s) (hk : Kept X W W') (hx : ¬ X B) (hr : ∀ g, rowB W B = some g → ¬ X g) : BAt W' B s ∧ rowB W' B = rowB W B := by
  obtain ⟨ad, v, hc, ha, ho⟩ := h
  have hc' := hc.kept hk hx
  refine ⟨⟨ad, v, hc', ha, ?_⟩, by rw [rowB_eq hc, rowB_eq hc']⟩
  rw [rowB_eq hc] at hr
  refine ⟨ho.1, ?_⟩
  rcases ho.2 with hn | ⟨g, cap, cur, rfl, hb, hgg, rest⟩
  · exact .inl hn
  · exact .inr ⟨g, cap, cur, rfl, hb, hk.heap hgg (hr g rfl), rest⟩
theorem BAt.keep (h : BAt W B s) (hk : Kept noX W W') : BAt W' B s := (h.kept hk (fun h => h) (fun _ _ h => h)).1
theorem Put.refl (B : Nat) (W : World) : Put B W W := ⟨Kept.refl _ _, .inl rfl⟩
theorem Put.trans (h : Put B W W') (k : Put B W' W'') (hb : BAt W B s) : Put B W W'' := by
  have hs := h.kept.size
  refine ⟨h.kept.join k.kept (fun i hi hlt => ?_), ?_⟩
  · rcases hi with rfl | hi
    · exact .inl rfl
    · rcases h.loc with h1 | h1
      · exact .inr (h1 ▸ hi)
      · have := h1 i hi; omega
  · rcases k.loc with h1 | h1
    · rw [h1]; exact h.loc
    · right
      intro g hg
      have := h1 g hg
      omega
/-- What is only new ahead of it, or behind it. -/
theorem Put.pre (hb : BAt W B s) (hk : Kept noX W W') (k : Put B W' W'') : Put B W W'' := by
  obtain ⟨hb', hr⟩ := hb.kept hk (fun h => h) (fun _ _ h => h)
  have hs := hk.size
  refine ⟨hk.any.trans (k.kept.mono (fun i _ hi => by rw [hr] at hi; exact hi)), ?_⟩
  rcases k.loc with h1 | h1
  · exact .inl (h1.trans hr)
  · right
    intro g hg
    have := h1 g hg
    omega
theorem Put.post (h : Put B W W') (hb : BAt W' B s) (hk : Kept noX W' W'') : Put B W W'' := by
  obtain ⟨_, hr⟩ := hb.kept hk (fun h => h) (fun _ _ h => h)
  refine ⟨h.kept.trans hk.any, ?_⟩
  rcases h.loc with h1 | h1
  · exact .inl (hr.trans h1)
  · right
    intro g hg
    rw [hr] at hg
    exact h1 g hg
/-- A box of one's own stays. -/
theorem Put.cells {g : Nat} {ty : TypeId} {cs : List Value} (h : Put B W W') (hb : BAt W B s) (hc : Cells W g ty cs) (hne : g ≠ B) (ht : ty ≠ 5) : Cells W' g ty cs :=
  hc.kept h.kept (fun hx => by
    rcases hx with hx | hx
    · exact hne hx
    · exact ht ((hb.row hx).2.2 _ _ hc))
/-- So does what lies ahead of the printer. -/
theorem Put.below (h : Put B W W') (hb : BAt W B s) : Kept (B ≤ ·) W W' := h.kept.mono (fun k _ hk => by
  rcases hk with rfl | hk
  · exact Nat.le_refl _
  · exact Nat.le_of_lt (hb.row hk).1)
end

set_option maxRecDepth 100000 in
set_option maxHeartbeats 1000000 in
theorem copyCheck_calls {W : World} {B : Nat} {ad v : Value} (h : Cells W B 99 [ad, v]) (ha : ad = .pointer none ∨ ad = .pointer (some ⟨B, 0, none⟩)) :
    Calls Tryz.prog 172 #[.pointer (some ⟨B, 0, none⟩)] W fun e W' => e = .returned (.tuple #[]) ∧ Cells W' B 99 [.pointer (some ⟨B, 0, none⟩), v] ∧ Kept (· = B) W W' := by
  have c0 := h.cell 0; have f0 := h.free 0
  simp only [List.getElem?_cons_zero] at c0
  rcases ha with rfl | rfl
  · have hsh : W.shape? B = some (99, 2) := by
      have h' := h
      unfold Cells at h'
      simp [World.shape?, h']
    have hto : (convert 95 226 (.pointer (some ⟨B, 0, none⟩))).run Tryz.prog W = .ok (.pointer (some ⟨B, 0, none⟩)) W := by
      obtain ⟨j, hj, hjs⟩ := Option.map_eq_some_iff.1 (show (Tryz.prog.info? 97).map (·.size) = some 2 from by kernel_rfl)
      exact Lib.run_to_unsafe W ⟨B, 0, none⟩ Tryz.underlying95 Tryz.underlying226 hj (by rw [hjs]; decide) hsh (show 0 < 2 from by decide)
    have hno : (callFunc 190 #[.pointer (some ⟨B, 0, none⟩)]).run Tryz.prog W = .ok (.value (.pointer (some ⟨B, 0, none⟩))) W := by
      rw [run_callFunc_extern Tryz.func190 (by kernel_rfl) (by kernel_rfl) (by kernel_rfl) (e := Extern.AbiNoEscape.same) (by kernel_rfl), Lib.run_noEscape]
      rfl
    have hfrom : (convert 226 95 (.pointer (some ⟨B, 0, none⟩))).run Tryz.prog W = .ok (.pointer (some ⟨B, 0, none⟩)) W := by
      obtain ⟨j, hj, hjs⟩ := Option.map_eq_some_iff.1 (show (Tryz.prog.info? 97).map (·.size) = some 2 from by kernel_rfl)
      exact Lib.run_from_unsafe W ⟨B, 0, none⟩ Tryz.underlying226 Tryz.underlying95 hj hsh (by kernel_rfl)
    have HH := Lib.hid h
    clear h hsh
    go_enter Tryz.func172, Tryz.ntmps172
    go_wp2
    go_end0
    exact ⟨rfl, HH.out.put 0 _, (Kept.refl _ _).setCell (fun _ => by rfl) _⟩
  · have HH := Lib.hid h
    have hneq : (binOp .neq 95 (.pointer (some ⟨B, 0, none⟩)) (.pointer (some ⟨B, 0, none⟩))).run Tryz.prog W = .ok (.bool false) W := by
      obtain ⟨j, hj, _⟩ := Option.map_eq_some_iff.1 (show (Tryz.prog.info? 97).map (·.size) = some 2 from by kernel_rfl)
      exact Lib.run_neq_ptr_same W _ Tryz.underlying95 hj
    clear h
    go_enter Tryz.func172, Tryz.ntmps172
    go_wp2
    go_end0
    exact ⟨rfl, HH.out, Kept.refl _ _⟩

theorem own_form {W : World} {base : Nat} {e : TypeId} {size : Nat} {v : Value} {n : Nat} {xs : List Value} (h : W.ownsRow base e size v n xs) : ∃ ao n' cap, v = .slice ao n' cap := by
  rcases h.2 with ⟨hv, _⟩ | ⟨g, cap, cur, hv, _⟩
  · exact ⟨_, _, _, hv⟩
  · exact ⟨_, _, _, hv⟩
theorem strCells_append (s t : ByteArray) : Lib.strCells (s ++ t) = Lib.strCells s ++ Lib.strCells t := by
  simp [Lib.strCells]

set_option maxRecDepth 100000 in
set_option maxHeartbeats 1000000 in
theorem write_calls {W : World} {B : Nat} {s : ByteArray} (t : ByteArray) (h : BAt W B s) (hlen : s.size + t.size ≤ 70368744177664) :
    Calls Tryz.prog 139 #[.pointer (some ⟨B, 0, none⟩), .string t] W fun e W' => e = .returned (.tuple #[.int .i64 (t.size : Nat), .nilIface]) ∧ BAt W' B (s ++ t) ∧ Put B W W' := by
  have hb := h
  obtain ⟨ad, v, hc, ha, ho⟩ := h
  have HC := Lib.hid (copyCheck_calls hc ha)
  have HB := Lib.hid hb
  have HO := Lib.hid ho
  have hlt := hc.lt
  have hrow := rowB_eq hc
  have hne : v.ownBlock ≠ some B := fun he => by have := (hb.row (hrow.trans he)).1; omega
  have HROW := Lib.hid hrow
  have HNE := Lib.hid hne
  obtain ⟨i0, hi, hz0, hz1, hz2⟩ := (show ∃ i, Tryz.prog.info? 5 = some i ∧ i.zero = some (.int .u8 0) ∧ i.size = 1 ∧ i.bytes = 1 from by
    have h5 : (Tryz.prog.info? 5).map (fun i => (i.zero, i.size, i.bytes)) = some (some (.int .u8 0), 1, 1) := by kernel_rfl
    obtain ⟨i, h1, h2⟩ := Option.map_eq_some_iff.1 h5
    injection h2 with h2 h3
    injection h3 with h3 h4
    exact ⟨i, h1, h2, h3, h4⟩)
  clear hb hc ha ho hrow hne
  go_enter Tryz.func139, Tryz.ntmps139
  go_wp2_with (first
    | (go_at_call 172; refine HC.out.mono ?_; rintro e W1 ⟨rfl, hc1, hk1⟩; (have k0 := hc1.cell 1); (have k1 := hc1.free 1); simp only [List.getElem?_cons_zero, List.getElem?_cons_succ] at k0; (have HC1 := Lib.hid hc1); (have HO1 := Lib.hid (own_kept HO.out hk1 (fun g hg h => HNE.out (by rw [hg, h])))); (have hs1 := hk1.size); clear hc1)
    | (at_builtin; refine wpList_append_string_at _ rfl _ _ 67 9 rfl B 5 i0 Tryz.underlying67 Tryz.underlying9 hi hz0 hz1 hz2 v s.size (Lib.strCells s) rfl HO1.out t rfl (by unfold maxLen; omega) (by omega) (by omega) ?_; intro v' W2 hown' hgrow hloc; obtain ⟨ao, n', cap, rfl⟩ := own_form hown'; (have hk2 : Kept (fun k => v.ownBlock = some k) W1 W2 := (Kept.refl _ _).grown hgrow (fun k hk _ => hk)); (have hB2 := Lib.hid (HC1.out.kept hk2 (fun h => HNE.out h))); (have HW2 := Lib.hid hown'); (have HL2 := Lib.hid hloc); clear hown' hgrow hloc k0 k1)
    | ((with_reducible show wpList _ _ _ (Oper.mk none (Op.store _ _ _) _ _ _ _ :: _) _ _); (refine wpList_store_part rfl rfl 67 (.tmp 16) (.tmp 14) rfl (B) 1 rfl [.slice ao n' cap] rfl hB2.out (Nat.le_of_ble_eq_true rfl) (by kernel_rfl) (by simp [Value.oneCell']) ?_; intro W3 hB3 hk3; replace hB3 : Cells W3 (B) 99 [.pointer (some ⟨B, 0, none⟩), .slice ao n' cap] := (by simpa using hB3); have HB3 := Lib.hid hB3; clear hB3)))
  go_ret2
  have hs2 := hk2.size
  have hk02 : Kept (fun k => k = B ∨ rowB W B = some k) W W2 := (hk1.mono (fun k _ h => .inl h)).trans (hk2.mono (fun k _ h => .inr (HROW.out.trans h)))
  have hrow2 : W3.ownsRow B 5 1 (.slice ao n' cap) (s.size + t.size) (Lib.strCells s ++ Lib.strCells t) := own_kept HW2.out hk3 (fun g hg h => by
    have h : g = B := h
    rcases HL2.out with h2 | h2
    · exact HNE.out (by rw [← h2, hg, h])
    · have := h2 g hg; omega)
  have hsz : (s ++ t).size = s.size + t.size := by simp
  refine ⟨rfl, ⟨_, _, HB3.out, .inr rfl, by rw [hsz, strCells_append]; exact hrow2⟩, ⟨hk02.trans (hk3.mono (fun k _ h => .inl h)), ?_⟩⟩
  rw [rowB_eq HB3.out, HROW.out]
  rcases HL2.out with h2 | h2
  · exact .inl h2
  · right
    intro g hg
    have := h2 g hg
    omega
end Go.Proofs.YtjkgepppoopheaaGreatDoor

namespace Go.Proofs.YtjkgepppoopheaaGreatDoor
open Go.RowKit Go.Shelf

theorem ba_an (s : ByteArray) : s ++ (⟨#[]⟩ : ByteArray) = s := ByteArray.append_empty
theorem ba_na (s : ByteArray) : (⟨#[]⟩ : ByteArray) ++ s = s := ByteArray.empty_append

def catL : List ByteArray → ByteArray
  | [] => ⟨#[]⟩
  | a :: l => a ++ catL l
theorem catL_append (l m : List ByteArray) : catL (l ++ m) = catL l ++ catL m := by
  induction l with
  | nil => simp [catL, ba_na]
  | cons a l ih => simp [catL, ih, ByteArray.append_assoc]
theorem catL_take {l : List ByteArray} {k : Nat} (hk : k < l.length) : catL (l.take (k + 1)) = catL (l.take k) ++ l[k] := by
  rw [List.take_succ_eq_append_getElem hk, catL_append]
  simp [catL, ba_an]
theorem catL_take_le (l : List ByteArray) (k : Nat) : (catL (l.take k)).size ≤ (catL l).size := by
  have h := catL_append (l.take k) (l.drop k)
  rw [List.take_append_drop] at h
  rw [h]
  simp

set_option maxRecDepth 100000 in
set_option maxHeartbeats 1000000 in
theorem put_calls {W : World} {B : Nat} {s : ByteArray} (h : BAt W B s) {g : Nat} {ts : List ByteArray} (hg : Cells W g 9 (ts.map .string)) (hne : g ≠ B) (hlen : s.size + (catL ts).size ≤ 70368744177664) (hn : ts.length ≤ 1000) :
    Calls Tryz.prog 90 #[.pointer (some ⟨B, 0, none⟩), .slice (some ⟨g, 0, none⟩) ts.length ts.length] W fun e W' => e = .returned (.tuple #[]) ∧ BAt W' B (s ++ catL ts) ∧ Put B W W' := by
  have HB := Lib.hid h
  have HG := Lib.hid hg
  clear h hg
  go_enter Tryz.func90, Tryz.ntmps90
  go_wp2
  go_loopw [8] (fun i wr => ∃ k : Nat, k ≤ ts.length ∧ i = .int .i64 k ∧ BAt wr B (s ++ catL (ts.take k)) ∧ Put B W wr ∧ Cells wr g 9 (ts.map .string)) (fun i _ => ts.length - (intOf i).toNat)
  case atStart => exact ⟨0, Nat.zero_le _, rfl, by simpa [catL, ba_an] using HB.out, Put.refl _ _, HG.out⟩
  case round =>
    obtain ⟨k, hk, rfl, hb, hp, hgr⟩ := hrel
    by_cases hlt : k < ts.length
    · have hdl : decide ((k : Int) < (ts.length : Int)) = true := by simpa using hlt
      have c := hgr.cell k
      rw [List.getElem?_map, List.getElem?_eq_getElem hlt] at c
      simp only [Option.map_some] at c
      have hl1 := catL_take hlt
      have hl2 := catL_take_le ts (k + 1)
      have HW := Lib.hid (write_calls ts[k] hb (by rw [hl1] at hl2; simp at hl2; simp; omega))
      have HL1 := Lib.hid hl1
      have HP := Lib.hid hp
      have HBr := Lib.hid hb
      have HGR := Lib.hid hgr
      clear hb hp hgr hl1 hl2
      go_wp2_with fail
      refine HW.out.mono ?_
      rintro e W1 ⟨rfl, hb1, hp1⟩
      rw [ByteArray.append_assoc, ← HL1.out] at hb1
      have HB1 := Lib.hid hb1
      have HP1 := Lib.hid hp1
      clear hb1 hp1
      go_wp2
      go_roundw
      case rel => exact ⟨k + 1, by omega, by go_num, HB1.out, HP.out.trans HP1.out HB.out, HP1.out.cells HBr.out HGR.out hne (by decide)⟩
      case measure => simp [intOf]; omega
    · have hdl : decide ((k : Int) < (ts.length : Int)) = false := by simpa using hlt
      have hk2 : k = ts.length := by omega
      have HBr := Lib.hid hb
      have HP := Lib.hid hp
      clear hb hp
      go_wp2
      go_end0
      refine ⟨rfl, ?_, HP.out⟩
      have := HBr.out
      rw [hk2, List.take_length] at this
      exact this

set_option maxRecDepth 100000 in
set_option maxHeartbeats 1000000 in
theorem put_deferred {W : World} {B : Nat} {s : ByteArray} (h : BAt W B s) {g : Nat} {ts : List ByteArray} (hg : Cells W g 9 (ts.map .string)) (hne : g ≠ B) (hlen : s.size + (catL ts).size ≤ 70368744177664) (hn : ts.length ≤ 1000) (u : FrameMode) :
    CallsD Tryz.prog 90 #[.pointer (some ⟨B, 0, none⟩), .slice (some ⟨g, 0, none⟩) ts.length ts.length] u W fun e u' W' => u' = u ∧ e = .returned (.tuple #[]) ∧ BAt W' B (s ++ catL ts) ∧ Put B W W' := by
  have HB := Lib.hid h
  have HG := Lib.hid hg
  clear h hg
  go_enter_d Tryz.func90, Tryz.ntmps90
  go_wp2
  go_loopw [8] (fun i wr => ∃ k : Nat, k ≤ ts.length ∧ i = .int .i64 k ∧ BAt wr B (s ++ catL (ts.take k)) ∧ Put B W wr ∧ Cells wr g 9 (ts.map .string)) (fun i _ => ts.length - (intOf i).toNat)
  case atStart => exact ⟨0, Nat.zero_le _, rfl, by simpa [catL, ba_an] using HB.out, Put.refl _ _, HG.out⟩
  case round =>
    obtain ⟨k, hk, rfl, hb, hp, hgr⟩ := hrel
    by_cases hlt : k < ts.length
    · have hdl : decide ((k : Int) < (ts.length : Int)) = true := by simpa using hlt
      have c := hgr.cell k
      rw [List.getElem?_map, List.getElem?_eq_getElem hlt] at c
      simp only [Option.map_some] at c
      have hl1 := catL_take hlt
      have hl2 := catL_take_le ts (k + 1)
      have HW := Lib.hid (write_calls ts[k] hb (by rw [hl1] at hl2; simp at hl2; simp; omega))
      have HL1 := Lib.hid hl1
      have HP := Lib.hid hp
      have HBr := Lib.hid hb
      have HGR := Lib.hid hgr
      clear hb hp hgr hl1 hl2
      go_wp2_with fail
      refine HW.out.mono ?_
      rintro e W1 ⟨rfl, hb1, hp1⟩
      rw [ByteArray.append_assoc, ← HL1.out] at hb1
      have HB1 := Lib.hid hb1
      have HP1 := Lib.hid hp1
      clear hb1 hp1
      go_wp2
      go_roundw
      case rel => exact ⟨k + 1, by omega, by go_num, HB1.out, HP.out.trans HP1.out HB.out, HP1.out.cells HBr.out HGR.out hne (by decide)⟩
      case measure => simp [intOf]; omega
    · have hdl : decide ((k : Int) < (ts.length : Int)) = false := by simpa using hlt
      have hk2 : k = ts.length := by omega
      have HBr := Lib.hid hb
      have HP := Lib.hid hp
      clear hb hp
      go_wp2
      go_end0
      refine ⟨rfl, ?_, HP.out⟩
      have := HBr.out
      rw [hk2, List.take_length] at this
      exact this
end Go.Proofs.YtjkgepppoopheaaGreatDoor

namespace Go.Proofs.YtjkgepppoopheaaGreatDoor
open Go.RowKit Go.Shelf

/-- The library's table of powers of ten stands in its variable. -/
def TabAt (W : World) : Prop := Lib.TabIs Tryz.prog W "internal/strconv.uint64pow10" .u64 Lib.pow10Tab
theorem TabAt.kept {X : Nat → Prop} {W W' : World} (h : TabAt W) (hk : Kept X W W') (hx : ∀ g, X g → W.heap.size ≤ g) : TabAt W' :=
  Go.Joins.tab_stays (g := 4) (by kernel_rfl) h (hk.below (Nat.le_refl _) hx) (Nat.le_refl _)

def itoaB (n : Int) : ByteArray := ⟨(Lib.itoa n).toArray⟩
def tabsB (n : Nat) : ByteArray := ⟨(List.replicate n 9).toArray⟩
theorem repeat_tabs (n : Nat) : Lib.repeatL [9] n = List.replicate n 9 := by
  induction n with
  | zero => rfl
  | succ n ih => rw [Lib.repeatL, ih]; rfl
@[simp] theorem tabsB_size (n : Nat) : (tabsB n).size = n := by simp [tabsB, ByteArray.size]

theorem fmt_calls {W : World} (n : Int) (h0 : -9223372036854775808 ≤ n) (h1 : n ≤ 9223372036854775807) (hT : TabAt W) :
    Calls Tryz.prog 50 #[.int .i64 n, .int .i64 10] W fun e W' => e = .returned (.string (itoaB n)) ∧ Kept noX W W' := by
  refine (Tryz.strconv_FormatInt_10 n h0 h1 W hT).mono ?_
  rintro e W' ⟨rfl, k, os, rfl⟩
  refine ⟨rfl, ⟨rfl, rfl, rfl, ?_, fun i hi _ => ?_⟩⟩
  · show W.heap.size ≤ (W.heap ++ os).size
    simp
  · show (W.heap ++ os)[i]? = W.heap[i]?
    rw [Array.getElem?_append_left hi]

theorem rep_calls {W : World} (n : Nat) (hn : n ≤ 1000000) :
    Calls Tryz.prog 173 #[.string ⟨#[9]⟩, .int .i64 (n : Nat)] W fun e W' => e = .returned (.string (tabsB n)) ∧ Kept noX W W' := by
  refine (Tryz.strings_Repeat ⟨#[9]⟩ n W (by omega) (by rw [show (⟨#[9]⟩ : ByteArray).size = 1 from rfl]; omega)).mono ?_
  rintro e W' ⟨rfl, hb⟩
  refine ⟨?_, Kept.of_below hb (fun k h1 h2 => by omega)⟩
  have : (⟨#[9]⟩ : ByteArray).data.toList = [9] := rfl
  rw [this, repeat_tabs]
  rfl

/-- Parts, laid in a block of their own, and written. -/
theorem put_lit {W : World} {B : Nat} {s : ByteArray} (ts : List ByteArray) (h : BAt W B s) (hlen : s.size + (catL ts).size ≤ 70368744177664) (hn : ts.length ≤ 1000) :
    Calls Tryz.prog 90 #[.pointer (some ⟨B, 0, none⟩), .slice (some ⟨W.heap.size, 0, none⟩) ts.length ts.length] (W.alloc (.cells (ts.map Value.string).toArray 9)) fun e W' => e = .returned (.tuple #[]) ∧ BAt W' B (s ++ catL ts) ∧ Put B W W' := by
  have hk : Kept noX W (W.alloc (.cells (ts.map Value.string).toArray 9)) := (Kept.refl _ _).alloc _
  refine (put_calls (h.keep hk) (Cells.fresh W 9 (ts.map .string)) (by have := h.lt; omega) hlen hn).mono ?_
  rintro e W' ⟨rfl, h1, h2⟩
  exact ⟨rfl, h1, Put.pre h hk h2⟩

set_option maxRecDepth 100000 in
set_option maxHeartbeats 1000000 in
theorem tabs_calls {W : World} {B : Nat} {s : ByteArray} (n : Nat) (hn : n ≤ 1000000) (h : BAt W B s) (hlen : s.size + n ≤ 70368744177664) :
    Calls Tryz.prog 140 #[.pointer (some ⟨B, 0, none⟩), .int .i64 (n : Nat)] W fun e W' => e = .returned (.tuple #[]) ∧ BAt W' B (s ++ tabsB n) ∧ Put B W W' := by
  have HR := Lib.hid (rep_calls (W := W) n hn)
  have HB := Lib.hid h
  clear h
  go_enter Tryz.func140, Tryz.ntmps140
  go_wp2_with fail
  refine HR.out.mono ?_
  rintro e W1 ⟨rfl, hk1⟩
  have HP := Lib.hid (put_lit [tabsB n] (HB.out.keep hk1) (by simp [catL, ba_an]; omega) (Nat.le_of_ble_eq_true rfl))
  have hl := HB.out.lt
  have hs := hk1.size
  go_wp2_with fail
  refine HP.out.mono ?_
  rintro e W2 ⟨rfl, hb2, hp2⟩
  have HB2 := Lib.hid hb2
  clear hb2
  go_wp2
  go_end0
  refine ⟨rfl, ?_, Put.pre HB.out hk1 hp2⟩
  have := HB2.out
  simpa [catL, ba_an] using this
end Go.Proofs.YtjkgepppoopheaaGreatDoor
