/- Steps of a walk over structs in blocks of one's own: loaded, stored, as a whole or a part (conditions: none; it is of no program). -/
import Derived.Test.YtehcfahfbdphpaaDataS
namespace Go.Proofs.Ytehcfahfbdphpaa
open Go.RowKit Go.Shelf

section
variable {P : Program}

/-- A struct's or an array's type. -/
def aggB : TypeDesc → Bool
  | .struct _ | .array _ _ => true
  | _ => false

theorem run_loadVar_part (w : World) (g o : Nat) (ty : TypeId) (cs : List Value) (d : TypeDesc) (hc : ∀ j v, cs[j]? = some v → w.cell? ⟨g, o + j, none⟩ = some v)
    (hu : P.underlying ty = some d) (hd : aggB d = true) (hi : (P.info? ty).map (·.size) = some cs.length) :
    (loadVar ty ⟨g, o, none⟩).run P w = .ok (.agg cs.toArray) w := by
  have hl : (loadCells ⟨g, o, none⟩ cs.length).run P w = .ok cs.toArray w :=
    run_loadCells_list (P := P) w ⟨g, o, none⟩ cs (fun j v hv => by
      have hadd : (⟨g, o, none⟩ : Addr).add j = ⟨g, o + j, none⟩ := by unfold Addr.add; split <;> simp_all
      rw [hadd]; exact hc j v hv)
  cases hq : P.info? ty with
  | none => simp [hq] at hi
  | some i =>
    have hs : i.size = cs.length := by simpa [hq] using hi
    have hagg : (isAgg ty).run P w = .ok true w := by
      unfold isAgg
      rw [Sem.run_bind, run_underlying hu w]
      cases d <;> simp_all [aggB]
    simp [loadVar, Sem.run_bind, hagg, sizeOf, typeInfo, hq, hs, hl]

theorem wpList_load_part {ops : Array Oper} {rest : List Oper} {o : Oper} {a : Act} {w : World} {Q : Exit → Act → World → Prop} (hgd : o.guard = none) (ty : TypeId) (x : Operand) (ho : o.op = .load ty x)
    (g off : Nat) (hx : a.eval x = .pointer (some ⟨g, off, none⟩)) (d : TypeDesc) (hu : P.underlying ty = some d) (hd : aggB d = true)
    (cs : List Value) (hi : (P.info? ty).map (·.size) = some cs.length) (hc : ∀ j v, cs[j]? = some v → w.cell? ⟨g, off + j, none⟩ = some v)
    (h : wpList P ops Q rest (a.put o.dst (.agg cs.toArray)) w) : wpList P ops Q (o :: rest) a w :=
  wpList_plain hgd fun _ hK => by
    unfold Oper.wp execOp
    simp only [ho, hx, Instr.loadAt, Instr.sureAddr, Sem.run_bind, Sem.run_pure, Result.andThen_ok, run_loadVar_part w g off ty cs d hc hu hd hi]
    exact hK _ _ h

theorem Cells.all {w : World} {g : Nat} {t : TypeId} {cs : List Value} (h : Cells w g t cs) : ∀ j v, cs[j]? = some v → w.cell? ⟨g, 0 + j, none⟩ = some v := fun j v hv => by rw [Nat.zero_add, h.cell j]; exact hv
theorem Cells.part {w : World} {g : Nat} {t : TypeId} {cs : List Value} (h : Cells w g t cs) (o n : Nat) : ∀ j v, ((cs.drop o).take n)[j]? = some v → w.cell? ⟨g, o + j, none⟩ = some v := fun j v hv => by
  rw [h.cell (o + j)]
  rw [List.getElem?_take] at hv
  split at hv
  · rwa [List.getElem?_drop] at hv
  · simp at hv

/-- A whole struct, loaded. -/
theorem wpList_load_cells {ops : Array Oper} {rest : List Oper} {o : Oper} {a : Act} {w : World} {Q : Exit → Act → World → Prop} (hgd : o.guard = none) (ty : TypeId) (x : Operand) (ho : o.op = .load ty x)
    (g : Nat) (hx : a.eval x = .pointer (some ⟨g, 0, none⟩)) (d : TypeDesc) (hu : P.underlying ty = some d) (hd : aggB d = true)
    {t : TypeId} {cs : List Value} (hc : Cells w g t cs) (hi : (P.info? ty).map (·.size) = some cs.length)
    (h : wpList P ops Q rest (a.put o.dst (.agg cs.toArray)) w) : wpList P ops Q (o :: rest) a w :=
  wpList_load_part hgd ty x ho g 0 hx d hu hd cs hi hc.all h

/-- A struct, stored into a block of one's own: as a whole, or a part of it. -/
theorem wp_store_part {o : Oper} {a : Act} {w : World} {K : Act → World → Prop} {Q : Exit → Act → World → Prop} (hds : o.dst = none) (ty : TypeId) (x y : Operand) (ho : o.op = .store ty x y)
    (g off : Nat) (hx : a.eval x = .pointer (some ⟨g, off, none⟩)) (cs : List Value) (hy : (a.eval y).cells = cs.toArray)
    {t : TypeId} {old : List Value} (hc : Cells w g t old) (hfit : off + cs.length ≤ old.length) (hi : (P.info? ty).map (·.size) = some cs.length) (h1 : ∀ u ∈ cs, u.oneCell' = true)
    (h : ∀ W', Cells W' g t (old.take off ++ cs ++ old.drop (off + cs.length)) → Kept (· = g) w W' → K a W') : o.wp P a w K Q := by
  have hr := run_storeCells_at (P := P) g off t cs 0 old.toArray w hc (by simpa using hfit) h1
  cases hq : P.info? ty with
  | none => simp [hq] at hi
  | some i =>
    have hs : i.size = cs.length := by simpa [hq] using hi
    unfold Oper.wp execOp
    have hr' : (storeCells ⟨g, off, none⟩ cs 0).run P w = .ok () (w.setRow g (old.take off ++ cs ++ old.drop (off + cs.length)).toArray) := by simpa using hr
    have hr2 : (Instr.storeAt ty (a.eval x) (a.eval y)).run P w = .ok () (w.setRow g (old.take off ++ cs ++ old.drop (off + cs.length)).toArray) := by
      simp [Instr.storeAt, hx, Instr.sureAddr, Sem.run_bind, storeVar, sizeOf, typeInfo, hq, hs, hy]
      simpa using hr'
    simp only [ho, hr2, Sem.run_bind, Sem.run_pure, Result.andThen_ok]
    have e : a.put o.dst undef = a := by rw [hds]; rfl
    rw [Oper.upon_skip, e]
    refine h _ ?_ ?_
    · exact setRow_heap w g _ _ t _ hc
    · exact ⟨rfl, rfl, rfl, by simp, fun k _ hk => setRow_other w g k _ hk⟩
theorem wpList_store_part {ops : Array Oper} {rest : List Oper} {o : Oper} {a : Act} {w : World} {Q : Exit → Act → World → Prop} (hgd : o.guard = none) (hds : o.dst = none) (ty : TypeId) (x y : Operand) (ho : o.op = .store ty x y)
    (g off : Nat) (hx : a.eval x = .pointer (some ⟨g, off, none⟩)) (cs : List Value) (hy : (a.eval y).cells = cs.toArray)
    {t : TypeId} {old : List Value} (hc : Cells w g t old) (hfit : off + cs.length ≤ old.length) (hi : (P.info? ty).map (·.size) = some cs.length) (h1 : ∀ u ∈ cs, u.oneCell' = true)
    (h : ∀ W', Cells W' g t (old.take off ++ cs ++ old.drop (off + cs.length)) → Kept (· = g) w W' → wpList P ops Q rest a W') : wpList P ops Q (o :: rest) a w :=
  wpList_plain hgd fun _ hK => wp_store_part hds ty x y ho g off hx cs hy hc hfit hi h1 (fun W' h2 h3 => hK _ _ (h W' h2 h3))

/-- Cells stored one by one. -/
def putL (W : World) (B : Nat) : Nat → List Value → World
  | _, [] => W
  | o, v :: vs => putL (W.setCell ⟨B, o, none⟩ v) B (o + 1) vs
theorem putL_is {B : Nat} {t : TypeId} : ∀ (cs : List Value) (W : World) (o : Nat) (old : List Value), Cells W B t old → o + cs.length ≤ old.length →
    Cells (putL W B o cs) B t (old.take o ++ cs ++ old.drop (o + cs.length)) ∧ Kept (· = B) W (putL W B o cs) := by
  intro cs
  induction cs with
  | nil => intro W o old h _; exact ⟨by simpa [putL] using h, Kept.refl _ _⟩
  | cons v vs ih =>
    intro W o old h hl
    simp only [List.length_cons] at hl
    obtain ⟨h1, h2⟩ := ih (W.setCell ⟨B, o, none⟩ v) (o + 1) (old.set o v) (h.put o v) (by simp; omega)
    refine ⟨?_, Kept.trans ((Kept.refl (· = B) W).setCell (fun _ => by rfl) v) h2⟩
    have e : (old.set o v).take (o + 1) ++ vs ++ (old.set o v).drop (o + 1 + vs.length) = old.take o ++ v :: vs ++ old.drop (o + (vs.length + 1)) := by
      have ho : o < old.length := by omega
      rw [List.drop_set_of_lt (by omega), List.take_succ_eq_append_getElem (by simpa using ho), List.take_set_of_le (Nat.le_refl _), List.getElem_set_self]
      have : o + 1 + vs.length = o + (vs.length + 1) := by omega
      rw [this]; simp
    rw [e] at h1
    exact h1
/-- All cells of a block, stored one by one. -/
theorem putL_all {B : Nat} {t : TypeId} (cs : List Value) {W : World} {old : List Value} (h : Cells W B t old) (hl : cs.length = old.length) : Cells (putL W B 0 cs) B t cs ∧ Kept (· = B) W (putL W B 0 cs) := by
  have := putL_is cs W 0 old h (by omega)
  have e : old.drop (0 + cs.length) = [] := List.drop_eq_nil_of_le (by omega)
  rw [e, List.take_zero, List.nil_append, List.append_nil] at this
  exact this

theorem putL_size (B : Nat) : ∀ (cs : List Value) (W : World) (o : Nat), (putL W B o cs).heap.size = W.heap.size
  | [], _, _ => rfl
  | v :: vs, W, o => by rw [putL, putL_size B vs]; simp

/-- A result that lies in a block of its own. -/
theorem ret_box {fn : Func} {p : Tmp} {ty : TypeId} (h : fn.results = #[.cell p ty]) {a : Act} {W : World} {B : Nat} {t : TypeId} {cs : List Value} {R : Ending → World → Prop} {d : TypeDesc}
    (hp : a.tmps.getD p undef = .pointer (some ⟨B, 0, none⟩)) (hc : Cells W B t cs) (hu : P.underlying ty = some d) (hd : aggB d = true) (hi : (P.info? ty).map (·.size) = some cs.length)
    (hf : a.defers = []) (hR : R (.returned (.agg cs.toArray)) W) : bodyPost P fn R .ret a W :=
  bodyPost_ret (results_cell_row h _ _ B t cs.toArray (0, 0) d hp hc hu (by cases d <;> simp_all [aggB]) (by simpa using hi)) hf hR

/-- What a result is read as. -/
def resRead (tmps : Array Value) : ResultVar → Sem Value
  | .tmp t => pure (tmps.getD t undef)
  | .cell a t => do loadVar t (← asAddr (tmps.getD a undef))
def resVal (P : Program) (W : World) (tmps : Array Value) (r : ResultVar) (v : Value) : Prop := (resRead tmps r).run P W = .ok v W
theorem resVal.tmp {W : World} {tmps : Array Value} {t : Tmp} {v : Value} (h : tmps.getD t undef = v) : resVal P W tmps (.tmp t) v := by
  unfold resVal resRead; simp only [Sem.run_pure, h]
theorem resVal.box {W : World} {tmps : Array Value} {p : Tmp} {ty : TypeId} {B : Nat} {t : TypeId} {cs : List Value} {d : TypeDesc} (hp : tmps.getD p undef = .pointer (some ⟨B, 0, none⟩)) (hc : Cells W B t cs) (hu : P.underlying ty = some d) (hd : aggB d = true)
    (hi : (P.info? ty).map (·.size) = some cs.length) : resVal P W tmps (.cell p ty) (.agg cs.toArray) := by
  unfold resVal resRead
  simp only [hp, asAddr, Sem.run_bind, Sem.run_pure, Result.andThen_ok]
  exact run_loadVar_row W B t ty cs.toArray (0, 0) d hc hu (by cases d <;> simp_all [aggB]) (by simpa using hi)
theorem resVal.cell {W : World} {tmps : Array Value} {p : Tmp} {ty : TypeId} {B : Nat} {v : Value} {d : TypeDesc} (hp : tmps.getD p undef = .pointer (some ⟨B, 0, none⟩)) (hc : W.cell? ⟨B, 0, none⟩ = some v) (hu : P.underlying ty = some d) (hd : aggB d = false) : resVal P W tmps (.cell p ty) v := by
  have hagg : (isAgg ty).run P W = .ok false W := by
    unfold isAgg
    rw [Sem.run_bind, run_underlying hu W]
    cases d <;> simp_all [aggB]
  unfold resVal resRead
  simp only [hp, asAddr, Sem.run_bind, Sem.run_pure, Result.andThen_ok, loadVar, hagg]
  simp [load, Sem.run, hc]
theorem results_multi {fn : Func} {tmps : Array Value} {W : World} (rs : List ResultVar) (vs : List Value) (h : fn.results = rs.toArray) (hl : vs.length ≠ 1) (hlen : vs.length = rs.length) (hv : ∀ i (hi : i < rs.length), resVal P W tmps rs[i] (vs[i]'(hlen ▸ hi))) :
    (results fn tmps).run P W = .ok (.tuple vs.toArray) W := by
  have key : ∀ (rs : List ResultVar) (vs : List Value) (hlen : vs.length = rs.length), (∀ i (hi : i < rs.length), resVal P W tmps rs[i] (vs[i]'(hlen ▸ hi))) →
      (rs.mapM (resRead tmps)).run P W = .ok vs W := by
    intro rs
    induction rs with
    | nil => intro vs hl _; have : vs = [] := List.length_eq_zero_iff.1 hl; subst this; rfl
    | cons r rs ih =>
      intro vs hl hv
      cases vs with
      | nil => simp at hl
      | cons v vs =>
        have h0 : (resRead tmps r).run P W = .ok v W := hv 0 (by simp)
        have h1 := ih vs (by simpa using hl) (fun i hi => hv (i + 1) (by simpa using hi))
        rw [List.mapM_cons]
        rw [Sem.run_bind, h0, Result.andThen_ok, Sem.run_bind, h1]
        rfl
  have e : results fn tmps = (fn.results.mapM (resRead tmps)) >>= fun vs => pure (if h : vs.size = 1 then vs[0] else .tuple vs) := by
    unfold results
    congr 1
  rw [e, h, List.mapM_toArray, Sem.run_bind]
  have hm : (List.toArray <$> List.mapM (resRead tmps) rs).run P W = .ok vs.toArray W := by
    have e2 : (List.toArray <$> List.mapM (resRead tmps) rs) = (List.mapM (resRead tmps) rs) >>= fun l => pure l.toArray := rfl
    rw [e2, Sem.run_bind, key rs vs hlen hv]
    rfl
  rw [hm, Result.andThen_ok, dif_neg (by simpa using hl)]
  rfl
theorem ret_multi {fn : Func} {a : Act} {W : World} {R : Ending → World → Prop} (rs : List ResultVar) (vs : List Value) (h : fn.results = rs.toArray) (hl : vs.length ≠ 1) (hlen : vs.length = rs.length) (hf : a.defers = [])
    (hv : ∀ i (hi : i < rs.length), resVal P W a.tmps rs[i] (vs[i]'(hlen ▸ hi))) (hR : R (.returned (.tuple vs.toArray)) W) : bodyPost P fn R .ret a W :=
  bodyPost_ret (results_multi rs vs h hl hlen hv) hf hR
theorem ret_3 {fn : Func} {a : Act} {W : World} {R : Ending → World → Prop} {r0 r1 r2 : ResultVar} (h : fn.results = #[r0, r1, r2]) {v0 v1 v2 : Value} (hf : a.defers = [])
    (h0 : resVal P W a.tmps r0 v0) (h1 : resVal P W a.tmps r1 v1) (h2 : resVal P W a.tmps r2 v2) (hR : R (.returned (.tuple #[v0, v1, v2])) W) : bodyPost P fn R .ret a W :=
  ret_multi [r0, r1, r2] [v0, v1, v2] h (by simp) rfl hf (fun i hi => by
    match i, hi with
    | 0, _ => exact h0
    | 1, _ => exact h1
    | 2, _ => exact h2) hR
theorem ret_2 {fn : Func} {a : Act} {W : World} {R : Ending → World → Prop} {r0 r1 : ResultVar} (h : fn.results = #[r0, r1]) {v0 v1 : Value} (hf : a.defers = [])
    (h0 : resVal P W a.tmps r0 v0) (h1 : resVal P W a.tmps r1 v1) (hR : R (.returned (.tuple #[v0, v1])) W) : bodyPost P fn R .ret a W :=
  ret_multi [r0, r1] [v0, v1] h (by simp) rfl hf (fun i hi => by
    match i, hi with
    | 0, _ => exact h0
    | 1, _ => exact h1) hR
end
end Go.Proofs.Ytehcfahfbdphpaa
