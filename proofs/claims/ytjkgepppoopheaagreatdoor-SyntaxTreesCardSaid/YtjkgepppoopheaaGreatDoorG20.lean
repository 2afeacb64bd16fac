/- The project's reader of blocks (conditions: at most 1000000 words; the variables and the map of forms stand). -/
import Derived.Test.YtjkgepppoopheaaGreatDoorG3
import Derived.Test.YtjkgepppoopheaaGreatDoorG1
import Derived.Great.BuildSlice
import Derived.Test.YtjkgepppoopheaaGreatDoorG19
namespace Go.Proofs.YtjkgepppoopheaaGreatDoor
open Go.RowKit Go.Shelf

theorem fill_one (cells : Array Value) (cs : List Value) (h : cells.size = cs.length) (hp : 0 < cs.length) :
    Instr.fill (fun i => some (i * cs.length, cs.length)) cells [(0, .agg cs.toArray)] = some cs.toArray := by
  obtain ⟨r, h1, h2, h3⟩ := Great.fill_dense hp [.agg cs.toArray] 0 cells (fun v hv => by simp at hv; subst hv; simp [Value.cells]) (by simp; omega)
  have e : ([Value.agg cs.toArray].zipIdx 0).map (fun x => (x.2, x.1)) = [(0, .agg cs.toArray)] := rfl
  rw [e] at h1
  rw [h1]
  congr 1
  apply Array.ext_getElem?
  intro k
  rw [h3 k]
  simp only [List.length_cons, List.length_nil, Nat.zero_add, Nat.one_mul, Nat.zero_mul, Nat.zero_le, true_and]
  by_cases hk : k < cs.length
  · rw [if_pos hk, Nat.div_eq_of_lt hk, Nat.mod_eq_of_lt hk]
    simp [Value.cells]
  · rw [if_neg hk, Array.getElem?_eq_none (by omega), Array.getElem?_eq_none (by simp; omega)]

/-- A slice of the call's own with these trees. -/
def Grows (W : World) (base : Nat) (t : TypeId) (size : Nat) (v : Value) (ds : List D) : Prop :=
  ∃ xs, W.ownsRow base t size v ds.length xs ∧ ∀ i (hi : i < ds.length), Rep W (fun g => g < base ∨ some g = v.ownBlock) ((xs.drop (i * size)).take size) ds[i]

section
variable {W W' : World} {base : Nat} {t : TypeId} {size : Nat} {v : Value} {ds : List D}
theorem Grows.nil (W : World) (base : Nat) (t : TypeId) (size : Nat) : Grows W base t size (.slice none 0 0) [] :=
  ⟨[], ⟨by simp, .inl ⟨rfl, rfl⟩⟩, fun i hi => by simp at hi⟩
theorem Grows.own_ge (h : Grows W base t size v ds) {g : Nat} (hg : v.ownBlock = some g) : base ≤ g := by
  obtain ⟨xs, ⟨_, ⟨rfl, _⟩ | ⟨g', cap, cur, rfl, hb, _⟩⟩, _⟩ := h
  · simp [Value.ownBlock] at hg
  · simp [Value.ownBlock] at hg; omega
theorem Grows.kept {X : Nat → Prop} (h : Grows W base t size v ds) (hk : Kept X W W') (hx : ∀ g, X g → g < base) : Grows W' base t size v ds := by
  have ho := fun g => h.own_ge (g := g)
  obtain ⟨xs, h1, h2⟩ := h
  exact ⟨xs, own_kept h1 hk (fun g hg hX => by have := ho g hg; have := hx g hX; omega), fun i hi => (h2 i hi).kept hk (fun g _ hX => .inl (hx g hX))⟩
theorem base0 {xs : List Value} {n : Nat} (h : W.ownsRow base t size v n xs) : W.ownsRow 0 t size v n xs := by
  obtain ⟨h1, h2 | ⟨g, cap, cur, hv, _, h3⟩⟩ := h
  · exact ⟨h1, .inl h2⟩
  · exact ⟨h1, .inr ⟨g, cap, cur, hv, Nat.zero_le _, h3⟩⟩
theorem cells_at (W : World) (e : TypeId) (cs : List Value) : ∀ j u, cs[j]? = some u → (W.alloc (.cells cs.toArray e)).cell? ((⟨W.heap.size, 0, none⟩ : Addr).add j) = some u := by
  intro j u hj
  have : (⟨W.heap.size, 0, none⟩ : Addr).add j = ⟨W.heap.size, j, none⟩ := by unfold Addr.add; split <;> simp_all
  rw [this]
  exact ((Cells.fresh W e cs).cell j).trans hj
theorem Grows.row (h : Grows W base t size v ds) (hp : 0 < size) : RowV W (· < base) v ds := by
  have ho := fun g => h.own_ge (g := g)
  obtain ⟨xs, h1, h2⟩ := h
  refine RowV.own (base0 h1) hp (fun g hg hX => by have := ho g hg; have hX : g < base := hX; omega) (fun i hi => (h2 i hi).mono (fun g _ hX => .inl hX))
theorem Grows.form (h : Grows W base t size v ds) : ∃ A n c, v = .slice A n c ∧ n = ds.length ∧ n ≤ c ∧ c ≤ maxLen := by
  obtain ⟨xs, ⟨_, ⟨rfl, h0⟩ | ⟨g', cap, cur, rfl, hb, _, h3, h4, _⟩⟩, _⟩ := h
  · exact ⟨_, _, _, rfl, h0.symm, Nat.le_refl _, Nat.zero_le _⟩
  · exact ⟨_, _, _, rfl, rfl, h3, h4⟩

variable {P : Program}
/-- A struct appended: laid in a block of its own first. -/
theorem wpList_append_struct {ops : Array Oper} {rest : List Oper} {o1 o2 : Oper} {a : Act} {Q : Exit → Act → World → Prop} (hg1 : o1.guard = none) (hg2 : o2.guard = none) (st e : TypeId) (x s : Operand) (d1 : Tmp)
    (ho1 : o1.op = .buildSlice st 1 #[(0, x)]) (hd1 : o1.dst = some d1) (ho2 : o2.op = .call { callee := .builtin .append, args := #[s, .tmp d1], argTypes := #[st, st] })
    (ie : TypeInfo) (z : Value) (bytes : Nat) (hu : P.underlying st = some (.slice e)) (hie : P.info? e = some ie) (hz : ie.zero = some z) (hsize : ie.size = size) (hby : ie.bytes = bytes) (hzs : z.cells.size = size) (hp : 0 < size) (hs24 : size ≤ 2 ^ 24)
    (h : Grows W base e size v ds) (hs' : (a.put (some d1) (.slice (some ⟨W.heap.size, 0, none⟩) 1 1)).eval s = v) (hx' : (a.put (some d1) (.slice (some ⟨W.heap.size, 0, none⟩) 1 1)).eval (.tmp d1) = .slice (some ⟨W.heap.size, 0, none⟩) 1 1)
    {cs : List Value} {d : D} (hx : a.eval x = .agg cs.toArray) (hl : cs.length = size) (hd : Rep W (fun g => g < base ∨ some g = v.ownBlock) cs d) (hb : base ≤ W.heap.size)
    (hmax : ds.length + 1 ≤ maxLen) (hbytes : (ds.length + 1) * bytes ≤ 140737488355328)
    (hn : ∀ v' W', Grows W' base e size v' (ds ++ [d]) → Kept (fun g => some g = v.ownBlock) W W' → wpList P ops Q rest ((a.put (some d1) (.slice (some ⟨W.heap.size, 0, none⟩) 1 1)).put o2.dst v') W') :
    wpList P ops Q (o1 :: o2 :: rest) a W := by
  subst hl
  refine wpList_buildSlice hg1 st e 1 #[(0, x)] ho1 cs.toArray ie z hu hie hz (by rw [hsize]; omega) (by rw [hsize]; omega) ?_ ?_
  · rw [hsize]
    have : ((#[(0, x)] : Array (Nat × Operand)).map fun (i, x) => (i, a.eval x)).toList = [(0, a.eval x)] := by simp
    rw [this, hx]
    exact fill_one _ cs (by simp) hp
  rw [hd1]
  have ho := fun g => h.own_ge (g := g)
  obtain ⟨xs, h1, h2⟩ := h
  refine wpList_append_own_at _ hg2 s (.tmp d1) st ho2 base e ie z cs.length bytes hu hie hz hsize hby hzs hp v ds.length xs hs' (h1.alloc _) ⟨W.heap.size, 0, none⟩ 1 1 cs hx' (by omega) (cells_at W e cs) (Rep.one hd) hmax hbytes (by rw [World.size_alloc]; omega) ?_
  intro v' W' h3 h4 _ h5
  have hk : Kept (fun g => some g = v.ownBlock) W W' := (((Kept.refl _ _).alloc _).grown h4 (fun k hk _ => hk.symm))
  refine hn v' W' ⟨xs ++ cs, by simpa using h3, fun i hi => ?_⟩ hk
  have hZ : ∀ g, g < W.heap.size → (g < base ∨ some g = v'.ownBlock) → (g < base ∨ some g = v.ownBlock) := fun g hg hh => by
    rcases hh with hh | hh
    · exact .inl hh
    · rcases h5 with h5 | h5
      · exact .inr (hh.trans h5)
      · rw [h5, World.size_alloc] at hh
        injection hh with hh
        omega
  have hend : ∀ cs d, Rep W (fun g => g < base ∨ some g = v.ownBlock) cs d → Rep W' (fun g => g < base ∨ some g = v'.ownBlock) cs d := fun cs d hh =>
    ((hh.mono (Z' := fun g => (g < base ∨ some g = v.ownBlock) ∨ (g < base ∨ some g = v'.ownBlock)) (fun g hg hX => hX.elim id (hZ g hg))).kept hk (fun g _ hX => .inl (.inr hX))).mono (fun g _ hX => .inr hX)
  have hxl := h1.1
  simp only [List.length_append, List.length_cons, List.length_nil] at hi
  by_cases hlt : i < ds.length
  · rw [List.getElem_append_left hlt]
    have e1 : (i + 1) * cs.length ≤ ds.length * cs.length := Nat.mul_le_mul_right _ hlt
    have e2 : (i + 1) * cs.length = i * cs.length + cs.length := Nat.succ_mul i _
    rw [List.drop_append_of_le_length (by omega), List.take_append_of_le_length (by rw [List.length_drop]; omega)]
    exact hend _ _ (h2 i hlt)
  · have : i = ds.length := by omega
    subst this
    rw [List.getElem_append_right (Nat.le_refl _)]
    simp only [Nat.sub_self, List.getElem_cons_zero]
    rw [← hxl, List.drop_left, List.take_length]
    exact hend _ _ hd
end
end Go.Proofs.YtjkgepppoopheaaGreatDoor

namespace Go.Proofs.YtjkgepppoopheaaGreatDoor
open Go.RowKit Go.Shelf

/-- What was read, if it was, ends at j or behind. -/
def Fw {α : Type} (r : Except Nat (α × Nat)) (j : Nat) : Prop := ∀ p, r = .ok p → j ≤ p.2
theorem Fw.ok {α : Type} {a : α} {k j : Nat} (h : j ≤ k) : Fw (.ok (a, k)) j := fun _ hp => by cases hp; exact h
theorem Fw.err {α : Type} {k j : Nat} : Fw (α := α) (.error k) j := fun _ hp => by cases hp
theorem Fw.thn {α β : Type} {r : Except Nat (α × Nat)} {g : α → Nat → Except Nat (β × Nat)} {i j : Nat} (h1 : Fw r i) (h : ∀ a k, i ≤ k → Fw (g a k) j) : Fw (thn r g) j := fun p hp => by
  obtain ⟨a, k, h2, h3⟩ := thn_some hp
  exact h a k (h1 _ h2) p h3

section
variable {S : Src} {f k : Nat}
theorem fw_want (s : ByteArray) : Fw (wantS S k s) (k + 1) := fun _ hp => by rw [(wantS_some hp).1]; exact Nat.le_refl _
theorem fw_name : Fw (nameS S k) (k + 1) := fun _ hp => by rw [(nameS_some hp).1]; exact Nat.le_refl _
theorem fw_expr : Fw (exprS S k) (k + 1) := fun _ hp => exprS_fwd hp
theorem fw_worth : Fw (worthS S k) (k + 1) := fw_expr.thn fun _ _ h => (fw_want _).thn fun _ _ h2 => .ok (by omega)
theorem fw_naming (q : Int) : Fw (namingS S q k) (k + 1) := fw_name.thn fun _ _ h => (fw_want _).thn fun _ _ h2 => .ok (by omega)
theorem fw_namingTwo (q : Int) : Fw (namingTwoS S q k) (k + 1) := fw_name.thn fun _ _ h => fw_name.thn fun _ _ h2 => (fw_want _).thn fun _ _ h3 => .ok (by omega)
theorem fw_assign : Fw (assignS S k) (k + 1) := fw_name.thn fun a k' h => by
  split
  · exact fw_expr.thn fun _ _ h1 => (fw_want _).thn fun _ _ h2 => (fw_want _).thn fun _ _ h3 => fw_worth.thn fun _ _ h4 => .ok (by omega)
  · exact (fw_want _).thn fun _ _ h2 => fw_worth.thn fun _ _ h4 => .ok (by omega)
theorem fw_choice {B : Nat → Except Nat (List ST × Nat)} (hB : ∀ k, Fw (B k) (k + 1)) : Fw (choiceS S B k) (k + 1) := fw_expr.thn fun _ _ h => (hB _).thn fun _ _ h2 => by
  split
  · exact (hB _).thn fun _ _ h3 => .ok (by omega)
  · exact .ok (by omega)
theorem fw_let : Fw (letS S k) (k + 1) := fw_name.thn fun _ _ h => (fw_want _).thn fun _ _ h2 => fw_worth.thn fun _ _ h3 => .ok (by omega)
theorem fw_loop {B : Nat → Except Nat (List ST × Nat)} (hB : ∀ k, Fw (B k) (k + 1)) : Fw (loopS S B k) (k + 1) := fw_expr.thn fun _ _ h => (hB _).thn fun _ _ h2 => .ok (by omega)
theorem fw_send : Fw (sendS S k) (k + 1) := fw_name.thn fun _ _ h => fw_worth.thn fun _ _ h3 => .ok (by omega)
theorem fw_join : Fw (joinS S k) (k + 1) := (fw_want _).thn fun _ _ h3 => .ok (by omega)
theorem fw_print : Fw (printS S k) (k + 1) := fw_worth.thn fun _ _ h3 => .ok (by omega)
theorem fw_forms {B : Nat → Except Nat (List ST × Nat)} (hB : ∀ k, Fw (B k) (k + 1)) {p : ByteArray × (Nat → Except Nat (ST × Nat))} (hp : p ∈ formsL S B) (k : Nat) : Fw (p.2 k) (k + 1) := by
  simp only [formsL, List.mem_cons, List.not_mem_nil, or_false] at hp
  rcases hp with rfl | rfl | rfl | rfl | rfl | rfl | rfl | rfl | rfl | rfl | rfl | rfl | rfl
  · exact fw_let
  · exact fw_choice hB
  · exact fw_loop hB
  · exact fw_naming _
  · exact fw_naming _
  · exact fw_namingTwo _
  · exact fw_naming _
  · exact fw_naming _
  · exact fw_send
  · exact fw_namingTwo _
  · exact fw_naming _
  · exact fw_join
  · exact fw_print
theorem fw_form {B : Nat → Except Nat (List ST × Nat)} (hB : ∀ k, Fw (B k) (k + 1)) {t : ByteArray} {r : Nat → Except Nat (ST × Nat)} (hr : formS S B t = some r) (k : Nat) : Fw (r k) (k + 1) := by
  unfold formS at hr
  obtain ⟨p, hp, rfl⟩ := Option.map_eq_some_iff.1 hr
  exact fw_forms hB (List.mem_of_find?_eq_some hp) k

theorem fw_all (S : Src) : ∀ f, (∀ k, Fw (stmtS S f k) (k + 1)) ∧ (∀ k, Fw (blockS S f k) (k + 1)) ∧ (∀ k, Fw (restS S f k) (k + 1)) := by
  intro f
  induction f with
  | zero => exact ⟨fun k => (by rw [stmtS]; exact .err), fun k => (by rw [blockS]; exact .err), fun k => (by rw [restS]; exact .err)⟩
  | succ f ih =>
    obtain ⟨h1, h2, h3⟩ := ih
    refine ⟨fun k => ?_, fun k => ?_, fun k => ?_⟩
    · rw [stmtS]
      split
      · split
        · rename_i r hr
          exact (fw_form h2 hr _).thn fun _ _ h => .ok (by omega)
        · exact .err
      · exact fw_assign.thn fun _ _ h => .ok (by omega)
    · rw [blockS]
      exact (fw_want _).thn fun _ k' h p hp => by have := h3 k' p hp; omega
    · rw [restS]
      split
      · exact .ok (by omega)
      · exact (h1 _).thn fun _ k' h => (h3 _).thn fun _ _ h' => .ok (by omega)

theorem infoSt : (Tryz.prog.info? 63).map (fun i => (i.zero, i.size, decide (i.bytes ≤ 1000))) = some (some (.agg zeroSt.toArray), 25, true) := by kernel_rfl
theorem info_cut {P : Program} {t : TypeId} {z : Option Value} {s : Nat} (h : (P.info? t).map (fun i => (i.zero, i.size, decide (i.bytes ≤ 1000))) = some (z, s, true)) : ∃ i, P.info? t = some i ∧ i.zero = z ∧ i.size = s ∧ i.bytes ≤ 1000 := by
  cases hi : P.info? t with
  | none => rw [hi] at h; cases h
  | some i =>
    rw [hi] at h
    simp only [Option.map_some, Option.some.injEq, Prod.mk.injEq, decide_eq_true_eq] at h
    exact ⟨i, rfl, h.1, h.2.1, h.2.2⟩
end

section
variable {S : Src} {f R k : Nat} {w : World}
theorem block_own {W : World} {base : Nat} {t : TypeId} {size : Nat} {v : Value} {ds : List D} (h : Grows W base t size v ds) {g : Nat} (hg : v.ownBlock = some g) : g < W.heap.size := by
  obtain ⟨xs, h1, _⟩ := h
  exact (h1.lt g hg).2

/-- Between two statements: m words are still to come. -/
def BlkI (S : Src) (f R : Nat) (w : World) (r : Except Nat (List ST × Nat)) (m : Nat) (v : Value) (wr : World) : Prop :=
  ∃ (ds : List ST) (k g : Nat), Grows wr w.heap.size 63 25 v (ST.ds ds) ∧ DR wr R S k ∧ Kept (· = R) w wr ∧ m = S.n - k ∧ (S.n - k) * 3 + 3 ≤ g ∧ g ≤ f ∧ ds.length ≤ k ∧ thn (restS S g k) (fun l k => .ok (ds ++ l, k)) = r

set_option maxRecDepth 100000 in
set_option maxHeartbeats 1000000 in
theorem block_step (hSt : ∀ g, g < f → StmtC S g) : BlockC S (f + 1) := by
  intro R k w h hf
  have HS : Hid (blockS S (f + 1) k = thn (wantS S k ⟨#[123]⟩) fun _ k => restS S f k) := Lib.hid (by rw [blockS])
  have HST := Lib.hid hSt
  have HFW := Lib.hid (fun p h => wantS_some (S := S) (k := k) (s := ⟨#[123]⟩) (p := p) h)
  have hRl := h.lt
  clear hSt
  go_enter Tryz.func128, Tryz.ntmps128
  go_wp2_with fail
  refine (want_any (S := S) (k := k) (s := ⟨#[123]⟩) (by decide) h).mono ?_
  intro e W1 hq
  rcases hq.cases with ⟨kx, hr, hm, hk1⟩ | ⟨a1, k1, hr, hret, hd1, hk1⟩
  · unfold Misfit at hm
    subst hm
    have HX := Lib.hid hr
    clear hr
    go_wp2
    exact ⟨rfl, Parsed.err (HS.out.trans (by rw [HX.out]; rfl)) rfl hk1⟩
  obtain ⟨hp1, hp2⟩ := HFW.out _ hr
  injection hp1 with _ hp1
  have hlt := takeB_lt hp2 (by decide)
  replace HS := Lib.hid (HS.out.trans (by rw [hr, thn_ok]))
  clear hr hq hp2
  have hret : e = _ := hret
  subst hret
  have lb1 := hk1.size
  have hI : BlkI S f R w (blockS S (f + 1) k) (S.n - k1) (.slice none 0 0) W1 := ⟨[], k1, f, Grows.nil _ _ _ _, hd1, hk1, rfl, by omega, Nat.le_refl _, Nat.zero_le _, by
    rw [HS.out]
    cases restS S f k1 with
    | error k => rfl
    | ok p => rfl⟩
  have HI := Lib.hid hI
  clear hI
  go_wp2_with fail
  go_loopg [3] (S.n - k1) (fun m v3 wr => BlkI S f R w (blockS S (f + 1) k) m v3 wr)
  case atStart => exact HI.out
  case round =>
    obtain ⟨ds, kk, g, hgr, hdr, hkr, rfl, hg1, hg2, hdl, hrr⟩ := hrel
    obtain ⟨g', rfl⟩ : ∃ g', g = g' + 1 := ⟨g - 1, by omega⟩
    have hfew := hdr.few
    have hle := hdr.le
    have hsr := hkr.size
    have hRr : R < wr.heap.size := by omega
    have HGR := Lib.hid hgr
    have HKR := Lib.hid hkr
    have hrs : restS S (g' + 1) kk = if takeB S kk ⟨#[125]⟩ then .ok ([], kk + 1) else thn (stmtS S g' kk) fun s k => thn (restS S g' k) fun l k => .ok (s :: l, k) := by rw [restS]
    rw [hrs] at hrr
    clear hrs hgr hkr
    have HDR := Lib.hid hdr
    cases ht : takeB S kk ⟨#[125]⟩ with
    | true =>
      rw [ht, if_pos rfl, thn_ok, List.append_nil] at hrr
      have HRR := Lib.hid hrr
      have HT2 := Lib.hid ht
      clear hrr ht
      go_wp2_with fail
      refine (take_any (S := S) (k := kk) (by decide) HDR.out).mono ?_
      rintro e W2 ⟨rfl, hd2, hk2⟩
      rw [HT2.out] at hd2 ⊢
      replace hd2 : DR W2 R S (kk + 1) := hd2
      go_wp2
      go_ret
      have hg2 := HGR.out.kept hk2 (fun b hb => by have hb : b = R := hb; omega)
      exact Parsed.ok HRR.out.symm ⟨_, rfl, hg2.row (by decide)⟩ hd2 (HKR.out.trans hk2)
    | false =>
      rw [ht, if_neg Bool.false_ne_true] at hrr
      have HRR := Lib.hid hrr
      have HT2 := Lib.hid ht
      clear hrr ht
      go_wp2_with fail
      refine (take_any (S := S) (k := kk) (by decide) HDR.out).mono ?_
      rintro e W2 ⟨rfl, hd2, hk2⟩
      rw [HT2.out] at hd2 ⊢
      replace hd2 : DR W2 R S kk := hd2
      have lb2 := hk2.size
      have hG2 := HGR.out.kept hk2 (fun b hb => by have hb : b = R := hb; omega)
      have HG2 := Lib.hid hG2
      have HK2 := Lib.hid (HKR.out.trans hk2)
      clear hG2
      go_wp2_with fail
      refine (HST.out g' (by omega) R kk W2 hd2 (by omega)).mono ?_
      intro e W3 hq
      rcases hq.cases with ⟨kx, hr, hm, hk3⟩ | ⟨a3, k3, hr, hret, hd3, hk3⟩
      · unfold Misfit at hm
        subst hm
        have HX := Lib.hid (show blockS S (f + 1) k = .error kx from by rw [← HRR.out, hr, thn_err, thn_err])
        clear hr
        go_wp2
        exact ⟨rfl, Parsed.err HX.out rfl (HK2.out.trans hk3)⟩
      have hk3k := (fw_all S g').1 kk _ hr
      dsimp only at hk3k
      have HRX := Lib.hid (show thn (restS S g' k3) (fun l k => .ok (ds ++ [a3] ++ l, k)) = blockS S (f + 1) k from by
        rw [← HRR.out, hr, thn_ok]
        cases restS S g' k3 with
        | error k => rfl
        | ok p => simp [thn])
      clear hr hq
      have lb3 := hk3.size
      obtain ⟨cs, rfl, hsv⟩ := hret
      have hG3 := HG2.out.kept hk3 (fun b hb => by have hb : b = R := hb; omega)
      have hl3 := hd3.le
      have hsv2 : Rep W3 (fun b => b < w.heap.size ∨ some b = u3.ownBlock) cs a3.d := Rep.mono hsv (fun b _ hb => by
        show b < W2.heap.size
        rcases hb with hb | hb
        · omega
        · exact block_own HG2.out hb.symm)
      have HSV := Lib.hid hsv2
      have HG3 := Lib.hid hG3
      have HL := Lib.hid (SV.len hsv)
      have HK3 := Lib.hid (HK2.out.trans hk3)
      obtain ⟨i0, hi0, hz0, hz1, hz2⟩ := info_cut infoSt
      clear hsv hsv2 hG3
      go_wp2_with (first | ((with_reducible show wpList _ _ _ (Oper.mk _ (Op.buildSlice _ _ _) _ _ _ _ :: _) _ _); refine wpList_append_struct rfl rfl 52 63 (.tmp 15) (.tmp 13) 16 rfl rfl rfl i0 (.agg zeroSt.toArray) i0.bytes Tryz.underlying52 hi0 hz0 hz1 rfl rfl (by decide) (Nat.le_of_ble_eq_true rfl) HG3.out rfl rfl rfl HL.out HSV.out (by omega) (by rw [ST.ds_length]; unfold maxLen; omega) (by rw [ST.ds_length]; exact Nat.le_trans (Nat.mul_le_mul (show ds.length + 1 ≤ 1000001 by omega) hz2) (by decide)) ?_; intro v4 W4 hG4 hk4; have HG4 := Lib.hid hG4; clear hG4))
      have ho := fun g (hg : some g = u3.ownBlock) => HG3.out.own_ge hg.symm
      go_roundg (S.n - k3)
      case measure => omega
      case rel =>
        exact ⟨ds ++ [a3], k3, g', (show Grows W4 w.heap.size 63 25 v4 (ST.ds (ds ++ [a3])) from by (have h4 := HG4.out; rw [ST.ds_eq] at h4 ⊢; simpa using h4)),
          hd3.kept hk4 (fun b hb => by have := ho b hb; omega), HK3.out.join hk4 (fun i hi hlt => by have := ho i hi; omega), rfl, by omega, by omega, by simp; omega, HRX.out⟩

theorem reads_ok (hS : SrcOk S) : ∀ f, StmtC S f ∧ BlockC S f := by
  intro f
  induction f using Nat.strongRecOn with
  | _ f ih =>
    cases f with
    | zero => exact ⟨fun R k w h hf => (by omega), fun R k w h hf => (by omega)⟩
    | succ f => exact ⟨stmt_step hS (fun k p h => (fw_all S f).2.1 k p h) (ih f (Nat.lt_succ_self f)).2, block_step (fun g hg => (ih g (by omega)).1)⟩
def bodyS (S : Src) (k : Nat) : Except Nat (List ST × Nat) := blockS S (S.n * 3 + 1) k
theorem body_calls (hS : SrcOk S) (h : DR w R S k) : Calls Tryz.prog 128 #[.pointer (some ⟨R, 0, none⟩)] w (Parsed w R S retB (bodyS S k)) :=
  (reads_ok hS _).2 R k w h (by have : (S.n - k) * 3 ≤ S.n * 3 := Nat.mul_le_mul_right _ (Nat.sub_le _ _); omega)
end
end Go.Proofs.YtjkgepppoopheaaGreatDoor
