/- What (*reader).word does: the word that stands at the reader's place, or its error (conditions: the text is of at most 1000000 bytes, and not at its end). -/
import Derived.Test.YtjkgepppoopheaaGreatDoorAbb
import Derived.Test.YtjkgepppoopheaaGreatDoorQ20
set_option maxRecDepth 100000
set_option maxHeartbeats 1000000
namespace Go.Proofs.YtjkgepppoopheaaGreatDoor
open Go.RowKit Go.Shelf
def valF (l : List UInt8) : Int := l.foldl (fun n b => 10 * n + ((b.toNat : Int) - 48)) 0
def allDig (l : List UInt8) : Bool := l.all (fun b => digB (b.toNat : Nat))
def numOk (l : List UInt8) : Bool := decide (l.length ≤ 10) && !(decide (1 < l.length) && (l.head? == some 48)) && allDig l && decide (valF l ≤ 2147483647)
theorem valF_snoc (l : List UInt8) (b : UInt8) : valF (l ++ [b]) = 10 * valF l + ((b.toNat : Int) - 48) := by simp [valF]
theorem digB_iff (x : Int) : digB x = true ↔ 48 ≤ x ∧ x ≤ 57 := by simp [digB]
theorem valF_bound : ∀ (k : Nat) (l : List UInt8), l.length = k → allDig l = true → 0 ≤ valF l ∧ valF l ≤ 10 ^ k - 1 := by
 intro k
 induction k with
 | zero => intro l hl _; obtain rfl := List.eq_nil_of_length_eq_zero hl; simp [valF]
 | succ k ih =>
  intro l hl hd
  obtain ⟨l', b, rfl⟩ : ∃ l' b, l = l' ++ [b] := by
   refine ⟨l.dropLast, l.getLast (by rintro rfl; simp at hl), (List.dropLast_concat_getLast _).symm⟩
  have h1 : l'.length = k := by simpa using hl
  simp only [allDig, List.all_append, List.all_cons, List.all_nil, Bool.and_true, Bool.and_eq_true] at hd
  have h2 := ih l' h1 hd.1
  have h3 := (digB_iff _).1 hd.2
  rw [valF_snoc, Int.pow_succ]
  omega
theorem valF_le {l : List UInt8} (hl : l.length ≤ 10) (hd : allDig l = true) : 0 ≤ valF l ∧ valF l ≤ 9999999999 := by
 have h := valF_bound l.length l rfl hd
 have : (10 : Int) ^ l.length ≤ 10 ^ 10 := by
  have h10 : ∀ n : Nat, n ≤ 10 → (10 : Int) ^ n ≤ 10 ^ 10 := by decide
  exact h10 _ hl
 have e : (10 : Int) ^ 10 = 10000000000 := by decide
 omega
def numRes (l : List UInt8) : Int := if numOk l then valF l else 0
theorem numRes_yes {l : List UInt8} (h : numOk l = true) : numRes l = valF l := by simp [numRes, h]
theorem numRes_no {l : List UInt8} (h : numOk l = false) : numRes l = 0 := by simp [numRes, h]
theorem number_loop (t : ByteArray) (w : World) (h10 : t.size ≤ 10) (h48 : ¬ (1 < t.size ∧ t.data.toList.head? = some 48)) :
  Calls Tryz.prog 164 #[.string t] w fun e w' => e = .returned (.tuple #[.int .i64 (numRes t.data.toList), .bool (numOk t.data.toList)]) ∧ w = w' := by
 have hlen : t.data.toList.length = t.size := by simp
 have HL := aP hlen
 clear hlen
 have H48 := aP h48
 have g48 : 1 < t.size → ∀ h : 0 < t.size, ((t[0].toNat : Int) == 48) = false := by
  intro h1 h0
  rw [beq_eq_false_iff_ne]
  intro hh
  refine h48 ⟨h1, ?_⟩
  rw [List.head?_eq_getElem?, List.getElem?_eq_getElem (by simpa using h0)]
  congr 1
  apply UInt8.toNat_inj.1
  show t[0].toNat = 48
  omega
 clear h48
 have hd10 : decide (10 < (t.size : Int)) = false := by simp; omega
 by_cases h1 : 1 < t.size
 ·have t48 := g48 h1 kom
  clear g48
  go_enter Tryz.func164, Tryz.ntmps164
  go_wp2
  go_loop [4, 21] (fun n i => ∃ k : Nat, k ≤ t.size ∧ i = .int .i64 k ∧ n = .int .i64 (valF (t.data.toList.take k)) ∧ allDig (t.data.toList.take k) = true) (fun _ i => t.size - (intOf i).toNat)
  case atStart => exact ⟨0, Nat.zero_le _, rfl, rfl, rfl⟩
  case round => exact k_4
 ·clear g48
  go_enter Tryz.func164, Tryz.ntmps164
  go_wp2
  go_loop [4, 21] (fun n i => ∃ k : Nat, k ≤ t.size ∧ i = .int .i64 k ∧ n = .int .i64 (valF (t.data.toList.take k)) ∧ allDig (t.data.toList.take k) = true) (fun _ i => t.size - (intOf i).toNat)
  case atStart => exact ⟨0, Nat.zero_le _, rfl, rfl, rfl⟩
  case round => exact k_4
theorem number_any (t : ByteArray) (w : World) (hs : t.size ≤ 1000000) :
  Calls Tryz.prog 164 #[.string t] w fun e w' => e = .returned (.tuple #[.int .i64 (numRes t.data.toList), .bool (numOk t.data.toList)]) ∧ w = w' := by
 have hlen : t.data.toList.length = t.size := by simp
 by_cases h10 : t.size ≤ 10
 ·by_cases h48 : 1 < t.size ∧ t.data.toList.head? = some 48
  ·have hN : numOk t.data.toList = false := by
    unfold numOk
    rw [hlen]
    simp [h48.1, h48.2]
   have HN := aP hN
   have h1 := h48.1
   have h0 : 0 < t.size := by omega
   have t48 : ((t[0].toNat : Int) == 48) = true := by
    have := h48.2
    rw [List.head?_eq_getElem?, List.getElem?_eq_getElem (by simpa using h0)] at this
    have e : t[0] = 48 := by
     have := Option.some.inj this
     exact this
    rw [e] <;> rfl
   have hd10 : decide (10 < (t.size : Int)) = false := by simp; omega
   clear hN h48 hlen
   go_enter Tryz.func164, Tryz.ntmps164
   go_wp2
   go_ret2
   exact ⟨by rw [numRes_no HN.out, HN.out] <;> rfl, rfl⟩
  ·exact number_loop t w h10 h48
 ·have hN : numOk t.data.toList = false := by
   unfold numOk
   rw [hlen]
   simp [h10]
  have HN := aP hN
  have hd10 : decide (10 < (t.size : Int)) = true := by simp; omega
  clear hN hlen
  go_enter Tryz.func164, Tryz.ntmps164
  go_wp2
  go_ret2
  exact ⟨by rw [numRes_no HN.out, HN.out] <;> rfl, rfl⟩
theorem Kept.freeze {X : Nat → Prop} {a w : World} (h : Kept X a w) {p : Addr} (hp : p.block < a.heap.size → X p.block) (n : Nat) : Kept X a (w.freeze p n) := by
 unfold World.freeze
 split
 ·exact h
 ·refine ⟨h.os, h.tape, h.output, by simpa using h.size, fun k hk hx => ?_⟩
  simp only [Array.getElem?_modify]
  rw [if_neg (by rintro e; exact hx (e ▸ hp kom))]
  exact h.block k hk hx
theorem Kept.setRow {X : Nat → Prop} {a w : World} (h : Kept X a w) {g : Nat} (hp : g < a.heap.size → X g) (cs : Array Value) : Kept X a (w.setRow g cs) :=
 ⟨h.os, h.tape, h.output, by simpa [World.setRow] using h.size, fun k hk hx => by
   unfold World.setRow
   simp only [Array.getElem?_modify]
   rw [if_neg (by rintro e; exact hx (e ▸ hp kom))]
   exact h.block k hk hx⟩
def zeros (n : Nat) : Array Value := madeCells #[.int .u8 0] n
def bytesOf (t : ByteArray) : List Value := t.data.toList.map fun b => Value.int .u8 (b.toNat : Nat)
theorem bytesOf_len (t : ByteArray) : (bytesOf t).length = t.size := by simp [bytesOf]
theorem info5 : (Tryz.prog.info? 5).map (fun i => (i.zero, i.size, i.bytes)) = some (some (.int .u8 0), 1, 1) := by kernel_rfl
theorem run_make_bytes (n : Nat) (hn : n ≤ 1000000) (W : World) :
  (Instr.makeSlice 67 (.int .i64 (n : Int)) (.int .i64 (n : Int))).run Tryz.prog W = .ok (.slice (some ⟨W.heap.size, 0, none⟩) n n) (W.alloc (.cells (zeros n) 5)) := by
 obtain ⟨i0, hi, hz0, hz1, hz2⟩ := info_parts info5
 have := run_make (P := Tryz.prog) W 67 5 i0 _ Tryz.underlying67 hi hz0 .i64 .i64 n n kom kom (by rw [hz2]; omega) kom
 rw [this, hz1]
 simp [zeros, Value.cells]
theorem run_copy_bytes (t : ByteArray) (ty : TypeId) (g : Nat) (cur : Array Value) (W : World) (hg : W.heap[g]? = some (.cells cur 5 (0, 0))) (hc : cur.size = t.size) :
  (Builtin.copy_ #[67, 9] ty #[.slice (some ⟨g, 0, none⟩) t.size t.size, .string t]).run Tryz.prog W = .ok (.int .i64 t.size) (W.setRow g (bytesOf t).toArray) := by
 obtain ⟨i0, hi, hz0, hz1, hz2⟩ := info_parts info5
 have h := run_storeCells_from (P := Tryz.prog) g 5 (bytesOf t) 0 cur W hg (by rw [bytesOf_len]; omega) (by
   intro v hv
   simp only [bytesOf, List.mem_map] at hv
   obtain ⟨b, _, rfl⟩ := hv
   rfl)
 rw [List.take_zero, List.nil_append] at h
 simp only [Builtin.copy_]
 simp [run_underlying Tryz.underlying67, Builtin.lenOf, sizeOf, typeInfo, hi, Builtin.firstCells, goInt]
 rw [List.take_of_length_le (by simp)]
 have e : List.map (fun b : UInt8 => Value.int .u8 (b.toNat : Nat)) t.data.toList = bytesOf t := rfl
 rw [e, h]
 rfl
theorem setRow_fresh (w : World) (cs cs' : Array Value) (e : TypeId) : (w.alloc (.cells cs e (0, 0))).setRow w.heap.size cs' = w.alloc (.cells cs' e (0, 0)) := by
 unfold World.setRow World.alloc
 dsimp only
 congr 1
 apply Array.ext
 ·simp
 ·intro k h1 h2
  simp only [Array.getElem_modify, Array.getElem_push]
  by_cases hk : k < w.heap.size
  ·simp [hk, show ¬ w.heap.size = k from by omega]
  ·have : k = w.heap.size := by simp at h2; omega
   subst this
   simp
theorem clone1_any (t : ByteArray) (w : World) (hs : t.size ≤ 1000000) :
  Calls Tryz.prog 184 #[.string t] w fun e w' => e = .returned (.string t) ∧ Kept noX w w' := by
 by_cases h0 : t.size = 0
 ·have h0' : ((t.size : Int) == 0) = true := by rw [h0] <;> rfl
  have e : t = ⟨#[]⟩ := by
   apply ByteArray.ext
   exact Array.eq_empty_of_size_eq_zero h0
  clear h0
  go_enter Tryz.func184, Tryz.ntmps184
  go_wp2
  go_ret
  exact ⟨by rw [e] <;> rfl, Kept.refl _ _⟩
 ·have h0' : ((t.size : Int) == 0) = false := by simpa using h0
  have hz : (zeros t.size).size = t.size := by unfold zeros; exact size_madeCells _ _
  have hmk := run_make_bytes t.size kom
  have hcp := fun ty => run_copy_bytes t ty w.heap.size (zeros t.size) (w.alloc (.cells (zeros t.size) 5)) (World.alloc_heap_new w _) hz
  simp only [setRow_fresh] at hcp
  have hus : ∀ ty, (Builtin.unsafeString_ #[144, 3] ty #[.pointer (some ⟨w.heap.size, 0, none⟩), .int .i64 t.size]).run Tryz.prog (w.alloc (.cells (bytesOf t).toArray 5)) = .ok (.string t) ((w.alloc (.cells (bytesOf t).toArray 5)).freeze ⟨w.heap.size, 0, none⟩ t.size) := fun ty => by
   have hl : t.data.toList.length = t.size := by simp
   have := Lib.run_unsafeString_row (P := Tryz.prog) (w.alloc (.cells (bytesOf t).toArray 5)) 144 3 ty 5 Tryz.underlying144 krf w.heap.size t.size (by
       unfold World.shape?
       rw [World.alloc_heap_new]
       simp [bytesOf]) t.data.toList (by intro h; rw [h] at hl; exact h0 hl.symm) kom kom (by
       intro j x hj
       have hc := (Cells.fresh w 5 (bytesOf t)).cell j
       have : (⟨w.heap.size, 0, none⟩ : Addr).add j = ⟨w.heap.size, j, none⟩ := by unfold Addr.add; split <;> simp_all
       rw [this, hc]
       simp [bytesOf, hj])
   rw [hl] at this
   exact this
  have HK : Hid (Kept noX w ((w.alloc (.cells (bytesOf t).toArray 5)).freeze ⟨w.heap.size, 0, none⟩ t.size)) := aP (((Kept.refl noX w).alloc _).freeze (fun h => by dsimp only at h; omega) _)
  have hlt : (0 : Int) < (t.size : Int) := by omega
  clear h0 hz
  go_enter Tryz.func184, Tryz.ntmps184
  go_wp2
  go_ret
  exact ⟨rfl, HK.out⟩
theorem clone_any (t : ByteArray) (w : World) (hs : t.size ≤ 1000000) :
  Calls Tryz.prog 166 #[.string t] w fun e w' => e = .returned (.string t) ∧ Kept noX w w' := by
 go_enter Tryz.func166, Tryz.ntmps166
 go_wp2_with (go_at_call 184; refine (clone1_any t _ hs).mono ?_; rintro e w' ⟨rfl, hk⟩)
 go_ret
 exact ⟨rfl, hk⟩
def wordR : List UInt8 → Int × Nat × Int × Int
 | [] => (0, 0, 0, 110)
 | b :: l =>
  if letB (b.toNat : Nat) then
   (if (b :: l).take (runQ alnB (b :: l)) ∈ kwL then 3 else 1, runQ alnB (b :: l), 0, if runQ alnB (b :: l) ≤ 16 then 0 else 111)
  else if digB (b.toNat : Nat) then
   (2, runQ alnB (b :: l), numRes ((b :: l).take (runQ alnB (b :: l))), if numOk ((b :: l).take (runQ alnB (b :: l))) then 0 else 112)
  else (4, sgN (b :: l), 0, if sgN (b :: l) = 0 then 110 else 0)
def tokV (s : ByteArray) (i : Nat) (r : Int × Nat × Int × Int) : List Value :=
 [.int .i64 r.1, .string (s.extract i (i + r.2.1)), .int .i64 r.2.2.1, .int .i64 ((plOf s.data.toList i).1 : Nat), .int .i64 ((plOf s.data.toList i).2 : Nat)]
def tok0 : List Value := [.int .i64 0, .string ⟨#[]⟩, .int .i64 0, .int .i64 0, .int .i64 0]
theorem Tab.ne {w : World} {M g : Nat} {v : Int} {ks : List (List UInt8)} {t : TypeId} {cs : List Value} (h : Tab w M v ks) (hc : Cells w g t cs) : M ≠ g := by
 rintro rfl
 obtain ⟨n, es, clock, hb, _⟩ := h
 unfold Cells at hc
 rw [hb] at hc
 cases hc
theorem wordR_let {l : List UInt8} {b : UInt8} (hb : l[0]? = some b) (h : letB (b.toNat : Nat) = true) :
  wordR l = (if l.take (runQ alnB l) ∈ kwL then 3 else 1, runQ alnB l, 0, if runQ alnB l ≤ 16 then 0 else 111) := by
 cases l with
 | nil => simp at hb
 | cons a l => simp only [aZ, Option.some.injEq] at hb; subst hb; simp only [wordR, h, if_true]
theorem wordR_dig {l : List UInt8} {b : UInt8} (hb : l[0]? = some b) (h : letB (b.toNat : Nat) = false) (h2 : digB (b.toNat : Nat) = true) :
  wordR l = (2, runQ alnB l, numRes (l.take (runQ alnB l)), if numOk (l.take (runQ alnB l)) then 0 else 112) := by
 cases l with
 | nil => simp at hb
 | cons a l => simp only [aZ, Option.some.injEq] at hb; subst hb; simp [wordR, h, h2]
theorem wordR_sig {l : List UInt8} {b : UInt8} (hb : l[0]? = some b) (h : letB (b.toNat : Nat) = false) (h2 : digB (b.toNat : Nat) = false) :
  wordR l = (4, sgN l, 0, if sgN l = 0 then 110 else 0) := by
 cases l with
 | nil => simp at hb
 | cons a l => simp only [aZ, Option.some.injEq] at hb; subst hb; simp [wordR, h, h2]
theorem kw_short {t : ByteArray} (h : t.data.toList ∈ kwL) : t.size ≤ 16 := by
 have e : ∀ l ∈ kwL, l.length ≤ 16 := by decide
 have := e _ h
 simpa using this
theorem sgN_le {l : List UInt8} {i0 n : Nat} (hl : l.length = n - i0) (hi : i0 < n) : i0 + sgN l ≤ n := by
 unfold sgN
 split
 ·omega
 ·split <;> omega
structure WS (w W : World) (B K S R T : Nat) (s : ByteArray) (k : Nat) (tok : List Value) : Prop where
 rdr : Rdr W B s k
 res : Cells W R 92 tok0
 tmp : Cells W T 92 tok
 kw : Tab W K 3 kwL
 sg : Tab W S 4 sgL
 rb : R ≠ B
 tb : T ≠ B
 tr : T ≠ R
 rw : w.heap.size ≤ R
 tw : w.heap.size ≤ T
 kept : Kept (· = B) w W
namespace WS
variable {w W W' : World} {B K S R T : Nat} {s : ByteArray} {k : Nat} {tok : List Value}
theorem kept' {k' : Nat} (h : WS w W B K S R T s k tok) (hr : Rdr W' B s k') (hk : Kept (· = B) W W') : WS w W' B K S R T s k' tok :=
 ⟨hr, h.res.kept hk h.rb, h.tmp.kept hk h.tb, h.kw.kept hk (h.kw.ne h.rdr), h.sg.kept hk (h.sg.ne h.rdr), h.rb, h.tb, h.tr, h.rw, h.tw, h.kept.trans hk⟩
theorem same (h : WS w W B K S R T s k tok) (hk : Kept noX W W') : WS w W' B K S R T s k tok :=
 h.kept' (h.rdr.kept hk (fun h => h)) hk.any
theorem set_ (h : WS w W B K S R T s k tok) (i : Nat) (v : Value) : WS w (W.setCell ⟨T, i, none⟩ v) B K S R T s k (tok.set i v) := by
 have hk : Kept (· = T) W (W.setCell ⟨T, i, none⟩ v) := (Kept.refl _ _).setCell (fun _ => by rfl) _
 refine ⟨h.rdr.kept hk (fun e => h.tb e.symm), h.res.kept hk (fun e => h.tr e.symm), h.tmp.put i v, h.kw.kept hk (h.kw.ne h.tmp), h.sg.kept hk (h.sg.ne h.tmp), h.rb, h.tb, h.tr, h.rw, h.tw, h.kept.setCell (fun hh => ?_) v⟩
 have := h.tw
 dsimp only at hh
 omega
theorem fin (h : WS w W B K S R T s k tok) (a0 a1 a2 a3 a4 : Value) :
  Cells (((((W.setCell ⟨R, 0, none⟩ a0).setCell ⟨R, 1, none⟩ a1).setCell ⟨R, 2, none⟩ a2).setCell ⟨R, 3, none⟩ a3).setCell ⟨R, 4, none⟩ a4) R 92 [a0, a1, a2, a3, a4] ∧
  Rdr (((((W.setCell ⟨R, 0, none⟩ a0).setCell ⟨R, 1, none⟩ a1).setCell ⟨R, 2, none⟩ a2).setCell ⟨R, 3, none⟩ a3).setCell ⟨R, 4, none⟩ a4) B s k ∧
  Kept (· = B) w (((((W.setCell ⟨R, 0, none⟩ a0).setCell ⟨R, 1, none⟩ a1).setCell ⟨R, 2, none⟩ a2).setCell ⟨R, 3, none⟩ a3).setCell ⟨R, 4, none⟩ a4) := by
 have hk : Kept (· = R) W (((((W.setCell ⟨R, 0, none⟩ a0).setCell ⟨R, 1, none⟩ a1).setCell ⟨R, 2, none⟩ a2).setCell ⟨R, 3, none⟩ a3).setCell ⟨R, 4, none⟩ a4) :=
  (((((Kept.refl _ _).setCell (fun _ => by rfl) _).setCell (fun _ => by rfl) _).setCell (fun _ => by rfl) _).setCell (fun _ => by rfl) _).setCell (fun _ => by rfl) _
 exact ⟨((((h.res.put 0 a0).put 1 a1).put 2 a2).put 3 a3).put 4 a4, h.rdr.kept hk (fun e => h.rb e.symm), h.kept.join hk (fun i hi hlt => by have := h.rw; omega)⟩
theorem cell (h : WS w W B K S R T s k tok) (i : Nat) : W.cell? ⟨T, i, none⟩ = tok[i]? := h.tmp.cell i
theorem free (h : WS w W B K S R T s k tok) (i : Nat) : W.frozen? ⟨T, i, none⟩ = false := h.tmp.free i
end WS
theorem results37_of {W : World} {R : Nat} {tmps : Array Value} {c0 c1 c2 c3 c4 e : Value} (h : Cells W R 92 [c0, c1, c2, c3, c4]) (h6 : tmps.getD 6 undef = .pointer (some ⟨R, 0, none⟩)) (h7 : tmps.getD 7 undef = e) :
  (results Tryz.f123 tmps).run Tryz.prog W = .ok (.tuple #[.agg #[c0, c1, c2, c3, c4], e]) W := by
 have d0 := h.cell 0; have d1 := h.cell 1; have d2 := h.cell 2; have d3 := h.cell 3; have d4 := h.cell 4
 simp only [aZ, aS] at d0 d1 d2 d3 d4
 rw [Array.getD_eq_getD_getElem?] at h6 h7
 simp [results, Tryz.results123, go_sem, h6, h7, d0, d1, d2, d3, d4]
theorem word_any (B K S : Nat) (s : ByteArray) (hs : s.size ≤ 1000000) (i0 : Nat) (hi0 : i0 < s.size) (w : World) (hr : Rdr w B s i0) (hK : Tab w K 3 kwL) (hS : Tab w S 4 sgL) :
  Calls Tryz.prog 123 #[.pointer (some ⟨B, 0, none⟩), .map (some K), .map (some S)] w fun e w' =>
   e = .returned (.tuple #[.agg (tokV s i0 (wordR (s.data.toList.drop i0))).toArray, .int .i64 (wordR (s.data.toList.drop i0)).2.2.2]) ∧ Rdr w' B s (i0 + (wordR (s.data.toList.drop i0)).2.1) ∧ Kept (· = B) w w' := by
 have hB : B < w.heap.size := Cells.lt hr
 obtain ⟨c0, c1, c2, c3, f0, f1, f2, f3⟩ := hr.is
 go_enter Tryz.func123, Tryz.ntmps123
 go_wp2_with fail
 go_quiet (fail)
 go_wp2_with fail
 have hws : WS w (((w.alloc (.cells tok0.toArray 92)).alloc (.cells [.int .i64 0, .string ⟨#[]⟩, .int .i64 0, .int .i64 ((plOf s.data.toList i0).1 : Nat), .int .i64 ((plOf s.data.toList i0).2 : Nat)].toArray 92)).drewN nq) B K S w.heap.size (w.heap.size + 1) s i0
   [.int .i64 0, .string ⟨#[]⟩, .int .i64 0, .int .i64 ((plOf s.data.toList i0).1 : Nat), .int .i64 ((plOf s.data.toList i0).2 : Nat)] := by
  have hk : Kept noX w (((w.alloc (.cells tok0.toArray 92)).alloc (.cells [.int .i64 0, .string ⟨#[]⟩, .int .i64 0, .int .i64 ((plOf s.data.toList i0).1 : Nat), .int .i64 ((plOf s.data.toList i0).2 : Nat)].toArray 92)).drewN nq) := (((Kept.refl _ _).alloc _).alloc _).drewN _
  have h2 := Cells.fresh (w.alloc (.cells tok0.toArray 92)) 92 [.int .i64 0, .string ⟨#[]⟩, .int .i64 0, .int .i64 ((plOf s.data.toList i0).1 : Nat), .int .i64 ((plOf s.data.toList i0).2 : Nat)]
  rw [World.size_alloc] at h2
  exact ⟨hr.kept hk (fun h => h), (Cells.fresh w 92 tok0).alloc _, h2, hK.kept hk (fun h => h), hS.kept hk (fun h => h), by omega, by omega, by omega, Nat.le_refl _, by omega, hk.any⟩
 clear hr hK hS c0 c1 c2 c3 f0 f1 f2 f3
 generalize hW : ((w.alloc (.cells #[.int .i64 0, .string ⟨#[]⟩, .int .i64 0, .int .i64 0, .int .i64 0] 92)).alloc (.cells #[.int .i64 0, .string ⟨#[]⟩, .int .i64 0, .int .i64 ((plOf s.data.toList i0).1 : Nat), .int .i64 ((plOf s.data.toList i0).2 : Nat)] 92)).drewN nq = W0
 have hws' : WS w W0 B K S w.heap.size (w.heap.size + 1) s i0 [.int .i64 0, .string ⟨#[]⟩, .int .i64 0, .int .i64 ((plOf s.data.toList i0).1 : Nat), .int .i64 ((plOf s.data.toList i0).2 : Nat)] := by rw [← hW]; exact hws
 clear hws hW
 generalize w.heap.size = R at hws' ⊢
 have hdl : (s.data.toList.drop i0).length = s.size - i0 := drop_len
 have hn1 : i0 + runQ alnB (s.data.toList.drop i0) ≤ s.size := by
  have : runQ alnB (s.data.toList.drop i0) ≤ _ := runS_le _ _ _ _
  omega
 have HDL := aP hdl
 clear hdl
 have hb0 := drop_at (s := s) (Nat.le_refl i0) hi0
 rw [Nat.sub_self] at hb0
 have HB0 := aP hb0
 clear hb0
 cases hl : letB (s[i0].toNat : Nat) with
 | true =>
  have HW := aP (wordR_let HB0.out hl)
  have HC : Hid (∀ W, Calls Tryz.prog 144 #[.int .u8 (s[i0].toNat : Nat)] W fun e w' => e = .returned (.bool true) ∧ W = w') := aP (fun W => by rw [← hl]; exact letter_any _ W)
  clear hl
  refine (HC.out _).mono ?_
  rintro e W0' ⟨rfl, rfl⟩
  go_wp2_with fail
  refine (off_aln B s hs i0 kom _ hws'.rdr).mono ?_
  rintro e W1 ⟨rfl, hr1, hk1⟩
  obtain ⟨t, ht⟩ : ∃ t, t = s.extract i0 (i0 + runQ alnB (s.data.toList.drop i0)) := ⟨_, rfl⟩
  rw [← ht]
  have h1 := hws'.kept' hr1 hk1
  have htl : t.data.toList = (s.data.toList.drop i0).take (runQ alnB (s.data.toList.drop i0)) := by rw [ht, extract_list]
  have hts : t.size = runQ alnB (s.data.toList.drop i0) := by rw [ht, ByteArray.size_extract]; omega
  have HT := aP ht
  have HTL := aP htl
  have HTS := aP hts
  have hts2 : t.size ≤ 1000000 := by omega
  clear ht htl hts hr1 hk1 hws' HC
  obtain ⟨k1, hk1⟩ : ∃ k, k = i0 + runQ alnB (s.data.toList.drop i0) := ⟨_, rfl⟩
  rw [← hk1] at h1
  have HK1 := aP hk1
  clear hk1
  have h3 := (h1.set_ 0 (.int .i64 1)).set_ 1 (.string t)
  have hlk := h3.kw.look t (by unfold maxLen; omega)
  have d0 := h1.cell 0; have d1 := h1.cell 1; have d2 := h1.cell 2; have d3 := h1.cell 3; have d4 := h1.cell 4
  have g0 := h1.free 0; have g1 := h1.free 1; have g2 := h1.free 2; have g3 := h1.free 3; have g4 := h1.free 4
  simp only [aZ, aS] at d0 d1 d2 d3 d4
  by_cases hkw : t.data.toList ∈ kwL
  ·rw [if_pos hkw] at hlk
   have ht16 : t.size ≤ 16 := kw_short hkw
   have HKW := aP hkw
   clear hkw
   have h4 := h3.set_ 0 (.int .i64 3)
   clear h3
   go_wp2_with fail
   refine (clone_any t _ hts2).mono ?_
   rintro e W2 ⟨rfl, hk2⟩
   have h5 := h4.same hk2
   clear h1 h4 hk2 hlk d0 d1 d2 d3 d4 g0 g1 g2 g3 g4
   simp only [List.set_cons_zero, List.set_cons_succ] at h5
   have d0 := h5.cell 0; have d1 := h5.cell 1; have d2 := h5.cell 2; have d3 := h5.cell 3; have d4 := h5.cell 4
   have g0 := h5.free 0; have g1 := h5.free 1; have g2 := h5.free 2; have g3 := h5.free 3; have g4 := h5.free 4
   have r0 := h5.res.cell 0; have r1 := h5.res.cell 1; have r2 := h5.res.cell 2; have r3 := h5.res.cell 3; have r4 := h5.res.cell 4
   have q0 := h5.res.free 0; have q1 := h5.res.free 1; have q2 := h5.res.free 2; have q3 := h5.res.free 3; have q4 := h5.res.free 4
   simp only [tok0, aZ, aS] at d0 d1 d2 d3 d4 r0 r1 r2 r3 r4
   go_wp2
   obtain ⟨hf1, hf2, hf3⟩ := (h5.set_ 1 (.string t)).fin (.int .i64 3) (.string t) (.int .i64 0) (.int .i64 ((plOf s.data.toList i0).1 : Nat)) (.int .i64 ((plOf s.data.toList i0).2 : Nat))
   refine bodyPost_ret (results37_of hf1 rfl rfl) rfl ?_
   refine ⟨?_, ?_, hf3⟩
   ·rw [HW.out, ← HTL.out, if_pos HKW.out, if_pos (by rw [← HTS.out]; omega)]
    unfold tokV
    rw [← HT.out]
    rfl
   ·rw [HW.out]
    rw [HK1.out] at hf2
    exact hf2
  ·rw [if_neg hkw] at hlk
   have HKW := aP hkw
   clear hkw
   by_cases ht16 : t.size ≤ 16
   ·go_wp2_with fail
    refine (clone_any t _ hts2).mono ?_
    rintro e W2 ⟨rfl, hk2⟩
    have h5 := h3.same hk2
    clear h1 h3 hk2 hlk d0 d1 d2 d3 d4 g0 g1 g2 g3 g4
    simp only [List.set_cons_zero, List.set_cons_succ] at h5
    have d0 := h5.cell 0; have d1 := h5.cell 1; have d2 := h5.cell 2; have d3 := h5.cell 3; have d4 := h5.cell 4
    have g0 := h5.free 0; have g1 := h5.free 1; have g2 := h5.free 2; have g3 := h5.free 3; have g4 := h5.free 4
    have r0 := h5.res.cell 0; have r1 := h5.res.cell 1; have r2 := h5.res.cell 2; have r3 := h5.res.cell 3; have r4 := h5.res.cell 4
    have q0 := h5.res.free 0; have q1 := h5.res.free 1; have q2 := h5.res.free 2; have q3 := h5.res.free 3; have q4 := h5.res.free 4
    simp only [tok0, aZ, aS] at d0 d1 d2 d3 d4 r0 r1 r2 r3 r4
    go_wp2
    obtain ⟨hf1, hf2, hf3⟩ := (h5.set_ 1 (.string t)).fin (.int .i64 1) (.string t) (.int .i64 0) (.int .i64 ((plOf s.data.toList i0).1 : Nat)) (.int .i64 ((plOf s.data.toList i0).2 : Nat))
    refine bodyPost_ret (results37_of hf1 rfl rfl) rfl ?_
    refine ⟨?_, ?_, hf3⟩
    ·rw [HW.out, ← HTL.out, if_neg HKW.out, if_pos (by rw [← HTS.out]; omega)]
     unfold tokV
     rw [← HT.out]
     rfl
    ·rw [HW.out]
     rw [HK1.out] at hf2
     exact hf2
   ·have h5 := h3
    simp only [List.set_cons_zero, List.set_cons_succ] at h5
    have r0 := h1.res.cell 0; have r1 := h1.res.cell 1; have r2 := h1.res.cell 2; have r3 := h1.res.cell 3; have r4 := h1.res.cell 4
    have q0 := h1.res.free 0; have q1 := h1.res.free 1; have q2 := h1.res.free 2; have q3 := h1.res.free 3; have q4 := h1.res.free 4
    simp only [tok0, aZ, aS] at r0 r1 r2 r3 r4
    clear h1 h3
    go_wp2
    obtain ⟨hf1, hf2, hf3⟩ := h5.fin (.int .i64 1) (.string t) (.int .i64 0) (.int .i64 ((plOf s.data.toList i0).1 : Nat)) (.int .i64 ((plOf s.data.toList i0).2 : Nat))
    refine bodyPost_ret (results37_of hf1 rfl rfl) rfl ?_
    refine ⟨?_, ?_, hf3⟩
    ·rw [HW.out, ← HTL.out, if_neg HKW.out, if_neg (by rw [← HTS.out]; omega)]
     unfold tokV
     rw [← HT.out]
     rfl
    ·rw [HW.out]
     rw [HK1.out] at hf2
     exact hf2
 | false =>
  have HC : Hid (∀ W, Calls Tryz.prog 144 #[.int .u8 (s[i0].toNat : Nat)] W fun e w' => e = .returned (.bool false) ∧ W = w') := aP (fun W => by rw [← hl]; exact letter_any _ W)
  cases hdg : digB (s[i0].toNat : Nat) with
  | true =>
   have HW := aP (wordR_dig HB0.out hl hdg)
   have HC2 : Hid (∀ W, Calls Tryz.prog 163 #[.int .u8 (s[i0].toNat : Nat)] W fun e w' => e = .returned (.bool true) ∧ W = w') := aP (fun W => by rw [← hdg]; exact digit_any _ W)
   clear hl hdg
   refine (HC.out _).mono ?_
   rintro e W0' ⟨rfl, rfl⟩
   go_wp2_with fail
   refine (HC2.out _).mono ?_
   rintro e W0' ⟨rfl, rfl⟩
   go_wp2_with fail
   refine (off_aln B s hs i0 kom _ hws'.rdr).mono ?_
   rintro e W1 ⟨rfl, hr1, hk1⟩
   obtain ⟨t, ht⟩ : ∃ t, t = s.extract i0 (i0 + runQ alnB (s.data.toList.drop i0)) := ⟨_, rfl⟩
   rw [← ht]
   have h1 := hws'.kept' hr1 hk1
   have htl : t.data.toList = (s.data.toList.drop i0).take (runQ alnB (s.data.toList.drop i0)) := by rw [ht, extract_list]
   have hts : t.size = runQ alnB (s.data.toList.drop i0) := by rw [ht, ByteArray.size_extract]; omega
   have HT := aP ht
   have HTL := aP htl
   have HTS := aP hts
   have hts2 : t.size ≤ 1000000 := by omega
   clear ht htl hts hr1 hk1 hws' HC HC2
   obtain ⟨k1, hk1⟩ : ∃ k, k = i0 + runQ alnB (s.data.toList.drop i0) := ⟨_, rfl⟩
   rw [← hk1] at h1
   have HK1 := aP hk1
   clear hk1
   have h3 := (h1.set_ 0 (.int .i64 2)).set_ 1 (.string t)
   have d0 := h1.cell 0; have d1 := h1.cell 1; have d2 := h1.cell 2; have d3 := h1.cell 3; have d4 := h1.cell 4
   have g0 := h1.free 0; have g1 := h1.free 1; have g2 := h1.free 2; have g3 := h1.free 3; have g4 := h1.free 4
   have r0 := h1.res.cell 0; have r1 := h1.res.cell 1; have r2 := h1.res.cell 2; have r3 := h1.res.cell 3; have r4 := h1.res.cell 4
   have q0 := h1.res.free 0; have q1 := h1.res.free 1; have q2 := h1.res.free 2; have q3 := h1.res.free 3; have q4 := h1.res.free 4
   simp only [tok0, aZ, aS] at d0 d1 d2 d3 d4 r0 r1 r2 r3 r4
   clear h1
   go_wp2_with fail
   refine (number_any t _ hts2).mono ?_
   rintro e W1' ⟨rfl, rfl⟩
   cases hok : numOk t.data.toList with
   | true =>
    have HOK := aP hok
    clear hok
    generalize hnr : numRes t.data.toList = nr
    have HNR := aP hnr
    clear hnr
    have h4 := h3.set_ 2 (.int .i64 nr)
    clear h3
    go_wp2_with fail
    refine (clone_any t _ hts2).mono ?_
    rintro e W2 ⟨rfl, hk2⟩
    have h5 := h4.same hk2
    clear h4 hk2 d0 d1 d2 d3 d4 g0 g1 g2 g3 g4 r0 r1 r2 r3 r4 q0 q1 q2 q3 q4
    simp only [List.set_cons_zero, List.set_cons_succ] at h5
    have d0 := h5.cell 0; have d1 := h5.cell 1; have d2 := h5.cell 2; have d3 := h5.cell 3; have d4 := h5.cell 4
    have g0 := h5.free 0; have g1 := h5.free 1; have g2 := h5.free 2; have g3 := h5.free 3; have g4 := h5.free 4
    have r0 := h5.res.cell 0; have r1 := h5.res.cell 1; have r2 := h5.res.cell 2; have r3 := h5.res.cell 3; have r4 := h5.res.cell 4
    have q0 := h5.res.free 0; have q1 := h5.res.free 1; have q2 := h5.res.free 2; have q3 := h5.res.free 3; have q4 := h5.res.free 4
    simp only [tok0, aZ, aS] at d0 d1 d2 d3 d4 r0 r1 r2 r3 r4
    go_wp2
    obtain ⟨hf1, hf2, hf3⟩ := (h5.set_ 1 (.string t)).fin (.int .i64 2) (.string t) (.int .i64 nr) (.int .i64 ((plOf s.data.toList i0).1 : Nat)) (.int .i64 ((plOf s.data.toList i0).2 : Nat))
    refine bodyPost_ret (results37_of hf1 rfl rfl) rfl ?_
    refine ⟨?_, ?_, hf3⟩
    ·rw [HW.out, ← HTL.out, if_pos HOK.out, HNR.out]
     unfold tokV
     rw [← HT.out]
     rfl
    ·rw [HW.out]
     rw [HK1.out] at hf2
     exact hf2
   | false =>
    have HOK := aP hok
    clear hok
    have h5 := h3
    simp only [List.set_cons_zero, List.set_cons_succ] at h5
    clear h3
    go_wp2
    obtain ⟨hf1, hf2, hf3⟩ := h5.fin (.int .i64 2) (.string t) (.int .i64 0) (.int .i64 ((plOf s.data.toList i0).1 : Nat)) (.int .i64 ((plOf s.data.toList i0).2 : Nat))
    refine bodyPost_ret (results37_of hf1 rfl rfl) rfl ?_
    refine ⟨?_, ?_, hf3⟩
    ·rw [HW.out, ← HTL.out, if_neg (by rw [HOK.out]; decide), numRes_no HOK.out]
     unfold tokV
     rw [← HT.out]
     rfl
    ·rw [HW.out]
     rw [HK1.out] at hf2
     exact hf2
  | false =>
   have HW := aP (wordR_sig HB0.out hl hdg)
   have HC2 : Hid (∀ W, Calls Tryz.prog 163 #[.int .u8 (s[i0].toNat : Nat)] W fun e w' => e = .returned (.bool false) ∧ W = w') := aP (fun W => by rw [← hdg]; exact digit_any _ W)
   clear hl hdg
   refine (HC.out _).mono ?_
   rintro e W0' ⟨rfl, rfl⟩
   go_wp2_with fail
   refine (HC2.out _).mono ?_
   rintro e W0' ⟨rfl, rfl⟩
   go_wp2_with fail
   refine (sign_any B S s hs i0 hi0 _ hws'.rdr hws'.sg).mono ?_
   rintro e W1 ⟨rfl, hr1, hk1⟩
   obtain ⟨t, ht⟩ : ∃ t, t = s.extract i0 (i0 + sgN (s.data.toList.drop i0)) := ⟨_, rfl⟩
   rw [← ht]
   have h1 := hws'.kept' hr1 hk1
   have hsl : i0 + sgN (s.data.toList.drop i0) ≤ s.size := sgN_le HDL.out hi0
   have hts : t.size = sgN (s.data.toList.drop i0) := by rw [ht, ByteArray.size_extract]; omega
   have HT := aP ht
   have HTS := aP hts
   have hts2 : t.size ≤ 1000000 := by omega
   clear ht hts hr1 hk1 hws' HC HC2
   obtain ⟨k1, hk1⟩ : ∃ k, k = i0 + sgN (s.data.toList.drop i0) := ⟨_, rfl⟩
   rw [← hk1] at h1
   have HK1 := aP hk1
   clear hk1
   have h3 := (h1.set_ 0 (.int .i64 4)).set_ 1 (.string t)
   have d0 := h1.cell 0; have d1 := h1.cell 1; have d2 := h1.cell 2; have d3 := h1.cell 3; have d4 := h1.cell 4
   have g0 := h1.free 0; have g1 := h1.free 1; have g2 := h1.free 2; have g3 := h1.free 3; have g4 := h1.free 4
   have r0 := h1.res.cell 0; have r1 := h1.res.cell 1; have r2 := h1.res.cell 2; have r3 := h1.res.cell 3; have r4 := h1.res.cell 4
   have q0 := h1.res.free 0; have q1 := h1.res.free 1; have q2 := h1.res.free 2; have q3 := h1.res.free 3; have q4 := h1.res.free 4
   simp only [tok0, aZ, aS] at d0 d1 d2 d3 d4 r0 r1 r2 r3 r4
   clear h1
   by_cases h0 : t.size = 0
   ·have HE : Hid (sgN (s.data.toList.drop i0) = 0) := aP (by rw [← HTS.out]; exact h0)
    have htE : t = ⟨#[]⟩ := by apply ByteArray.ext; exact Array.eq_empty_of_size_eq_zero h0
    clear h0
    subst htE
    have h5 := h3
    simp only [List.set_cons_zero, List.set_cons_succ] at h5
    clear h3
    go_wp2
    obtain ⟨hf1, hf2, hf3⟩ := h5.fin (.int .i64 4) (.string ⟨#[]⟩) (.int .i64 0) (.int .i64 ((plOf s.data.toList i0).1 : Nat)) (.int .i64 ((plOf s.data.toList i0).2 : Nat))
    refine bodyPost_ret (results37_of hf1 rfl rfl) rfl ?_
    refine ⟨?_, ?_, hf3⟩
    ·rw [HW.out, if_pos HE.out]
     unfold tokV
     rw [← HT.out]
     rfl
    ·rw [HW.out]
     rw [HK1.out] at hf2
     exact hf2
   ·have HE : Hid (sgN (s.data.toList.drop i0) ≠ 0) := aP (by rw [← HTS.out]; exact h0)
    have hne : t.data.toList.isEmpty = false := by
     rw [List.isEmpty_eq_false_iff]
     intro h
     have : t.data.toList.length = t.size := by simp
     rw [h] at this
     exact h0 this.symm
    rw [← ByteArray.toList_eq] at hne
    clear h0
    go_wp2_with fail
    refine (clone_any t _ hts2).mono ?_
    rintro e W2 ⟨rfl, hk2⟩
    have h5 := h3.same hk2
    clear h3 hk2 d0 d1 d2 d3 d4 g0 g1 g2 g3 g4 r0 r1 r2 r3 r4 q0 q1 q2 q3 q4
    simp only [List.set_cons_zero, List.set_cons_succ] at h5
    have d0 := h5.cell 0; have d1 := h5.cell 1; have d2 := h5.cell 2; have d3 := h5.cell 3; have d4 := h5.cell 4
    have g0 := h5.free 0; have g1 := h5.free 1; have g2 := h5.free 2; have g3 := h5.free 3; have g4 := h5.free 4
    have r0 := h5.res.cell 0; have r1 := h5.res.cell 1; have r2 := h5.res.cell 2; have r3 := h5.res.cell 3; have r4 := h5.res.cell 4
    have q0 := h5.res.free 0; have q1 := h5.res.free 1; have q2 := h5.res.free 2; have q3 := h5.res.free 3; have q4 := h5.res.free 4
    simp only [tok0, aZ, aS] at d0 d1 d2 d3 d4 r0 r1 r2 r3 r4
    go_wp2
    obtain ⟨hf1, hf2, hf3⟩ := (h5.set_ 1 (.string t)).fin (.int .i64 4) (.string t) (.int .i64 0) (.int .i64 ((plOf s.data.toList i0).1 : Nat)) (.int .i64 ((plOf s.data.toList i0).2 : Nat))
    refine bodyPost_ret (results37_of hf1 rfl rfl) rfl ?_
    refine ⟨?_, ?_, hf3⟩
    ·rw [HW.out, if_neg HE.out]
     unfold tokV
     rw [← HT.out]
     rfl
    ·rw [HW.out]
     rw [HK1.out] at hf2
     exact hf2
end Go.Proofs.YtjkgepppoopheaaGreatDoor
