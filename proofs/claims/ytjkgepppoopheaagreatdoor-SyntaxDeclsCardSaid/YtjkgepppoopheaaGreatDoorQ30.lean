/- What the texts of real words tell of their kinds (conditions: the words are good). -/
import Derived.Test.YtjkgepppoopheaaGreatDoorAbb
import Derived.Test.YtjkgepppoopheaaGreatDoorQ28
import Derived.Test.YtjkgepppoopheaaGreatDoorQ21
import Derived.Test.YtjkgepppoopheaaGreatDoorQ20
import Derived.Test.YtjkgepppoopheaaGreatDoorQ22
import Derived.Test.YtjkgepppoopheaaGreatDoorQ19
import Derived.Test.YtjkgepppoopheaaGreatDoorQ23
import Derived.Test.YtjkgepppoopheaaGreatDoorQ29
set_option maxRecDepth 100000
set_option maxHeartbeats 1000000
namespace Go.Proofs.YtjkgepppoopheaaGreatDoor
open Go.RowKit Go.Shelf
theorem string_calls {W : World} {B : Nat} {s : ByteArray} (h : BAt W B s) (h0 : s.size ≠ 0) (hlen : s.size ≤ most) :
  Calls Tryz.prog 46 #[.pointer (some ⟨B, 0, none⟩)] W fun e W' => e = .returned (.string s) ∧ Kept (B ≤ ·) W W' := by
 have hrow := fun g => h.row (g := g)
 obtain ⟨ad, v, hc, _, ho⟩ := h
 rw [rowB_eq hc] at hrow
 unfold most at hlen
 have hl : s.data.toList.length = s.size := by simp
 rcases ho.2 with ⟨_, hz⟩ | ⟨g, cap, cur, rfl, hbg, hg, hnc, hcm, hcs, htake⟩
 ·exact absurd hz h0
 have hg2 := hrow g rfl
 have c1 : W.drew.cell? ⟨B, 1, none⟩ = some (.slice (some ⟨g, 0, none⟩) s.size cap) := hc.drew.cell 1
 have hSD : ∀ ty, (Builtin.unsafeSliceData_ #[67] ty #[.slice (some ⟨g, 0, none⟩) s.size cap]).run Tryz.prog W.drew = .ok (.pointer (some ⟨g, 0, none⟩)) W.drew := fun ty =>
  Lib.run_unsafeSliceData_row _ _ _ _ _ _ kom
 have hcz : s.size ≤ cur.size := by omega
 have hUS : ∀ ty, (Builtin.unsafeString_ #[144, 3] ty #[.pointer (some ⟨g, 0, none⟩), .int .i64 (s.size : Nat)]).run Tryz.prog W.drew = .ok (.string s) (W.drew.freeze ⟨g, 0, none⟩ s.size) := fun ty => by
  have h1 := Lib.run_unsafeString_row (P := Tryz.prog) W.drew 144 3 ty 5 Tryz.underlying144 krf g cur.size (by
    have hg' : W.drew.heap[g]? = some (.cells cur 5 (0, 0)) := hg
    simp [World.shape?, hg']) s.data.toList (by intro hh; rw [hh] at hl; exact h0 hl.symm) (by rw [hl]; exact hcz) kom (by
    intro j x hx
    have := ho.cells (g := g) rfl j (.int .u8 x.toNat) (by simp [Lib.strCells, hx])
    exact this)
  rw [hl] at h1
  exact h1
 have HK : Hid (Kept (B ≤ ·) W (W.drew.freeze ⟨g, 0, none⟩ s.size)) := aP (Kept.freeze (((Kept.refl (B ≤ ·) W).drew)) (fun _ => by show B ≤ g; omega) _)
 have c2 := c1
 clear hc ho hg hcs hcz htake hrow
 go_enter Tryz.func46, Tryz.ntmps46
 go_wp2
 go_region
 all_goals
  go_wp2
  go_ret
  exact ⟨rfl, HK.out⟩
theorem string_nil {W : World} {B : Nat} {ad : Value} (hc : Cells W B 99 [ad, .slice none 0 0]) :
  Calls Tryz.prog 46 #[.pointer (some ⟨B, 0, none⟩)] W fun e W' => e = .returned (.string ⟨#[]⟩) ∧ Kept noX W W' := by
 have c1 : W.drew.cell? ⟨B, 1, none⟩ = some (.slice none 0 0) := hc.drew.cell 1
 have hSD : ∀ ty, (Builtin.unsafeSliceData_ #[67] ty #[.slice none 0 0]).run Tryz.prog W.drew = .ok (.pointer none) W.drew := fun ty => rfl
 have hUS : ∀ ty, (Builtin.unsafeString_ #[144, 3] ty #[.pointer none, .int .i64 0]).run Tryz.prog W.drew = .ok (.string ⟨#[]⟩) W.drew := fun ty => Lib.run_unsafeString_none _ _ _ _ _
 have HK : Hid (Kept noX W W.drew) := aP (Kept.refl _ _).drew
 clear hc
 go_enter Tryz.func46, Tryz.ntmps46
 go_wp2
 go_region
 all_goals
  go_wp2
  go_ret
  exact ⟨rfl, HK.out⟩
theorem end1_any (x : Int) (w : World) :
  Calls Tryz.prog 68 #[.int .u8 x] w fun e w' => e = .returned (.bool true) ∧ w = w' := by
 go_enter Tryz.func68, Tryz.ntmps68
 go_wp2
 go_ret
 exact ⟨rfl, rfl⟩
theorem off_end (B : Nat) (s : ByteArray) (hs : s.size ≤ 1000000) (i0 : Nat) (hi0 : i0 ≤ s.size) (w : World) (hr : Rdr w B s i0) :
  Calls Tryz.prog 67 #[.pointer (some ⟨B, 0, none⟩), .func (.func 68) #[] #[]] w fun e w' =>
   e = .returned (.string (s.extract i0 (i0 + runQ (fun _ => true) (s.data.toList.drop i0)))) ∧ Rdr w' B s (i0 + runQ (fun _ => true) (s.data.toList.drop i0)) ∧ Kept (· = B) w w' :=
 off_pure 68 (fun _ => true) (enters_of Tryz.func68 krf rfl) end1_any B s hs i0 hi0 w hr
theorem runQ_all : ∀ l : List UInt8, runQ (fun _ => true) l = l.length := by
 intro l
 induction l with
 | nil => rfl
 | cons b l ih =>
  unfold runQ at ih ⊢
  unfold runS
  rw [if_pos rfl, ih]
  rfl
theorem results19_of {W : World} {R : Nat} {tmps : Array Value} {c0 c1 : Value} (h : Cells W R 25 [c0, c1]) (h2 : tmps.getD 2 undef = .pointer (some ⟨R, 0, none⟩)) :
  (results Tryz.f36 tmps).run Tryz.prog W = .ok (.agg #[c0, c1]) W := by
 have d0 := h.cell 0; have d1 := h.cell 1
 simp only [aZ, aS] at d0 d1
 rw [Array.getD_eq_getD_getElem?] at h2
 simp [results, Tryz.results36, go_sem, h2, d0, d1]
def plV (s : ByteArray) (k : Nat) : Value := .agg #[.int .i64 ((plOf s.data.toList k).1 : Nat), .int .i64 ((plOf s.data.toList k).2 : Nat)]
theorem end_any (s : ByteArray) (hs : s.size ≤ 1000000) (w : World) :
  Calls Tryz.prog 36 #[.string s] w fun e w' => e = .returned (plV s s.size) ∧ Kept noX w w' := by
 go_enter Tryz.func36, Tryz.ntmps36
 go_wp2_with fail
 refine (begin_any s _).mono ?_
 rintro e W1 ⟨rfl, hW1⟩
 rw [World.size_alloc] at *
 have hr1 : Rdr W1 (w.heap.size + 1) s 0 := by
  rw [hW1]
  have := Cells.fresh (w.alloc (.cells #[.int .i64 0, .int .i64 0] 25)) 125 [.int .i64 1, .int .i64 1, .string s, .int .i64 0]
  rw [World.size_alloc] at this
  exact this
 have hR1 : Cells W1 w.heap.size 25 [.int .i64 0, .int .i64 0] := by rw [hW1]; exact (Cells.fresh w 25 [.int .i64 0, .int .i64 0]).alloc _
 have hk1 : Kept noX w W1 := by rw [hW1]; exact ((Kept.refl _ _).alloc _).alloc _
 clear hW1
 have hoff := aP (off_end (w.heap.size + 1) s hs 0 (Nat.zero_le _) W1 hr1)
 go_wp2_with fail
 refine hoff.out.mono ?_
 rintro e W2 ⟨rfl, hr2, hk2⟩
 rw [List.drop_zero, runQ_all, Nat.zero_add] at hr2
 rw [show s.data.toList.length = s.size from by simp] at hr2
 have hR2 := hR1.kept hk2 (fun h => by omega)
 have hk3 := hk1.join hk2 (fun i hi hlt => by omega)
 obtain ⟨c0, c1, c2, c3, f0, f1, f2, f3⟩ := hr2.is
 have r0 := hR2.cell 0; have r1 := hR2.cell 1; have q0 := hR2.free 0; have q1 := hR2.free 1
 simp only [aZ, aS] at r0 r1
 clear hoff hR1 hk1 hk2 hr1
 go_wp2
 refine bodyPost_ret (results19_of ((hR2.put 0 _).put 1 _) rfl) rfl ?_
 exact ⟨rfl, (hk3.setCell (fun h => by dsimp only at h; omega) _).setCell (fun h => by dsimp only at h; omega) _⟩
def srcP (s : ByteArray) (n : Nat) : Src := ⟨.nilFunc, n, fun k => tokD s (posW s.data.toList k), ((plOf s.data.toList s.size).1 : Nat), ((plOf s.data.toList s.size).2 : Nat), 0, fun _ => 0, 0, fun _ => True⟩
def progR (S : Src) : Except (Int × Int × Int) (List DT) :=
 match progS S (S.n + 1) 0 with
 | .error k => .error ((S.tok k).line, (S.tok k).col, 120)
 | .ok p => match tooDeepP p.1 with
  | some q => .error (q.1, q.2, 121)
  | none => .ok p.1
def IsParse (s : ByteArray) (r : Except (Int × Int × Int) (List DT)) : Prop :=
 (∃ n, goodW s.data.toList n ∧ posW s.data.toList n = s.data.toList.length ∧ r = progR (srcP s n)) ∨
 (∃ n, goodW s.data.toList n ∧ posW s.data.toList n < s.data.toList.length ∧ errW s.data.toList (posW s.data.toList n) ≠ 0 ∧
   r = .error (((plOf s.data.toList (posW s.data.toList n)).1 : Nat), ((plOf s.data.toList (posW s.data.toList n)).2 : Nat), errW s.data.toList (posW s.data.toList n)))
def ParseV (w : World) (r : Except (Int × Int × Int) (List DT)) (e : Ending) (w' : World) : Prop :=
 match r with
 | .error q => e = .returned (.tuple #[.slice none 0 0, .agg #[.int .i64 q.1, .int .i64 q.2.1], .int .i64 q.2.2])
 | .ok l => ∃ v, e = .returned (.tuple #[v, .agg #[.int .i64 0, .int .i64 0], .int .i64 0]) ∧ RowV w' (· < w.heap.size) v (l.map DT.d)
theorem OpsAt.kept {X : Nat → Prop} {W W' : World} (h : OpsAt W) (hk : Kept X W W') (hx : ∀ g, X g → W.heap.size ≤ g) : OpsAt W' := by
 obtain ⟨v0, v1, v2, v3, v4, h1, h2⟩ := h
 refine ⟨v0, v1, v2, v3, v4, fun j v hv => ?_, fun i hi => ?_⟩
 ·have h3 := h1 j v hv
  rw [← h3]
  exact World.cell?_of_block (hk.block _ (block_lt_of h3) (fun hX => Nat.lt_irrefl _ (Nat.lt_of_lt_of_le (block_lt_of h3) (hx _ hX))))
 ·exact (((h2 i hi).mono (Z' := fun g => W.heap.size ≤ g) (fun g hg h => by have h : W.heap.size ≤ g := h; omega)).kept hk (fun g _ h => hx g h)).mono (fun _ _ h => h.elim)
theorem DeclsAt.kept {X : Nat → Prop} {W W' : World} (h : DeclsAt W) (hk : Kept X W W') (hx : ∀ g, X g → W.heap.size ≤ g) : DeclsAt W' := fun j v hv => by
 have h3 := h j v hv
 rw [← h3]
 exact World.cell?_of_block (hk.block _ (block_lt_of h3) (fun hX => Nat.lt_irrefl _ (Nat.lt_of_lt_of_le (block_lt_of h3) (hx _ hX))))
theorem TokRow.own_lt {W : World} {v : Value} {n : Nat} {T : Nat → TokD} (h : TokRow W v n T) {g : Nat} (hg : v.ownBlock = some g) : g < W.heap.size := by
 obtain ⟨xs, h1, _⟩ := h
 rcases h1.2 with ⟨rfl, _⟩ | ⟨g', cap, cur, rfl, _, hb, _⟩
 ·simp [Value.ownBlock] at hg
 ·have : g' = g := by simpa [Value.ownBlock] using hg
  subst this
  exact (Array.getElem?_eq_some_iff.1 hb).1
theorem puts3 {W : World} {p0 p1 p2 : Nat} {t0 t1 t2 : TypeId} {a b c d : Value} (h0 : Cells W p0 t0 [a]) (h1 : Cells W p1 t1 [b, c]) (h2 : Cells W p2 t2 [d]) (n01 : p0 ≠ p1) (n02 : p0 ≠ p2) (n12 : p1 ≠ p2) (a' b' c' d' : Value) :
  Cells ((((W.setCell ⟨p0, 0, none⟩ a').setCell ⟨p1, 0, none⟩ b').setCell ⟨p1, 1, none⟩ c').setCell ⟨p2, 0, none⟩ d') p0 t0 [a'] ∧
  Cells ((((W.setCell ⟨p0, 0, none⟩ a').setCell ⟨p1, 0, none⟩ b').setCell ⟨p1, 1, none⟩ c').setCell ⟨p2, 0, none⟩ d') p1 t1 [b', c'] ∧
  Cells ((((W.setCell ⟨p0, 0, none⟩ a').setCell ⟨p1, 0, none⟩ b').setCell ⟨p1, 1, none⟩ c').setCell ⟨p2, 0, none⟩ d') p2 t2 [d'] ∧
  Kept (fun g => g = p0 ∨ g = p1 ∨ g = p2) W ((((W.setCell ⟨p0, 0, none⟩ a').setCell ⟨p1, 0, none⟩ b').setCell ⟨p1, 1, none⟩ c').setCell ⟨p2, 0, none⟩ d') :=
 ⟨(((h0.put 0 _).far (by simpa using n01) _).far (by simpa using n01) _).far (by simpa using n02) _,
   (((h1.far (by simpa using n01.symm) _).put 0 _).put 1 _).far (by simpa using n12) _,
   (((h2.far (by simpa using n02.symm) _).far (by simpa using n12.symm) _).far (by simpa using n12.symm) _).put 0 _,
   ((((Kept.refl _ _).setCell (fun _ => .inl rfl) _).setCell (fun _ => .inr (.inl rfl)) _).setCell (fun _ => .inr (.inl rfl)) _).setCell (fun _ => .inr (.inr rfl)) _⟩
theorem parse_done {tmps : Array Value} {W : World} {R : Ending → World → Prop} {p0 p1 p2 : Nat} {a b c d : Value} (t0 : tmps.getD 2 undef = .pointer (some ⟨p0, 0, none⟩)) (t1 : tmps.getD 3 undef = .pointer (some ⟨p1, 0, none⟩)) (t2 : tmps.getD 4 undef = .pointer (some ⟨p2, 0, none⟩))
  (h0 : Cells W p0 23 [a]) (h1 : Cells W p1 25 [b, c]) (h2 : Cells W p2 26 [d]) (hR : R (.returned (.tuple #[a, .agg #[b, c], d])) W) : Leaves Tryz.prog Tryz.f16 tmps R [] .returning W := by
 refine ⟨_, results_multi [.cell 2 23, .cell 3 25, .cell 4 26] [a, .agg #[b, c], d] Tryz.results16 (by simp) rfl (fun j hj => ?_), hR⟩
 match j, hj with
 | 0, _ => exact resVal.cell t0 (by have h := h0.cell 0; exact h) Tryz.underlying23 rfl
 | 1, _ => exact resVal.box t1 h1 Tryz.underlying25 rfl krf
 | 2, _ => exact resVal.cell t2 (by have h := h2.cell 0; exact h) Tryz.underlying26 rfl
theorem parse_calls (s : ByteArray) (hs : s.size ≤ 65536) (w : World) (hops : OpsAt w) (hdecls : DeclsAt w) :
  Calls Tryz.prog 16 #[.string s] w fun e w' => ∃ r, IsParse s r ∧ ParseV w r e w' ∧ Kept noX w w' := by
 have hmf : ∀ (fn : Fn) (first cap : Array Value) (w : World), (Instr.makeFunc fn first cap).run Tryz.prog w = .ok (.func fn first cap) w := fun _ _ _ _ => rfl
 have HOPS := aP hops
 have HDECLS := aP hdecls
 clear hops hdecls
 go_enter_defers Tryz.func16, Tryz.ntmps16
 go_wp2_with fail
 obtain ⟨w0, hw0⟩ : ∃ w0, w0 = ((w.alloc (.cells #[.slice none 0 0] 23)).alloc (.cells #[.int .i64 0, .int .i64 0] 25)).alloc (.cells #[.int .i64 0] 26) := ⟨_, rfl⟩
 have hk0 : Kept noX w w0 := by rw [hw0]; exact (((Kept.refl _ _).alloc _).alloc _).alloc _
 have hz0 : w0.heap.size = w.heap.size + 1 + 1 + 1 := by rw [hw0]; simp
 have c0 : Cells w0 w.heap.size 23 [.slice none 0 0] := by rw [hw0]; exact ((Cells.fresh w 23 [.slice none 0 0]).alloc _).alloc _
 have c1 : Cells w0 (w.heap.size + 1) 25 [.int .i64 0, .int .i64 0] := by
  rw [hw0]
  have h := Cells.fresh (w.alloc (.cells #[.slice none 0 0] 23)) 25 [.int .i64 0, .int .i64 0]
  rw [World.size_alloc] at h
  exact h.alloc _
 have c2 : Cells w0 (w.heap.size + 1 + 1) 26 [.int .i64 0] := by
  rw [hw0]
  have h := Cells.fresh ((w.alloc (.cells #[.slice none 0 0] 23)).alloc (.cells #[.int .i64 0, .int .i64 0] 25)) 26 [.int .i64 0]
  rw [World.size_alloc, World.size_alloc] at h
  exact h
 rw [← hw0]
 clear hw0
 obtain ⟨P0, hP0⟩ : ∃ P, P = w.heap.size := ⟨_, rfl⟩
 obtain ⟨P1, hP1⟩ : ∃ P, P = w.heap.size + 1 := ⟨_, rfl⟩
 obtain ⟨P2, hP2⟩ : ∃ P, P = w.heap.size + 1 + 1 := ⟨_, rfl⟩
 rw [← hP2] at c2
 rw [← hP1] at c1
 rw [← hP0] at c0
 rw [← hP2, ← hP1, ← hP0]
 have n01 : P0 ≠ P1 := by omega
 have n02 : P0 ≠ P2 := by omega
 have n12 : P1 ≠ P2 := by omega
 have C0 := aP c0
 have C1 := aP c1
 have C2 := aP c2
 have g0 : w.heap.size ≤ P0 := by omega
 have g3 : P2 < w0.heap.size := by omega
 have g1 : P0 < P1 := by omega
 have g2 : P1 < P2 := by omega
 clear c0 c1 c2 hP0 hP1 hP2 hz0
 refine (lex_calls s hs w0).mono ?_
 intro e W1 hlex
 rcases hlex with ⟨n, v, hg, he, rfl, hown, hob, hk1⟩ | ⟨n, hg, hlt, hbad, rfl, hk1⟩
 ·have hrow : TokRow W1 v n (fun k => tokD s (posW s.data.toList k)) := ⟨_, hown, fun k hk j hj => toks_at s _ _ k j hk hj⟩
  obtain ⟨A, c, rfl, hnc, hcm⟩ := hrow.form
  have HG := aP (And.intro hg he)
  have HROW := aP hrow
  have D0 := aP (C0.out.keep hk1)
  have D1 := aP (C1.out.keep hk1)
  have D2 := aP (C2.out.keep hk1)
  clear hg he hown hrow
  go_wp2_with (first | (((with_reducible refine ats ?_); (refine wpList_store_all rfl rfl 25 (.tmp 3) (.tmp 13) rfl (P1) rfl [.int .i64 0, .int .i64 0] rfl D1.out (by rfl) krf k1c ?_; intro W5 hB5 hk5; have HB5 := aP hB5; clear hB5)); have hE2 := D2.out.kept hk5 (fun h => n12 h.symm)) | (((with_reducible refine ats ?_); (refine wpList_store_all rfl rfl 26 (.tmp 4) (.tmp 14) rfl (P2) rfl [.int .i64 0] rfl hE2 (by rfl) krf k1c ?_; intro W6 hB6 hk6; have HB6 := aP hB6; clear hB6)); have q2 := HB6.out.cell 0; simp only [aZ] at q2))
  have e5 : Kept (fun g => g = P1 ∨ g = P2) W1 W6 := (hk5.mono (fun g _ h => .inl h)).trans (hk6.mono (fun g _ h => .inr h))
  have E0 := aP (D0.out.kept e5 (fun h => by omega))
  have E1 := aP (HB5.out.kept hk6 (fun h => n12 h))
  have E2 := HB6
  have hrow6 := aP (HROW.out.kept e5 (fun g hg h => by have := hob g hg; omega))
  have hk06 : Kept (fun g => w.heap.size ≤ g) w W6 := ((hk0.trans hk1).any).trans (e5.mono (fun g _ h => by show _ ≤ _; omega))
  have HK06 := aP hk06
  have s6 := hk6.size
  have s5 := hk5.size
  have s1 := hk1.size
  clear e5 hk06 HROW D0 D1 D2 HB5 HB6 hE2 q2
  refine (end_any s kom W6).mono ?_
  rintro e W7 ⟨rfl, hk7⟩
  unfold plV
  have s7 := hk7.size
  go_wp2_with fail
  refine (forms_calls W7).mono ?_
  rintro e W8 ⟨M, fb, rfl, hforms, hM, hfb, hk8⟩
  have s8 := hk8.size
  have HFORMS := aP hforms
  have hMl := hforms.map.lt
  have HFB := aP hfb
  clear hforms hfb
  have hk68 := (hk7.trans hk8)
  have hrow8 := TokRow.kept hrow6.out hk68 (fun _ _ h => h)
  have HKw8 := aP (HK06.out.trans hk68.any)
  obtain ⟨R, hR⟩ : ∃ R, R = W8.heap.size := ⟨_, rfl⟩
  obtain ⟨W9, hW9⟩ : ∃ W9, W9 = W8.alloc (.cells #[.slice A n c, .int .i64 ((plOf s.data.toList s.size).1 : Nat), .int .i64 ((plOf s.data.toList s.size).2 : Nat), .map (some M)] 80) := ⟨_, rfl⟩
  have hC9 : Cells W9 R 80 [.slice A n c, .int .i64 ((plOf s.data.toList s.size).1 : Nat), .int .i64 ((plOf s.data.toList s.size).2 : Nat), .map (some M)] := by rw [hW9, hR]; exact Cells.fresh W8 80 _
  have hk9 : Kept noX W8 W9 := by rw [hW9]; exact (Kept.refl _ _).alloc _
  go_wp2_with fail
  rw [← hW9, ← hR]
  obtain ⟨S, hS⟩ : ∃ S : Src, S = ⟨.slice A n c, n, fun k => tokD s (posW s.data.toList k), ((plOf s.data.toList s.size).1 : Nat), ((plOf s.data.toList s.size).2 : Nat), M, fb, R, fun W => Kept (R ≤ ·) W8 W⟩ := ⟨_, rfl⟩
  have hfew : n ≤ 65536 := by
   have h1 := posW_ge HG.out.1
   have h2 := HG.out.2
   have h3 : s.data.toList.length = s.size := by simp
   omega
  have hfl : ∀ p ∈ boxesL fb, p.1 < R := fun p hp => by rw [hR]; exact block_lt_of (HFORMS.out.boxes p hp)
  have hDR : DR W9 R S 0 := by
   rw [hS]
   refine ⟨⟨A, c, hC9, hnc, hcm, fun hlt => ?_⟩, TokRow.kept hrow8 hk9 (fun _ _ h => h), Nat.le_trans hfew (by decide), Nat.zero_le _, fun g hg => by rw [hR]; exact hrow8.own_lt hg, hk9.any, fun W W' h1 h2 => Kept.trans h1 h2, Nat.le_refl _⟩
   obtain ⟨g, c', hv, _, _⟩ := TokRow.at_ hrow8 hlt
   injection hv with hA _ hc
   exact ⟨g, c', by rw [hA, hc], by rw [hA, Nat.zero_mul]⟩
  have hOK : SrcOk S := by
   rw [hS]
   have hd8 : DeclsAt W8 := HDECLS.out.kept HKw8.out (fun _ h => h)
   have ho8 : OpsAt W8 := HOPS.out.kept HKw8.out (fun _ h => h)
   refine ⟨fun W h => hd8.kept h (fun g hg => by rw [← hR]; exact hg), fun W h => ho8.kept h (fun g hg => by rw [← hR]; exact hg), fun W h => ⟨HFORMS.out.map.kept h (fun hg => by have hg : R ≤ M := hg; omega), HFORMS.out.boxes.kept h (fun p hp hg => by have hg : R ≤ p.1 := hg; have := hfl p hp; omega)⟩, hfl⟩
  have hplain : S.plain = srcP s n := by rw [hS] <;> rfl
  have hSn : S.n = n := by rw [hS]
  have s9 : R < W9.heap.size := hC9.lt
  have hRP : P2 < R := by omega
  have HKw9 := aP (HKw8.out.trans hk9.any)
  have E0 := E0.out.keep ((hk7.trans hk8).trans hk9)
  have E1 := E1.out.keep ((hk7.trans hk8).trans hk9)
  have E2 := E2.out.keep ((hk7.trans hk8).trans hk9)
  refine (prog_calls (f := n + 1) hOK hDR (by rw [hSn]; omega)).mono ?_
  intro e W10 hp
  rcases hp.cases with ⟨k, hr, hm, hk10⟩ | ⟨l, k, hr, ⟨v, rfl, hrowl⟩, hd10, hk10⟩
  ·have HI : Hid (IsParse s (.error ((S.tok k).line, (S.tok k).col, 120))) := aP (.inl ⟨n, HG.out.1, HG.out.2, by
     rw [← hplain, progR, show S.plain.n = n from hSn, ← progS_plain, hr] <;> rfl⟩)
   unfold Misfit at hm
   subst hm
   have F0 := E0.kept hk10 (fun h => by omega)
   have F1 := E1.kept hk10 (fun h => by omega)
   have F2 := E2.kept hk10 (fun h => by omega)
   have HK10 := aP (HKw9.out.join hk10 (fun i h _ => by have h : i = R := h; show _ ≤ _; omega))
   have CM := aP (catch_misfit P0 P1 P2 S k [] W10 F0 F1 F2 n01 n02 n12)
   clear hS hW9 hR hC9 hDR hOK hr F0 F1 F2 E0 E1 E2
   go_wp2
   show bodyPostD _ _ _ _ _ _
   unfold bodyPostD
   refine leaves_cons (f := 35) (args := #[.pointer (some ⟨P0, 0, none⟩), .pointer (some ⟨P1, 0, none⟩), .pointer (some ⟨P2, 0, none⟩)]) (by simp) (by simp [go_sem]) ?_
   refine CM.out.mono ?_
   rintro e u' w' ⟨rfl, rfl, q0, q1, q2, hkq⟩
   simp only [settle, List.dropWhile_nil]
   exact parse_done rfl rfl rfl q0 q1 q2 ⟨_, HI.out, rfl, ((HK10.out.join hkq (fun i hi _ => by show _ ≤ _; omega)).mono (fun g hg h => by have h : w.heap.size ≤ g := h; omega))⟩
  ·have F0 := E0.kept hk10 (fun h => by omega)
   have F1 := aP (E1.kept hk10 (fun h => by omega))
   have F2 := aP (E2.kept hk10 (fun h => by omega))
   have HK10 := aP (HKw9.out.join hk10 (fun i h _ => by have h : i = R := h; show _ ≤ _; omega))
   obtain ⟨Av, nv, cv, rfl, hnv, hnvc, hcvm⟩ := hrowl.form
   rw [List.length_map] at hnv
   subst hnv
   have hsz : ∀ d ∈ l, szL d.body ≤ 274877906944 := fun d hd => by
    have h1 := (sz_prog _ _ hr).2 d hd
    have h2 := hd10.le
    omega
   have HR := aP hr
   have HROWL := aP hrowl
   have HSZ := aP hsz
   have hs10 := hk10.size
   clear hS hW9 hR hC9 hDR hOK hr E0 E1 E2 hrowl hsz hd10 hp hrow8 hrow6 hk9 hk10
   go_wp2_with (first | (((with_reducible refine ats ?_); (refine wpList_store_all rfl rfl 23 (.tmp 2) (.tmp 26) rfl (P0) rfl [.slice Av l.length cv] rfl F0 (by rfl) krf k1c ?_; intro W11 hB11 hk11; have HB11 := aP hB11; clear hB11)); have q3 := HB11.out.cell 0; simp only [aZ] at q3))
   have hs11 := hk11.size
   have hrow11 := HROWL.out.kept hk11 (fun g _ h => by have h : g = P0 := h; show g < _; omega)
   have HROW11 := aP hrow11
   have G1 := aP (F1.out.kept hk11 (fun h => n01 h.symm))
   have G2 := aP (F2.out.kept hk11 (fun h => n02 h.symm))
   have HK11 := aP (HK10.out.join hk11 (fun i h _ => by have h : i = P0 := h; show _ ≤ _; omega))
   refine (tooDeep_calls (hrow11.mono (fun _ _ h => h.elim)) HSZ.out).mono ?_
   rintro e W12 ⟨rfl, hk12⟩
   clear hrow11 q3
   have hs12 := hk12.size
   have hP2l := G2.out.lt
   have K0 := HB11.out.kept hk12 (fun h => by have h : W11.heap.size ≤ P0 := h; omega)
   have K1 := G1.out.kept hk12 (fun h => by have h : W11.heap.size ≤ P1 := h; omega)
   have K2 := G2.out.kept hk12 (fun h => by have h : W11.heap.size ≤ P2 := h; omega)
   have HROW12 := aP ((HROW11.out.mono (Z' := fun g => g < W9.heap.size ∨ W11.heap.size ≤ g) (fun g hg h => h.elim id (fun h => by omega))).kept hk12 (fun g _ h => .inr h))
   have HK12 := aP (HK11.out.join hk12 (fun i h _ => by have h : W11.heap.size ≤ i := h; show _ ≤ _; omega))
   unfold placeV
   have a0 := K0.cell 0; have a1 := K0.free 0
   have b0 := K1.cell 0; have b1 := K1.cell 1; have b2 := K1.free 0; have b3 := K1.free 1
   have d0 := K2.cell 0; have d1 := K2.free 0
   simp only [aZ, aS] at a0 b0 b1 d0
   have e10 : P1 ≠ P0 := n01.symm
   have e20 : P2 ≠ P0 := n02.symm
   have e21 : P2 ≠ P1 := n12.symm
   have l0 : P0 < W12.heap.size := by omega
   have l1 : P1 < W12.heap.size := by omega
   have l2 : P2 < W12.heap.size := by omega
   have HK0 := aP K0
   have HK1 := aP K1
   have HK2 := aP K2
   clear K0 K1 K2
   cases htd : tooDeepP l with
   | some q =>
    obtain ⟨li, co⟩ := q
    have HI : Hid (IsParse s (.error (li, co, 121))) := aP (.inl ⟨n, HG.out.1, HG.out.2, by
      rw [← hplain, progR, show S.plain.n = n from hSn, ← progS_plain, HR.out]
      dsimp only
      rw [htd]⟩)
    have HKQ := aP (puts3 HK0.out HK1.out HK2.out n01 n02 n12 (.slice none 0 0) (.int .i64 li) (.int .i64 co) (.int .i64 121))
    clear htd
    simp only [Option.getD_some, Option.isSome_some]
    go_wp2
    go_region
    go_wp2
    show bodyPostD _ _ _ _ _ _
    unfold bodyPostD
    refine leaves_cons (f := 35) (args := #[.pointer (some ⟨P0, 0, none⟩), .pointer (some ⟨P1, 0, none⟩), .pointer (some ⟨P2, 0, none⟩)]) (by simp) (by simp [go_sem]) ?_
    refine (catch_idle P0 P1 P2 _).mono ?_
    rintro e u' w' ⟨rfl, rfl, rfl⟩
    simp only [settle]
    obtain ⟨q0, q1, q2', hkq⟩ := HKQ.out
    exact parse_done rfl rfl rfl (q0.alloc _).drew (q1.alloc _).drew (q2'.alloc _).drew ⟨_, HI.out, rfl, Kept.drew (Kept.alloc ((HK12.out.join hkq (fun i hi _ => by show _ ≤ _; omega)).mono (fun g hg h => by have h : w.heap.size ≤ g := h; omega)) _)⟩
   | none =>
    have HI : Hid (IsParse s (.ok l)) := aP (.inl ⟨n, HG.out.1, HG.out.2, by
      rw [← hplain, progR, show S.plain.n = n from hSn, ← progS_plain, HR.out]
      dsimp only
      rw [htd]⟩)
    have HKQ := aP (puts3 HK0.out HK1.out HK2.out n01 n02 n12 (.slice Av l.length cv) (.int .i64 0) (.int .i64 0) (.int .i64 0))
    clear htd
    simp only [Option.getD_none, Option.isSome_none]
    go_wp2
    show bodyPostD _ _ _ _ _ _
    unfold bodyPostD
    refine leaves_cons (f := 35) (args := #[.pointer (some ⟨P0, 0, none⟩), .pointer (some ⟨P1, 0, none⟩), .pointer (some ⟨P2, 0, none⟩)]) (by simp) (by simp [go_sem]) ?_
    refine (catch_idle P0 P1 P2 _).mono ?_
    rintro e u' w' ⟨rfl, rfl, rfl⟩
    simp only [settle]
    obtain ⟨q0, q1, q2', hkq⟩ := HKQ.out
    refine parse_done rfl rfl rfl (q0.alloc _) (q1.alloc _) (q2'.alloc _) ⟨_, HI.out, ⟨_, rfl, ?_⟩, Kept.alloc ((HK12.out.join hkq (fun i hi _ => by show _ ≤ _; omega)).mono (fun g hg h => by have h : w.heap.size ≤ g := h; omega)) _⟩
    have hs1 := hk0.size
    refine (((HROW12.out.mono (Z' := fun g => g < W9.heap.size) (fun g _ h => .inl h)).kept hkq (fun g _ h => by show g < _; omega)).keep ((Kept.refl _ _).alloc _)).mono (fun g _ h => by have h : g < w.heap.size := h; show g < _; omega)
 ·have HI : Hid (IsParse s (.error (((plOf s.data.toList (posW s.data.toList n)).1 : Nat), ((plOf s.data.toList (posW s.data.toList n)).2 : Nat), errW s.data.toList (posW s.data.toList n)))) := aP (.inr ⟨n, hg, hlt, hbad, rfl⟩)
  generalize ((plOf s.data.toList (posW s.data.toList n)).1 : Int) = li at *
  generalize ((plOf s.data.toList (posW s.data.toList n)).2 : Int) = co at *
  generalize errW s.data.toList (posW s.data.toList n) = er at *
  have hne : (er != 0) = true := by simpa using hbad
  have D0 := aP (C0.out.keep hk1)
  have D1 := aP (C1.out.keep hk1)
  have D2 := aP (C2.out.keep hk1)
  clear hg hlt hbad
  go_wp2_with (first | (((with_reducible refine ats ?_); (refine wpList_store_all rfl rfl 25 (.tmp 3) (.tmp 13) rfl (P1) rfl [.int .i64 li, .int .i64 co] rfl D1.out (by rfl) krf k1c ?_; intro W5 hB5 hk5; have HB5 := aP hB5; clear hB5)); have hE2 := D2.out.kept hk5 (fun h => n12 h.symm)) | (((with_reducible refine ats ?_); (refine wpList_store_all rfl rfl 26 (.tmp 4) (.tmp 14) rfl (P2) rfl [.int .i64 er] rfl hE2 (by rfl) krf k1c ?_; intro W6 hB6 hk6; have HB6 := aP hB6; clear hB6)); have q2 := HB6.out.cell 0; simp only [aZ] at q2))
  have e5 : Kept (fun g => g = P1 ∨ g = P2) W1 W6 := (hk5.mono (fun g _ h => .inl h)).trans (hk6.mono (fun g _ h => .inr h))
  have E0 := D0.out.kept e5 (fun h => by omega)
  have E1 := HB5.out.kept hk6 (fun h => n12 h)
  have E2 := HB6.out
  have a0 := E0.cell 0; have a1 := E0.free 0
  have b0 := E1.cell 0; have b1 := E1.cell 1; have b2 := E1.free 0; have b3 := E1.free 1
  have d1 := E2.free 0
  simp only [aZ, aS] at a0 b0 b1
  have e10 : P1 ≠ P0 := n01.symm
  have e20 : P2 ≠ P0 := n02.symm
  have e21 : P2 ≠ P1 := n12.symm
  have HE0 := aP E0
  have HE1 := aP E1
  have HE2 := aP E2
  have HE5 := aP e5
  clear E0 E1 E2 e5
  go_region
  go_wp2
  obtain ⟨q0, q1, q2', hkq⟩ := puts3 HE0.out HE1.out HE2.out n01 n02 n12 (.slice none 0 0) (.int .i64 li) (.int .i64 co) (.int .i64 er)
  show bodyPostD _ _ _ _ _ _
  unfold bodyPostD
  refine parse_done rfl rfl rfl q0.drew q1.drew q2'.drew ⟨_, HI.out, rfl, ?_⟩
  exact Kept.drew ((((hk0.trans hk1).join HE5.out (fun i hi hlt => by omega))).join hkq (fun i hi hlt => by omega))
theorem WordsAt.keep {W W' : World} (h : WordsAt W) (hk : Kept noX W W') : WordsAt W' := fun j v hj => by
 rw [← h j v hj]
 exact World.cell?_of_block (hk.block _ (block_lt_of (h j v hj)) (fun hX => hX.elim))
theorem ret_two {P : Program} {fn : Func} {p q : Tmp} (h : fn.results = #[.tmp p, .tmp q]) {a : Act} {W : World} {u v : Value} {R : Ending → World → Prop}
  (hp : a.tmps.getD p undef = u) (hq : a.tmps.getD q undef = v) (hf : a.defers = []) (hR : R (.returned (.tuple #[u, v])) W) : bodyPost P fn R .ret a W :=
 bodyPost_ret (results_multi [.tmp p, .tmp q] [u, v] h (by simp) rfl (fun j hj => by
   match j, hj with
   | 0, _ => exact resVal.tmp hp
   | 1, _ => exact resVal.tmp hq)) hf hR
def printT (ds : List DT) : ByteArray := catL (ds.map declT)
def printV (ds : List DT) : Value := if ds.all mayDT then .tuple #[.string (printT ds), .int .i64 0] else .tuple #[.string ⟨#[]⟩, .int .i64 2]
theorem declT_ne {d : DT} (h : mayDT d = true) : (declT d).size ≠ 0 := by
 unfold mayDT at h
 rw [Bool.and_eq_true] at h
 have h := h.2
 have e : ∀ a b : ByteArray, b.size ≠ 0 → (a ++ b).size ≠ 0 := fun a b hb => by rw [ByteArray.size_append]; omega
 unfold declT
 split at h
 ·rename_i h1; rw [h1]; exact e _ _ (by decide)
 ·split at h
  ·rename_i h1
   rcases h1 with h1 | h1 <;> (rw [h1]; exact e _ _ (by decide))
  ·split at h
   ·rename_i h1
    rcases h1 with h1 | h1 <;> (rw [h1]; exact e _ _ (by decide))
   ·split at h
    ·rename_i h1; rw [h1]; exact e _ _ (by decide)
    ·cases h
structure Tabs (W : World) : Prop where
 exprs : ExprsAt W
 stmts : StmtsAt W
 ops : OpsAt W
 tab : TabAt W
 words : WordsAt W
 decls : DeclsAt W
theorem Tabs.keep {W W' : World} (h : Tabs W) (hk : Kept noX W W') : Tabs W' :=
 ⟨h.exprs.keep hk, h.stmts.keep hk, h.ops.keep hk, h.tab.kept hk (fun _ h => h.elim), h.words.keep hk, h.decls.kept hk (fun _ h => h.elim)⟩
theorem print_any {ds : List DT} {v : Value} {w : World} (hv : RowV w noX v (ds.map DT.d)) (hT : Tabs w) (hsm : ∀ d ∈ ds, smD d = true) (hlen : ds.all mayDT = true → (printT ds).size ≤ most) :
  Calls Tryz.prog 21 #[v] w fun e w' => e = .returned (printV ds) ∧ Kept noX w w' := by
 obtain ⟨A, n, c, rfl, hn, hnc, hcm⟩ := hv.form
 rw [List.length_map] at hn
 subst hn
 unfold maxLen at hcm
 have HV := aP hv
 have HT := aP hT
 have HC := aP (check_any hv hT.exprs hT.stmts hsm)
 clear hv hT hsm
 cases hall : ds.all mayDT with
 | false =>
  have HA := aP hall
  clear hall hlen
  go_enter Tryz.func21, Tryz.ntmps21
  go_wp2_with fail
  refine HC.out.mono ?_
  rintro e W1 ⟨rfl, hk1⟩
  rw [show checkP ds = 2 from by rw [checkP, HA.out] <;> rfl]
  go_wp2
  refine ret_two Tryz.results21 rfl rfl rfl ?_
  exact ⟨by rw [printV, HA.out] <;> rfl, hk1⟩
 | true =>
 have HA := aP hall
 have hlen := hlen hall
 clear hall
 have HOK := aP (List.all_eq_true.1 HA.out)
 obtain ⟨ps, hps⟩ : ∃ ps, ps = ds.map declT := ⟨_, rfl⟩
 have hpl : ps.length = ds.length := by rw [hps, List.length_map]
 have hpi : ∀ k (hk : k < ds.length), catL (ps.take (k + 1)) = catL (ps.take k) ++ declT ds[k] := fun k hk => by
  rw [hps, catL_take (by simpa using hk)]
  simp
 have hPT : printT ds = catL ps := by rw [printT, hps]
 rw [hPT] at hlen
 have HPT := aP hPT
 have HPL := aP hpl
 have HPI := aP hpi
 clear hps hpl hpi hPT
 go_enter Tryz.func21, Tryz.ntmps21
 go_wp2_with fail
 refine HC.out.mono ?_
 rintro e W1 ⟨rfl, hk1⟩
 rw [show checkP ds = 0 from by rw [checkP, HA.out] <;> rfl]
 have hT1 := HT.out.keep hk1
 obtain ⟨W2, hW2⟩ : ∃ W2, W2 = W1.alloc (.cells #[.pointer none, .slice none 0 0] 99) := ⟨_, rfl⟩
 have HF2 := aP (show Cells W2 W1.heap.size 99 [.pointer none, .slice none 0 0] from by rw [hW2]; exact Cells.fresh W1 99 [.pointer none, .slice none 0 0])
 have HK2 := aP (show Kept noX W1 W2 from by rw [hW2]; exact (Kept.refl _ _).alloc _)
 have HP2 := aP (show PW W1 W1.heap.size W2 ⟨#[]⟩ from ⟨⟨_, _, HF2.out, .inl rfl, World.ownsRow_nil W2 _ 5 1⟩, HK2.out.any, Nat.le_refl _, hT1.ops, hT1.tab⟩)
 have HV1 := aP (HV.out.keep hk1)
 have HT1 := aP hT1
 have HK1 := aP hk1
 clear hT1 hk1 HC HT HV
 go_wp2_with fail
 rw [← hW2]
 clear hW2
 go_loopw [12] (fun i wr => ∃ k : Nat, k ≤ ds.length ∧ i = .int .i64 k ∧ PW W1 W1.heap.size wr (catL (ps.take k)) ∧ ((catL (ps.take k)).size ≠ 0 ∨ (k = 0 ∧ Cells wr W1.heap.size 99 [.pointer none, .slice none 0 0]))) (fun i _ => ds.length - (intOf i).toNat)
 case atStart => exact ⟨0, Nat.zero_le _, rfl, HP2.out, .inr ⟨rfl, HF2.out⟩⟩
 case round =>
  obtain ⟨k, hk, rfl, hwr, hne⟩ := hrel
  by_cases hlt : k < ds.length
  ·have hdl : decide ((k : Int) < (ds.length : Int)) = true := by simpa using hlt
   obtain ⟨g, o, c2, size, cs, hveq, hcl, hrep, hcell⟩ := HV1.out.at_ (i := k) (by simpa using hlt)
   rw [List.getElem_map] at hrep
   have hdv : DV W1 noX cs ds[k] := hrep
   have hlen6 := hdv.len
   rw [hlen6] at hcl
   subst hcl
   injection hveq with hA hlen2 hc2
   subst hA hc2
   clear hlen2 hne
   have hcr : ∀ j u, cs[j]? = some u → wr.cell? ⟨g, (o + k * 6) + j, none⟩ = some u := fun j u hu => by
    have hj : j < 6 := by rw [← hlen6]; exact (List.getElem?_eq_some_iff.1 hu).1
    rw [Nat.add_assoc]
    exact hwr.cell ((hcell j hj).trans hu)
   have hck := HPI.out k hlt
   have hcle := catL_take_le ps (k + 1)
   rw [hck] at hcle
   have HCK := aP hck
   have HCR := aP hcr
   have HL := aP hlen6
   have HDV := aP hdv
   have HO := aP (Rep.one hdv)
   have HWr := aP hwr
   have hok1 := HOK.out _ (List.getElem_mem hlt)
   have hwrl := hwr.lt
   clear hcell hcr hlen6 hrep hdv hwr hck
   go_wp2_with (first
     | ((with_reducible refine atl ?_); refine wpList_load_part rfl 54 (.tmp 14) rfl g (o + k * 6) rfl _ Tryz.underlying54 rfl cs (by rw [HL.out]; kernel_rfl) HCR.out ?_)
     | ((with_reducible refine ats ?_); refine wpList_store_part rfl rfl 54 (.tmp 6) (.tmp 15) rfl (wr.heap.size) 0 rfl cs rfl (Cells.fresh wr 54 zeroD) (by rw [HL.out]; exact Nat.le_of_ble_eq_true rfl) (by rw [HL.out]; kernel_rfl) HO.out ?_; intro W5 hB5 hk5a
        have hB5 : Cells W5 wr.heap.size 54 cs := by
          rw [HL.out, show zeroD.take 0 ++ cs ++ zeroD.drop (0 + 6) = cs from by simp [zeroD]] at hB5
          exact hB5
        have hk5 : Kept noX wr W5 := ((Kept.refl noX wr).alloc _).own hk5a (Nat.le_refl _)
        have HB5 := aP hB5
        clear hB5 hk5a)
     | ((with_reducible refine atl ?_); refine wpList_load_cells rfl 54 (.tmp 6) rfl (wr.heap.size) rfl _ Tryz.underlying54 rfl HB5.out (by rw [HL.out]; kernel_rfl) ?_))
   have HW5 := aP (HWr.out.keep hk5)
   refine (pdecl_all HT1.out.words HT1.out.decls HW5.out HDV.out hok1 (by simp only [ByteArray.size_append] at hcle; omega)).mono ?_
   rintro e W6 ⟨rfl, hw6, hp6⟩
   have HW6 := aP hw6
   clear hw6 hp6
   go_wp2
   go_roundw
   case rel =>
    refine ⟨k + 1, by omega, by go_num, ?_, .inl ?_⟩
    ·rw [HCK.out]
     exact HW6.out
    ·rw [HCK.out, ByteArray.size_append]
     have := declT_ne hok1
     omega
   case measure => simp [intOf]; omega
  ·have hdl : decide ((k : Int) < (ds.length : Int)) = false := by simpa using hlt
   have hk2 : k = ds.length := by omega
   rw [hk2, ← HPL.out, List.take_length] at hwr hne
   have HK3 := aP hwr.kept.older
   rcases hne with hne | ⟨_, hne⟩
   ·have HS := aP (string_calls hwr.at_ hne kom)
    clear hwr hne
    go_wp2_with fail
    refine HS.out.mono ?_
    rintro e W6 ⟨rfl, hk6⟩
    go_wp2
    refine ret_two Tryz.results21 rfl rfl rfl ?_
    refine ⟨by rw [printV, HA.out, HPT.out] <;> rfl, (HK1.out.trans HK3.out).join hk6 (fun i hi hlt2 => ?_)⟩
    have hi : W1.heap.size ≤ i := hi
    have := HK1.out.size
    omega
   ·have hz : catL ps = ⟨#[]⟩ := by
     rename_i h0
     have hl0 : ps.length = 0 := h0
     rw [List.eq_nil_of_length_eq_zero hl0]
     rfl
    have HZ := aP hz
    have HS := aP (string_nil hne)
    clear hwr hne hz
    go_wp2_with fail
    refine HS.out.mono ?_
    rintro e W6 ⟨rfl, hk6⟩
    go_wp2
    refine ret_two Tryz.results21 rfl rfl rfl ?_
    exact ⟨by rw [printV, HA.out, HPT.out, HZ.out] <;> rfl, (HK1.out.trans HK3.out).trans hk6⟩
theorem IsParse.all {s : ByteArray} {r : Except (Int × Int × Int) (List DT)} (h : IsParse s r) {n : Nat} (hg : goodW s.data.toList n) (he : posW s.data.toList n = s.data.toList.length) : r = progR (srcP s n) := by
 rcases h with ⟨m, hgm, hem, hr⟩ | ⟨m, hgm, hlt, hbad, hr⟩
 ·obtain rfl := all_unique hgm hem hg he
  exact hr
 ·exact (not_both hg he hgm hlt hbad).elim
def t1 : ByteArray := ⟨#[118, 97, 114, 32, 120, 61, 45, 51, 59, 116, 104, 114, 101, 97, 100, 32, 109, 97, 105, 110, 123, 112, 114, 105, 110, 116, 40, 120, 43, 49, 41, 42, 50, 59, 125]⟩
def t2 : ByteArray := ⟨#[118, 97, 114, 32, 120, 32, 51, 59]⟩
def t3 : ByteArray := ⟨#[118, 97, 114, 32, 120, 32, 61, 32, 45, 51, 59, 10, 116, 104, 114, 101, 97, 100, 32, 109, 97, 105, 110, 32, 123, 10, 9, 112, 114, 105, 110, 116, 32, 40, 120, 32, 43, 32, 49, 41, 32, 42, 32, 50, 59, 10, 125, 10]⟩
instance goodDec (s : List UInt8) (n : Nat) : Decidable (goodW s n) := inferInstanceAs (Decidable (∀ k, k < n → _))
theorem t1_good : goodW t1.data.toList 19 := by decide +kernel
theorem t1_end : posW t1.data.toList 19 = t1.data.toList.length := by decide +kernel
theorem t2_good : goodW t2.data.toList 4 := by decide +kernel
theorem t2_end : posW t2.data.toList 4 = t2.data.toList.length := by decide +kernel
def okR (r : Except (Int × Int × Int) (List DT)) : Option (List DT) := match r with | .ok l => some l | .error _ => none
def errR (r : Except (Int × Int × Int) (List DT)) : Option (Int × Int × Int) := match r with | .ok _ => none | .error q => some q
def ds1 : List DT := (okR (progR (srcP t1 19))).getD []
theorem t1_ok : (okR (progR (srcP t1 19))).isSome = true := by decide +kernel
theorem t2_err : errR (progR (srcP t2 4)) = some (1, 7, 120) := by decide +kernel
theorem ds1_len : ds1.length = 2 := by decide +kernel
theorem ds1_may : ds1.all mayDT = true := by decide +kernel
theorem ds1_sm : ds1.all smD = true := by decide +kernel
theorem ds1_print : printT ds1 = t3 := by decide +kernel
theorem t1_is : progR (srcP t1 19) = .ok ds1 := by
 have h := t1_ok
 have hd : ds1 = (okR (progR (srcP t1 19))).getD [] := rfl
 cases hr : progR (srcP t1 19) with
 | ok l => rw [hd, hr] <;> rfl
 | error q => rw [hr] at h; cases h
theorem t2_is : progR (srcP t2 4) = .error (1, 7, 120) := by
 have h := t2_err
 cases hr : progR (srcP t2 4) with
 | ok l => rw [hr] at h; cases h
 | error q => rw [hr] at h; injection h with h; rw [h]
theorem num2_any (x : Int) (w : World) : Calls Tryz.prog 19 #[.int .i64 x] w fun e w' => e = .returned (.int .i64 x) ∧ w = w' := by
 go_enter Tryz.func19, Tryz.ntmps19
 go_wp2
 go_ret
 exact ⟨rfl, rfl⟩
theorem ds1_smD : ∀ d ∈ ds1, smD d = true := List.all_eq_true.1 ds1_sm
theorem works2_any (w : World) (hT : Tabs w) : Calls Tryz.prog 15 #[] w (Says w true) := by
 have HT := aP hT
 clear hT
 go_enter Tryz.func15, Tryz.ntmps15
 go_wp2_with fail
 refine (parse_calls t1 (by decide) w HT.out.ops HT.out.decls).mono ?_
 rintro e W1 ⟨r, hr, hv, hk1⟩
 obtain rfl := hr.all t1_good t1_end
 rw [t1_is] at hv
 obtain ⟨v, rfl, hrow⟩ := hv
 have hrow1 : RowV W1 noX v (ds1.map DT.d) := hrow.mono (fun _ _ h => h.elim)
 obtain ⟨A, n, c, rfl, hn, hnc, hcm⟩ := hrow1.form
 rw [List.length_map, ds1_len] at hn
 subst hn
 have hT1 := HT.out.keep hk1
 have HPr := aP (fun W (hk : Kept noX W1 W) => print_any (hrow1.keep hk) (hT1.keep hk) ds1_smD (fun _ => by rw [ds1_print]; decide))
 have HK1 := aP hk1
 have HT1 := aP hT1
 have HB1 := aP (Cells.fresh W1 25 [.int .i64 0, .int .i64 0])
 clear hrow hrow1 hT1 hk1 hr HT hcm hnc
 go_wp2_with fail
 refine (HPr.out _ kp).mono ?_
 rintro e W3 ⟨rfl, hk3⟩
 rw [show printV ds1 = .tuple #[.string t3, .int .i64 0] from by rw [printV, ds1_may, if_pos rfl, ds1_print]]
 have hk13 : Kept noX W1 W3 := ((Kept.refl _ _).alloc _).trans hk3
 have HB3 := aP (HB1.out.keep hk3)
 have HP2 := aP (parse_calls t2 (by decide) W3 (HT1.out.keep hk13).ops (HT1.out.keep hk13).decls)
 have HK13 := aP hk13
 clear hk3 hk13
 go_wp2_with fail
 refine HP2.out.mono ?_
 rintro e W4 ⟨r, hr, hv, hk4⟩
 obtain rfl := hr.all t2_good t2_end
 rw [t2_is] at hv
 have hv : e = .returned (.tuple #[.slice none 0 0, .agg #[.int .i64 1, .int .i64 7], .int .i64 120]) := hv
 subst hv
 clear hr
 go_wp2_with fail
 have hk35 : Kept noX W3 (W4.alloc (.cells #[.int .i64 1, .int .i64 7] 25)) := hk4.trans ((Kept.refl _ _).alloc _)
 have hp1 := (HB3.out.keep hk35)
 have hp2 := Cells.fresh W4 25 [.int .i64 1, .int .i64 7]
 have hkw := HK1.out.trans (HK13.out.trans hk35)
 generalize hW5 : W4.alloc (.cells #[.int .i64 1, .int .i64 7] 25) = W5 at hp1 hkw ⊢
 have hp2' : Cells W5 W4.heap.size 25 [.int .i64 1, .int .i64 7] := by rw [← hW5]; exact hp2
 have p0 := hp1.cell 0; have p1 := hp1.cell 1; have p2 := hp2'.cell 0; have p3 := hp2'.cell 1
 simp only [aZ, aS] at p0 p1 p2 p3
 obtain ⟨T, hTT⟩ : ∃ T, T = t3 := ⟨_, rfl⟩
 have e3 : (T.toList == [118, 97, 114, 32, 120, 32, 61, 32, 45, 51, 59, 10, 116, 104, 114, 101, 97, 100, 32, 109, 97, 105, 110, 32, 123, 10, 9, 112, 114, 105, 110, 116, 32, 40, 120, 32, 43, 32, 49, 41, 32, 42, 32, 50, 59, 10, 125, 10]) = true := by rw [hTT, ByteArray.toList_eq]; exact beq_iff_eq.2 rfl
 rw [← hTT]
 have HK := aP hkw
 clear hp1 hp2 hp2' hkw hW5 hk35 hk4 HB3 HB1 HP2 HPr HK1 HK13 HT1 hTT
 refine (num2_any _ _).mono ?_
 rintro e W6 ⟨rfl, rfl⟩
 go_wp2_with fail
 refine (num2_any _ _).mono ?_
 rintro e W6 ⟨rfl, rfl⟩
 go_wp2_with fail
 refine (num2_any _ _).mono ?_
 rintro e W6 ⟨rfl, rfl⟩
 go_wp2
 go_ret
 exact ⟨rfl, HK.out⟩
def headOk (s : ByteArray) : Bool :=
 match s.data.toList with
 | [] => false
 | b :: _ => !(digB (b.toNat : Nat)) && (!(letB (b.toNat : Nat)) || decide (s.data.toList ∈ kwL))
theorem ask_heads : (askL.all headOk) = true := by decide +kernel
theorem ask_head {s : ByteArray} (h : askB s = true) : headOk s = true := by
 unfold askB at h
 rw [List.any_eq_true] at h
 obtain ⟨x, hx, he⟩ := h
 rw [decide_eq_true_eq] at he
 subst he
 exact List.all_eq_true.1 ask_heads x hx
theorem kw_heads : ((List.range' 1 15).all fun j => (kwK j).toList.isEmpty || (decide ((kwK j).data.toList ∈ kwL) && match (kwK j).data.toList with | [] => false | b :: _ => letB (b.toNat : Nat))) = true := by decide +kernel
theorem word_kind (b : UInt8) (l : List UInt8) :
  (letB (b.toNat : Nat) = true ∧ (wordR (b :: l)).1 = (if (b :: l).take (wordR (b :: l)).2.1 ∈ kwL then 3 else 1) ∧ ∃ t, (b :: l).take (wordR (b :: l)).2.1 = b :: t) ∨
  (digB (b.toNat : Nat) = true ∧ (wordR (b :: l)).1 = 2 ∧ ∃ t, (b :: l).take (wordR (b :: l)).2.1 = b :: t) ∨
  (letB (b.toNat : Nat) = false ∧ (wordR (b :: l)).1 = 4) := by
 have hT : ∀ n, 0 < n → ∃ t, (b :: l).take n = b :: t := fun n hn => by
  obtain ⟨n, rfl⟩ : ∃ m, n = m + 1 := ⟨n - 1, by omega⟩
  exact ⟨l.take n, List.take_succ_cons⟩
 by_cases h1 : letB (b.toNat : Nat) = true
 ·refine .inl ⟨h1, ?_⟩
  rw [wordR, if_pos h1]
  exact ⟨rfl, hT _ (runQ_pos (by unfold alnB; rw [h1] <;> rfl))⟩
 ·by_cases h2 : digB (b.toNat : Nat) = true
  ·refine .inr (.inl ⟨h2, ?_⟩)
   rw [wordR, if_neg h1, if_pos h2]
   exact ⟨rfl, hT _ (runQ_pos (by unfold alnB; rw [h2, Bool.or_true]))⟩
  ·refine .inr (.inr ⟨Bool.eq_false_iff.2 h1, ?_⟩)
   rw [wordR, if_neg h1, if_neg h2]
section
variable {s : ByteArray} {n : Nat} (hg : goodW s.data.toList n)
include hg
theorem word_at {k : Nat} (hk : k < n) : ∃ b l, s.data.toList.drop (posW s.data.toList k) = b :: l ∧ (tokD s (posW s.data.toList k)).kind = (wordR (b :: l)).1 ∧
  (tokD s (posW s.data.toList k)).text.data.toList = (b :: l).take (wordR (b :: l)).2.1 := by
 have hlt := (hg k hk).1
 cases hd : s.data.toList.drop (posW s.data.toList k) with
 | nil => have := List.drop_eq_nil_iff.1 hd; omega
 | cons b l =>
  refine ⟨b, l, rfl, ?_, ?_⟩
  ·unfold tokD; rw [hd]
  ·unfold tokD; rw [hd]; rw [extract_list, hd]
theorem askOk_src : AskOk (srcP s n).n (srcP s n).T := fun k hk ht => by
 obtain ⟨b, l, hd, h1, h2⟩ := word_at hg hk
 have ho := ask_head ht
 show (3 : Int) ≤ (tokD s (posW s.data.toList k)).kind
 unfold headOk at ho
 rw [show ((srcP s n).T k).text.data.toList = _ from h2] at ho
 rw [h1]
 rcases word_kind b l with ⟨h3, h4, t, h5⟩ | ⟨h3, h4, t, h5⟩ | ⟨_, h4⟩
 ·rw [h4]
  rw [h5] at ho ⊢
  dsimp only at ho
  rw [h3, Bool.not_true, Bool.false_or, Bool.and_eq_true, decide_eq_true_eq] at ho
  rw [if_pos ho.2]
  decide
 ·rw [h5] at ho
  dsimp only at ho
  rw [h3, Bool.not_true, Bool.false_and] at ho
  cases ho
 ·rw [h4]
  decide
theorem kwOk_src : KwOk (srcP s n).n (srcP s n).T := fun k hk j hj1 hj2 ht hne => by
 obtain ⟨b, l, hd, h1, h2⟩ := word_at hg hk
 have ho := List.all_eq_true.1 kw_heads j (List.mem_range'_1.2 ⟨hj1, by omega⟩)
 have ht' : (tokD s (posW s.data.toList k)).text = kwK j := ht
 have hne' : (kwK j).toList.isEmpty = false := by
  rw [← ht']
  cases he : (tokD s (posW s.data.toList k)).text.toList.isEmpty with
  | false => rfl
  | true =>
   rw [List.isEmpty_iff, ByteArray.toList_eq] at he
   exact absurd (ByteArray.ext (Array.toList_inj.1 he)) hne
 rw [hne', Bool.false_or, Bool.and_eq_true, decide_eq_true_eq, ← ht', h2] at ho
 show (tokD s (posW s.data.toList k)).kind = 3
 rw [h1]
 rcases word_kind b l with ⟨h3, h4, t, h5⟩ | ⟨h3, h4, t, h5⟩ | ⟨h3, h4⟩
 ·rw [h4, if_pos ho.1]
 ·rw [h5] at ho
  have hl : letB (b.toNat : Nat) = true := ho.2
  unfold letB digB at *
  simp_all
  omega
 ·exfalso
  have hlen : 0 < (wordR (b :: l)).2.1 ∨ (b :: l).take (wordR (b :: l)).2.1 = [] := by
   by_cases h : 0 < (wordR (b :: l)).2.1
   ·exact .inl h
   ·exact .inr (by rw [show (wordR (b :: l)).2.1 = 0 by omega] <;> rfl)
  rcases hlen with h | h
  ·obtain ⟨m, hm⟩ : ∃ m, (wordR (b :: l)).2.1 = m + 1 := ⟨_ - 1, (Nat.sub_add_cancel h).symm⟩
   rw [hm, List.take_succ_cons] at ho
   have hl : letB (b.toNat : Nat) = true := ho.2
   rw [h3] at hl
   cases hl
  ·rw [h] at ho
   exact absurd ho.2 Bool.false_ne_true
theorem zeroOk_src : ZeroOk (srcP s n).n (srcP s n).T := fun k hk => by
 obtain ⟨b, l, hd, h1, h2⟩ := word_at hg hk
 show (tokD s (posW s.data.toList k)).kind ≠ 0
 rw [h1]
 rcases word_kind b l with ⟨h3, h4, _⟩ | ⟨h3, h4, _⟩ | ⟨_, h4⟩
 ·rw [h4]; split <;> decide
 ·rw [h4]; decide
 ·rw [h4]; decide
theorem prog_src : Sim (declsR (srcP s n).n (srcP s n).T (n + 1) (0, false)) (progS (srcP s n) (n + 1) 0) :=
 decls_sim (askOk_src hg) (kwOk_src hg) (zeroOk_src hg) (n + 1) 0 (Nat.zero_le _) (by show n - 0 + 1 ≤ n + 1; omega)
end
end Go.Proofs.YtjkgepppoopheaaGreatDoor
