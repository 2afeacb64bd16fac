/- What lex.Lex tells, as a row of words (conditions: none). -/
import Derived.Test.YtjkgepppoopheaaGreatDoorAbb
import Derived.Test.YtjkgepppoopheaaGreatDoorQ1
import Derived.Test.YtjkgepppoopheaaGreatDoorQ21
import Derived.RangeFuncNested
import Derived.RangeFuncBound
import Derived.RangeFuncCalls
import Derived.RangeFuncLeaves
import Derived.Shelf.Abstract
import Derived.Shelf.RegionOpen
import Derived.OwnWalkIn
import Derived.TacticsInMore
import Derived.LoopNIn
import Derived.LoopIn
import Derived.Sort.QuietTacIn
import Derived.Sort.LoopGhostIn
set_option maxRecDepth 100000
set_option maxHeartbeats 1000000
namespace Go.Proofs.YtjkgepppoopheaaGreatDoor
open Go.RowKit Go.Shelf
attribute [local go_sem] Oper.semAt_some
theorem words_any (s : ByteArray) (w : World) :
  Calls Tryz.prog 65 #[.string s] w fun e w' => e = .returned (.func (.func 119) #[] #[.pointer (some ⟨w.heap.size, 0, none⟩)]) ∧ w' = w.alloc (.cells #[.string s] 9) := by
 go_enter Tryz.func65, Tryz.ntmps65
 go_wp2
 go_ret
 exact ⟨rfl, rfl⟩
def nextW (s : List UInt8) (i : Nat) : Nat := i + (wordR (s.drop i)).2.1 + skN (s.drop (i + (wordR (s.drop i)).2.1))
def posW (s : List UInt8) : Nat → Nat
 | 0 => skN s
 | k + 1 => nextW s (posW s k)
def errW (s : List UInt8) (i : Nat) : Int := (wordR (s.drop i)).2.2.2
def encW (s : ByteArray) (i : Nat) : Array Value := #[.agg (tokV s i (wordR (s.data.toList.drop i))).toArray, .int .i64 (errW s.data.toList i)]
def goodW (s : List UInt8) (n : Nat) : Prop := ∀ k, k < n → posW s k < s.length ∧ errW s (posW s k) = 0
def mayW (s : List UInt8) (pre : List Nat) (x : Nat) : Prop := ∃ n, pre = (List.range n).map (posW s) ∧ x = posW s n ∧ posW s n < s.length ∧ goodW s n
def allW (s : List UInt8) (xs : List Nat) : Prop := ∃ n, xs = (List.range n).map (posW s) ∧ posW s n = s.length ∧ goodW s n
def partW (s : List UInt8) (pre : List Nat) : Prop := ∃ n, pre = (List.range (n + 1)).map (posW s) ∧ posW s n < s.length ∧ goodW s n
theorem runQ_le (q : Int → Bool) (l : List UInt8) : runQ q l ≤ l.length := runS_le _ _ _ _
theorem skN_le (l : List UInt8) : skN l ≤ l.length := runS_le _ _ _ _
theorem runQ_pos {q : Int → Bool} {b : UInt8} {l : List UInt8} (h : q (b.toNat : Nat) = true) : 0 < runQ q (b :: l) := by
 unfold runQ runS
 rw [if_pos h]
 omega
theorem wordR_le (l : List UInt8) : (wordR l).2.1 ≤ l.length := by
 cases l with
 | nil => exact Nat.le_refl _
 | cons b l =>
  unfold wordR
  dsimp only
  split
  ·exact runQ_le _ _
  ·split
   ·exact runQ_le _ _
   ·dsimp only
    unfold sgN
    split
    ·omega
    ·split
     ·omega
     ·exact Nat.zero_le _
theorem wordR_pos {l : List UInt8} (h : (wordR l).2.2.2 = 0) : 0 < (wordR l).2.1 := by
 cases l with
 | nil => simp [wordR] at h
 | cons b l =>
  unfold wordR at h ⊢
  dsimp only at h ⊢
  split at h
  ·rename_i hb
   rw [if_pos hb]
   exact runQ_pos (by simp [alnB, hb])
  ·rename_i hb
   rw [if_neg hb]
   split at h
   ·rename_i hd
    rw [if_pos hd]
    exact runQ_pos (by simp [alnB, hd])
   ·rename_i hd
    rw [if_neg hd]
    dsimp only at h ⊢
    split at h
    ·simp at h
    ·omega
theorem nextW_le {s : List UInt8} {i : Nat} (hi : i ≤ s.length) : nextW s i ≤ s.length := by
 unfold nextW
 have h1 := wordR_le (s.drop i)
 have h2 := skN_le (s.drop (i + (wordR (s.drop i)).2.1))
 rw [List.length_drop] at h1 h2
 omega
theorem posW_le (s : List UInt8) (k : Nat) : posW s k ≤ s.length := by
 induction k with
 | zero => exact skN_le s
 | succ k ih => exact nextW_le ih
theorem nextW_lt {s : List UInt8} {i : Nat} (h : errW s i = 0) : i < nextW s i := by
 unfold nextW
 have := wordR_pos h
 omega
theorem words1_seq (s : ByteArray) (hs : s.size ≤ 1000000) (T base : Nat) (hT : base ≤ T) (w : World) (hTc : Cells w T 9 [.string s]) :
  SeqO Tryz.prog 119 #[.pointer (some ⟨T, 0, none⟩)] (encW s) (fun x => errW s.data.toList x = 0) (mayW s.data.toList) (allW s.data.toList) (partW s.data.toList) base w := by
 intro l J Jx W hwW hst hex hstx hY h0
 have hlen : s.data.toList.length = s.size := by simp
 have hTW := hTc.kept hwW (fun h => h)
 have hTlt := hTW.lt
 have hTw := hTc.lt
 clear hTc
 refine callsIn_of_wp Tryz.func119 rfl trivial ?_ rfl
 simp only [Tryz.ntmps119, List.size_toArray, List.length_cons, List.length_nil, Nat.reduceAdd, Nat.reduceSub, Array.replicate_succ, Array.replicate_zero, List.push_toArray, List.append_toArray, List.nil_append, List.cons_append]
 gi_wp2_with fail
 refine ⟨trivial, rfl, ?_⟩
 refine (callsIn_wide.2 (keywords_any W)).mono ?_
 rintro e W1 ⟨rfl, hK1, hk1⟩
 gi_wp2_with fail
 refine ⟨trivial, rfl, ?_⟩
 refine (callsIn_wide.2 (signs_any W1)).mono ?_
 rintro e W2 ⟨rfl, hS2, hk2⟩
 have hT2 := (hTW.kept hk1 (fun h => h)).kept hk2 (fun h => h)
 have hK2 := hK1.kept hk2 (fun h => h)
 obtain ⟨K, hK, hbK, hWK⟩ : ∃ K, K = W.heap.size + 1 ∧ base ≤ K ∧ W.heap.size ≤ K := ⟨_, rfl, by omega, by omega⟩
 obtain ⟨S, hS, hbS, hWS⟩ : ∃ S, S = W1.heap.size + 1 ∧ base ≤ S ∧ W.heap.size ≤ S := ⟨_, rfl, by have := hk1.size; omega, by have := hk1.size; omega⟩
 rw [← hK] at hK2 ⊢
 rw [← hS] at hS2 ⊢
 have hkW2 := hk1.trans hk2
 clear hK hS hK1 hk1 hk2 hTW
 have ct := hT2.cell 0
 simp only [aZ] at ct
 gi_wp2_with fail
 refine ⟨trivial, rfl, ?_⟩
 refine (callsIn_wide.2 (begin_any s W2)).mono ?_
 rintro e W3 ⟨rfl, hW3⟩
 have hr3 : Rdr W3 W2.heap.size s 0 := by rw [hW3]; exact Cells.fresh W2 125 _
 have hk3 : Kept noX W2 W3 := by rw [hW3]; exact (Kept.refl _ _).alloc _
 have hBT : W2.heap.size ≠ T := by have := hT2.lt; omega
 have hBW : W.heap.size ≤ W2.heap.size := hkW2.size
 obtain ⟨B, hB⟩ : ∃ B, B = W2.heap.size := ⟨_, rfl⟩
 rw [← hB] at hr3 hBT hBW ⊢
 have hT3 := hT2.kept hk3 (fun h => h)
 have hK3 := hK2.kept hk3 (fun h => h)
 have hS3 := hS2.kept hk3 (fun h => h)
 have hkW3 := hkW2.trans hk3
 clear hW3 hk3 hB ct hT2 hK2 hS2 hkW2
 gi_wp2_with fail
 refine ⟨trivial, rfl, ?_⟩
 refine (callsIn_wide.2 (between_any B s hs 0 (Nat.zero_le _) W3 hr3)).mono ?_
 rintro e W4 ⟨rfl, hr4, hk4⟩
 rw [Nat.zero_add, List.drop_zero] at hr4
 have hT4 := hT3.kept hk4 (fun h => hBT h.symm)
 have hK4 := hK3.kept hk4 (hK3.ne hr3)
 have hS4 := hS3.kept hk4 (hS3.ne hr3)
 have hbB : base ≤ B := by omega
 have hJ4 : J (fun k => k = B ∨ k = K ∨ k = S ∨ k = T) [] W4 := by
  refine hst _ _ W W4 (fun k hk => by rcases hk with rfl | rfl | rfl | rfl <;> omega) ?_ ?_
  ·refine hex _ _ _ _ h0 (fun k hk ho => ?_)
   rcases ho with rfl | rfl | rfl | rfl
   ·omega
   ·omega
   ·omega
   ·exact ⟨hT, hTw⟩
  ·exact (hkW3.any).join hk4 (fun i hi _ => .inl hi)
 clear hT3 hK3 hS3 hr3 hk4 h0
 have hOb : ∀ k, (k = B ∨ k = K ∨ k = S ∨ k = T) → base ≤ k := fun k hk => by rcases hk with rfl | rfl | rfl | rfl <;> omega
 have HB := aP hBT
 have HL := aP hlen
 clear hBT hlen
 gi_wp2_with fail
 gi_loopg [] (s.size - skN s.data.toList) (fun g wr => ∃ n, g = s.size - posW s.data.toList n ∧ goodW s.data.toList n ∧ Rdr wr B s (posW s.data.toList n) ∧ Tab wr K 3 kwL ∧ Tab wr S 4 sgL ∧ Cells wr T 9 [.string s] ∧ J (fun k => k = B ∨ k = K ∨ k = S ∨ k = T) ((List.range n).map (posW s.data.toList)) wr)
 case atStart => exact ⟨0, rfl, fun k hk => by omega, hr4, hK4, hS4, hT4, hJ4⟩
 case round =>
  obtain ⟨n, hg, hgood, hr, hK, hS, hT', hJ⟩ := hrel
  have hple := posW_le s.data.toList n
  rw [HL.out] at hple
  obtain ⟨p, hp⟩ : ∃ p, p = posW s.data.toList n := ⟨_, rfl⟩
  rw [← hp] at hr hple hg
  have HP := aP hp
  have HG := aP hg
  clear hp hg hr4 hK4 hS4 hT4 hJ4
  have c3 := hr.is.c3
  have ct := hT'.cell 0
  simp only [aZ] at ct
  by_cases hlt : p < s.size
  ·have hlt' : decide ((p : Int) < (s.size : Int)) = true := by simpa using hlt
   gi_wp2_with fail
   gi_quiet_th (fail)
   gi_wp2_with fail
   refine ⟨trivial, rfl, ?_⟩
   refine (callsIn_wide.2 (word_any B K S s hs p hlt (wr.drewN nq) hr (hK.kept ((Kept.refl noX wr).drewN _) (fun h => h)) (hS.kept ((Kept.refl noX wr).drewN _) (fun h => h)))).mono ?_
   rintro e W5 ⟨rfl, hr5, hk5⟩
   have hk5' : Kept (· = B) wr W5 := ((Kept.refl (· = B) wr).drewN nq).trans hk5
   have hT5 := hT'.kept hk5' (fun h => HB.out h.symm)
   have hK5 := hK.kept hk5' (hK.ne hr)
   have hS5 := hS.kept hk5' (hS.ne hr)
   have hJ5 := hst _ _ _ _ hOb hJ (hk5'.mono (fun k _ h => .inl h))
   have hmay : mayW s.data.toList ((List.range n).map (posW s.data.toList)) p := ⟨n, rfl, HP.out, by rw [← HP.out, HL.out]; exact hlt, hgood⟩
   have hOs : ∀ k, (k = B ∨ k = K ∨ k = S ∨ k = T) → k < W5.heap.size := fun k hk => by
    have h1 := hr5.lt; have h2 := hK5.lt; have h3 := hS5.lt; have h4 := hT5.lt
    rcases hk with rfl | rfl | rfl | rfl <;> assumption
   have hy0 := hY _ _ p _ hOb hOs hmay hJ5
   obtain ⟨yfn, ytmps, yas, ybd, hy, hR⟩ := hy0
   clear hk5 hk5' c3 ct hr hK hS hT' hJ hJ5
   have HR := aP hR
   clear hR hY
   unfold encW errW at hy
   have HM := aP hmay
   have HGD := aP hgood
   clear hmay hgood
   gi_wp2_with fail
   refine ⟨rfl, ?_⟩
   refine HR.out.mono ?_
   rintro e W6 (⟨rfl, hgo, hJ6, hk6⟩ | ⟨rfl, hJx6⟩)
   ·have hr6 := hr5.kept hk6 (fun h => h (.inl rfl))
    have hT6 := hT5.kept hk6 (fun h => h (.inr (.inr (.inr rfl))))
    have hK6 := hK5.kept hk6 (fun h => h (.inr (.inl rfl)))
    have hS6 := hS5.kept hk6 (fun h => h (.inr (.inr (.inl rfl))))
    have hle : p + (wordR (s.data.toList.drop p)).2.1 ≤ s.size := by
     have := wordR_le (s.data.toList.drop p)
     rw [List.length_drop, HL.out] at this
     omega
    have hlt3 := nextW_lt hgo
    have hle3 := nextW_le (s := s.data.toList) (i := p) (by rw [HL.out]; omega)
    rw [HL.out] at hle3
    have HGO := aP hgo
    clear hr5 hT5 hK5 hS5 hk6 HR hgo hy
    gi_wp2_with fail
    refine ⟨trivial, rfl, ?_⟩
    refine (callsIn_wide.2 (between_any B s hs _ hle W6 hr6)).mono ?_
    rintro e W7 ⟨rfl, hr7, hk7⟩
    have hT7 := hT6.kept hk7 (fun h => HB.out h.symm)
    have hK7 := hK6.kept hk7 (hK6.ne hr6)
    have hS7 := hS6.kept hk7 (hS6.ne hr6)
    have hJ7 := hst _ _ _ _ hOb hJ6 (hk7.mono (fun k _ h => .inl h))
    have enx : p + (wordR (s.data.toList.drop p)).2.1 + skN (s.data.toList.drop (p + (wordR (s.data.toList.drop p)).2.1)) = nextW s.data.toList p := rfl
    rw [enx] at hr7
    clear enx hr6 hT6 hK6 hS6 hk7 hJ6 hle
    gi_wp2
    go_roundg (s.size - nextW s.data.toList p)
    case measure => rw [HG.out]; omega
    case rel =>
     have e1 : posW s.data.toList (n + 1) = nextW s.data.toList p := by rw [HP.out] <;> rfl
     refine ⟨n + 1, by rw [e1], ?_, by rw [e1]; exact hr7, hK7, hS7, hT7, ?_⟩
     ·intro k hk
      by_cases hkn : k < n
      ·exact HGD.out k hkn
      ·obtain rfl : k = n := by omega
       rw [← HP.out, HL.out]
       exact ⟨hlt, HGO.out⟩
     ·rw [List.range_succ, List.map_append, List.map_cons, List.map_nil, ← HP.out]
      exact hJ7
   ·gi_wp2
    refine bodyPost_ret (results_none rfl _ _ _) rfl ?_
    refine ⟨⟨_, rfl⟩, .inr ⟨_, ⟨n, ?_, by rw [← HP.out, HL.out]; exact hlt, HGD.out⟩, _, hOb, hJx6⟩⟩
    rw [List.range_succ, List.map_append, List.map_cons, List.map_nil, ← HP.out]
  ·have hlt' : decide ((p : Int) < (s.size : Int)) = false := by simpa using hlt
   have hJ5 := hst _ _ wr wr hOb hJ (Kept.refl _ _)
   have HGD := aP hgood
   clear hgood hY
   gi_wp2_with fail
   gi_quiet_th (fail)
   gi_wp2
   go_end0
   refine ⟨⟨_, rfl⟩, .inl ⟨_, ⟨n, rfl, by rw [← HP.out, HL.out]; omega, HGD.out⟩, _, hOb, ?_⟩⟩
   exact hst _ _ _ _ hOb hJ ((Kept.refl _ _).drewN _)
end Go.Proofs.YtjkgepppoopheaaGreatDoor
namespace Go.Proofs.YtjkgepppoopheaaGreatDoor
open Go.RowKit Go.Shelf
attribute [local go_sem] Oper.semAt_some
def toks (s : ByteArray) (xs : List Nat) : List Value := xs.flatMap fun i => tokV s i (wordR (s.data.toList.drop i))
theorem toks_snoc (s : ByteArray) (xs : List Nat) (i : Nat) : toks s (xs ++ [i]) = toks s xs ++ tokV s i (wordR (s.data.toList.drop i)) := by simp [toks]
def zero2 : List Value := [.int .i64 0, .int .i64 0]
theorem posW_ge {s : List UInt8} {n : Nat} (h : goodW s n) : n ≤ posW s n := by
 induction n with
 | zero => exact Nat.zero_le _
 | succ n ih =>
  have h1 := ih (fun k hk => h k kom)
  have h2 := nextW_lt (h n kom).2
  show n + 1 ≤ nextW s (posW s n)
  omega
theorem cells_new (W : World) (e : TypeId) (cs : List Value) : ∀ j u, cs[j]? = some u → (W.alloc (.cells cs.toArray e)).cell? ((⟨W.heap.size, 0, none⟩ : Addr).add j) = some u := by
 intro j u hj
 have : (⟨W.heap.size, 0, none⟩ : Addr).add j = ⟨W.heap.size, j, none⟩ := by unfold Addr.add; split <;> simp_all
 rw [this]
 exact ((Cells.fresh W e cs).cell j).trans hj
theorem tok_one (a b c d : Int) (t : ByteArray) : ∀ u ∈ [Value.int .i64 a, .string t, .int .i64 b, .int .i64 c, .int .i64 d], u.oneCell' = true := by
 intro u hu
 simp only [List.mem_cons, List.not_mem_nil, or_false] at hu
 rcases hu with rfl | rfl | rfl | rfl | rfl <;> rfl
structure LexI (w : World) (R L Pl Fb : Nat) (s : ByteArray) (O : Nat → Prop) (pre : List Nat) (W : World) (v : Value) : Prop where
 list : Cells W L 69 [v]
 own : W.ownsRow 0 92 5 v pre.length (toks s pre)
 res : Cells W R 25 zero2
 pl : Cells W Pl 25 zero2
 fb : Cells W Fb 26 [.int .i64 0]
 nown : ∀ g, v.ownBlock = some g → ¬ O g ∧ w.heap.size ≤ g
 nr : ¬ O R
 nl : ¬ O L
 np : ¬ O Pl
 nf : ¬ O Fb
 lw : w.heap.size ≤ L
 pw : w.heap.size ≤ Pl
 fw : w.heap.size ≤ Fb
 rp : R ≠ Pl
 kept : Kept noX w W
theorem LexI.stab {w : World} {R L Pl Fb : Nat} {s : ByteArray} {O : Nat → Prop} {pre : List Nat} {W W' : World} {v : Value} (h : LexI w R L Pl Fb s O pre W v) (hO : ∀ k, O k → w.heap.size ≤ k) (hk : Kept O W W') : LexI w R L Pl Fb s O pre W' v :=
 ⟨h.list.kept hk h.nl, own_kept h.own hk (fun g hg => (h.nown g hg).1), h.res.kept hk h.nr, h.pl.kept hk h.np, h.fb.kept hk h.nf, h.nown, h.nr, h.nl, h.np, h.nf, h.lw, h.pw, h.fw, h.rp, h.kept.join hk (fun i hi hlt => by have := hO i hi; omega)⟩
theorem LexI.ext {w : World} {R L Pl Fb : Nat} {s : ByteArray} {O O' : Nat → Prop} {pre : List Nat} {W : World} {v : Value} (h : LexI w R L Pl Fb s O pre W v) (hO : ∀ k, k < W.heap.size → O' k → O k) : LexI w R L Pl Fb s O' pre W v :=
 ⟨h.list, h.own, h.res, h.pl, h.fb, fun g hg => ⟨fun ho => (h.nown g hg).1 (hO g (h.own.lt g hg).2 ho), (h.nown g hg).2⟩, fun ho => h.nr (hO _ h.res.lt ho), fun ho => h.nl (hO _ h.list.lt ho), fun ho => h.np (hO _ h.pl.lt ho), fun ho => h.nf (hO _ h.fb.lt ho), h.lw, h.pw, h.fw, h.rp, h.kept⟩
theorem Cells.ne {w : World} {g g' : Nat} {t t' : TypeId} {cs cs' : List Value} (h : Cells w g t cs) (h' : Cells w g' t' cs') (hne : t ≠ t') : g ≠ g' := by
 rintro rfl
 unfold Cells at h h'
 rw [h] at h'
 injection h' with h'
 injection h' with _ ht
 exact hne ht
theorem LexI.next {w : World} {R L Pl Fb : Nat} {s : ByteArray} {O : Nat → Prop} {pre : List Nat} {x : Nat} {W W2 : World} {v v2 : Value} {o : Obj} (h : LexI w R L Pl Fb s O pre W v) (hO : ∀ k, O k → k < W.heap.size)
  (hg : (W.alloc o).grownBy W2 v.ownBlock) (hown : W2.ownsRow 0 92 5 v2 (pre.length + 1) (toks s (pre ++ [x]))) (hat : v2.ownBlock = v.ownBlock ∨ v2.ownBlock = some (W.alloc o).heap.size) :
  LexI w R L Pl Fb s O (pre ++ [x]) (W2.setCell ⟨L, 0, none⟩ v2) v2 ∧ Kept (fun k => ¬ O k) W (W2.setCell ⟨L, 0, none⟩ v2) := by
 have k1 : Kept (fun k => v.ownBlock = some k) W W2 := ((Kept.refl _ _).alloc _).grown hg (fun k e _ => e)
 have hL2 := h.list.kept k1 (own_ne h.own h.list (by decide))
 have k2 : Kept (· = L) W2 (W2.setCell ⟨L, 0, none⟩ v2) := (Kept.refl _ _).setCell (fun _ => by rfl) _
 have hws := h.kept.size
 refine ⟨⟨hL2.put 0 v2, own_kept (by rw [List.length_append]; exact hown) k2 (fun g hg e => own_ne hown hL2 (by decide) (e ▸ hg)),
   (h.res.kept k1 (own_ne h.own h.res (by decide))).kept k2 (h.res.ne h.list (by decide)),
   (h.pl.kept k1 (own_ne h.own h.pl (by decide))).kept k2 (h.pl.ne h.list (by decide)),
   (h.fb.kept k1 (own_ne h.own h.fb (by decide))).kept k2 (h.fb.ne h.list (by decide)), ?_, h.nr, h.nl, h.np, h.nf, h.lw, h.pw, h.fw, h.rp, ?_⟩, ?_⟩
 ·intro g hg2
  rcases hat with e | e
  ·exact h.nown g (e ▸ hg2)
  ·rw [e] at hg2
   simp only [Option.some.injEq, World.size_alloc] at hg2
   subst hg2
   exact ⟨fun ho => by have := hO _ ho; omega, by omega⟩
 ·refine (h.kept.join k1 (fun i hi hlt => ?_)).join k2 (fun i hi hlt => ?_)
  ·have := (h.nown i hi).2; omega
  ·have := h.lw; omega
 ·refine (k1.mono (fun k _ hk ho => (h.nown k hk).1 ho)).join k2 (fun i hi _ => ?_)
  subst hi
  exact h.nl
structure LexX (w : World) (R L Pl Fb : Nat) (s : ByteArray) (O : Nat → Prop) (x : Nat) (W : World) : Prop where
 list : Cells W L 69 [.slice none 0 0]
 res : Cells W R 25 zero2
 pl : Cells W Pl 25 [.int .i64 ((plOf s.data.toList x).1 : Nat), .int .i64 ((plOf s.data.toList x).2 : Nat)]
 fb : Cells W Fb 26 [.int .i64 (errW s.data.toList x)]
 nr : ¬ O R
 nl : ¬ O L
 np : ¬ O Pl
 nf : ¬ O Fb
 bad : errW s.data.toList x ≠ 0
 kept : Kept noX w W
theorem LexX.stab {w : World} {R L Pl Fb : Nat} {s : ByteArray} {O : Nat → Prop} {x : Nat} {W W' : World} (h : LexX w R L Pl Fb s O x W) (hO : ∀ k, O k → w.heap.size ≤ k) (hk : Kept O W W') : LexX w R L Pl Fb s O x W' :=
 ⟨h.list.kept hk h.nl, h.res.kept hk h.nr, h.pl.kept hk h.np, h.fb.kept hk h.nf, h.nr, h.nl, h.np, h.nf, h.bad, h.kept.join hk (fun i hi hlt => by have := hO i hi; omega)⟩
def LexOut (s : ByteArray) (w : World) (e : Ending) (W' : World) : Prop :=
 (∃ n v, goodW s.data.toList n ∧ posW s.data.toList n = s.data.toList.length ∧ e = .returned (.tuple #[v, .agg #[.int .i64 0, .int .i64 0], .int .i64 0]) ∧
   W'.ownsRow 0 92 5 v n (toks s ((List.range n).map (posW s.data.toList))) ∧ (∀ g, v.ownBlock = some g → w.heap.size ≤ g) ∧ Kept noX w W') ∨
 (∃ n, goodW s.data.toList n ∧ posW s.data.toList n < s.data.toList.length ∧ errW s.data.toList (posW s.data.toList n) ≠ 0 ∧
   e = .returned (.tuple #[.slice none 0 0, .agg #[.int .i64 ((plOf s.data.toList (posW s.data.toList n)).1 : Nat), .int .i64 ((plOf s.data.toList (posW s.data.toList n)).2 : Nat)], .int .i64 (errW s.data.toList (posW s.data.toList n))]) ∧ Kept noX w W')
theorem LexI.puts {w : World} {R L Pl Fb : Nat} {s : ByteArray} {O : Nat → Prop} {pre : List Nat} {W : World} {v : Value} (h : LexI w R L Pl Fb s O pre W v) (a b c e : Value) :
  Cells ((((W.setCell ⟨L, 0, none⟩ a).setCell ⟨Pl, 0, none⟩ b).setCell ⟨Pl, 1, none⟩ c).setCell ⟨Fb, 0, none⟩ e) L 69 [a] ∧
  Cells ((((W.setCell ⟨L, 0, none⟩ a).setCell ⟨Pl, 0, none⟩ b).setCell ⟨Pl, 1, none⟩ c).setCell ⟨Fb, 0, none⟩ e) R 25 zero2 ∧
  Cells ((((W.setCell ⟨L, 0, none⟩ a).setCell ⟨Pl, 0, none⟩ b).setCell ⟨Pl, 1, none⟩ c).setCell ⟨Fb, 0, none⟩ e) Pl 25 [b, c] ∧
  Cells ((((W.setCell ⟨L, 0, none⟩ a).setCell ⟨Pl, 0, none⟩ b).setCell ⟨Pl, 1, none⟩ c).setCell ⟨Fb, 0, none⟩ e) Fb 26 [e] ∧
  Kept noX w ((((W.setCell ⟨L, 0, none⟩ a).setCell ⟨Pl, 0, none⟩ b).setCell ⟨Pl, 1, none⟩ c).setCell ⟨Fb, 0, none⟩ e) ∧
  Kept (fun k => ¬ O k) W ((((W.setCell ⟨L, 0, none⟩ a).setCell ⟨Pl, 0, none⟩ b).setCell ⟨Pl, 1, none⟩ c).setCell ⟨Fb, 0, none⟩ e) := by
 have hlp := h.list.ne h.pl (by decide)
 have hlf := h.list.ne h.fb (by decide)
 have hpf := h.pl.ne h.fb (by decide)
 have hrl := h.res.ne h.list (by decide)
 have hrf := h.res.ne h.fb (by decide)
 have hrp := h.rp
 have hl := h.lw; have hp := h.pw; have hf := h.fw
 refine ⟨?_, ?_, ?_, ?_, ?_, ?_⟩
 ·exact (((h.list.put 0 a).far hlp b).far hlp c).far hlf e
 ·exact (((h.res.far hrl a).far hrp b).far hrp c).far hrf e
 ·exact (((h.pl.far (fun e => hlp e.symm) a).put 0 b).put 1 c).far hpf e
 ·exact (((h.fb.far (fun e => hlf e.symm) a).far (fun e => hpf e.symm) b).far (fun e => hpf e.symm) c).put 0 e
 ·refine (((h.kept.setCell (fun hh => ?_) a).setCell (fun hh => ?_) b).setCell (fun hh => ?_) c).setCell (fun hh => ?_) e
  all_goals dsimp only at hh; omega
 ·exact ((((Kept.refl _ _).setCell (fun _ => h.nl) a).setCell (fun _ => h.np) b).setCell (fun _ => h.np) c).setCell (fun _ => h.nf) e
theorem fin_put {w W : World} {R D : Nat} (hres : Cells W R 25 zero2) (hdf : W.heap[D]? = some (.deferred (some []))) (hk : Kept noX w W) (hRw : w.heap.size ≤ R) (hDw : w.heap.size ≤ D) (a b : Value) :
  ((W.setCell ⟨R, 0, none⟩ a).setCell ⟨R, 1, none⟩ b).drew.heap[D]? = some (.deferred (some [])) ∧
  Cells (((W.setCell ⟨R, 0, none⟩ a).setCell ⟨R, 1, none⟩ b).drew.putObj D (.deferred none)) R 25 [a, b] ∧
  Kept noX w (((W.setCell ⟨R, 0, none⟩ a).setCell ⟨R, 1, none⟩ b).drew.putObj D (.deferred none)) ∧
  Kept (fun k => k = R ∨ k = D) W (((W.setCell ⟨R, 0, none⟩ a).setCell ⟨R, 1, none⟩ b).drew.putObj D (.deferred none)) := by
 have hRD : R ≠ D := by
  rintro rfl
  unfold Cells at hres
  rw [hdf] at hres
  cases hres
 have k1 : Kept (· = R) W ((W.setCell ⟨R, 0, none⟩ a).setCell ⟨R, 1, none⟩ b).drew := (((Kept.refl _ _).setCell (fun _ => by rfl) a).setCell (fun _ => by rfl) b).drew
 have k2 : Kept (fun k => k = R ∨ k = D) W (((W.setCell ⟨R, 0, none⟩ a).setCell ⟨R, 1, none⟩ b).drew.putObj D (.deferred none)) := (k1.mono (fun k _ h => .inl h)).putObj (fun _ => .inr rfl) _
 refine ⟨k1.heap hdf (fun h => hRD h.symm), ?_, hk.join k2 (fun i hi hlt => by rcases hi with rfl | rfl <;> omega), k2⟩
 have h1 : Cells ((W.setCell ⟨R, 0, none⟩ a).setCell ⟨R, 1, none⟩ b).drew R 25 [a, b] := (hres.put 0 a).put 1 b
 exact h1.kept (X := (· = D)) ((Kept.refl _ _).putObj (fun _ => by rfl) _) hRD
theorem own_ne_obj {w : World} {base : Nat} {e : TypeId} {size : Nat} {v : Value} {n D : Nat} {xs : List Value} {ds : Option (List Deferred)} (h : w.ownsRow base e size v n xs) (hd : w.heap[D]? = some (.deferred ds)) : v.ownBlock ≠ some D := by
 rcases h.2 with ⟨rfl, _⟩ | ⟨g', cap, cur, rfl, hb, hgg, rest⟩
 ·simp [Value.ownBlock]
 ·intro he
  have : g' = D := by simpa [Value.ownBlock] using he
  subst this
  rw [hgg] at hd
  cases hd
theorem results11_of {W : World} {R : Nat} {tmps : Array Value} {c0 c1 v e : Value} (h : Cells W R 25 [c0, c1]) (h2 : tmps.getD 2 undef = v) (h3 : tmps.getD 3 undef = .pointer (some ⟨R, 0, none⟩)) (h4 : tmps.getD 4 undef = e) :
  (results Tryz.f34 tmps).run Tryz.prog W = .ok (.tuple #[v, .agg #[c0, c1], e]) W := by
 have d0 := h.cell 0; have d1 := h.cell 1
 simp only [aZ, aS] at d0 d1
 rw [Array.getD_eq_getD_getElem?] at h2 h3 h4
 simp [results, Tryz.results34, go_sem, h2, h3, h4, d0, d1]
theorem info40 : (Tryz.prog.info? 92).map (fun i => (i.zero, i.size, i.bytes)) = some (some (.agg tok0.toArray), 5, 48) := by kernel_rfl
theorem lex_few (s : ByteArray) (hs : s.size ≤ 65536) (w : World) :
  CallsIn Fence.wide 0 Tryz.prog 34 #[.string s] w (LexOut s w) := by
 have hd : decide ((65536 : Int) < (s.size : Int)) = false := by simp; omega
 refine callsIn_of_wp_marks Tryz.func34 rfl trivial ?_ rfl
 simp only [Tryz.ntmps34, List.size_toArray, List.length_cons, List.length_nil, Nat.reduceAdd, Nat.reduceSub, Array.replicate_succ, Array.replicate_zero, List.push_toArray, List.append_toArray, List.nil_append, List.cons_append]
 refine wpIn_wide.2 ?_
 go_wp2_with fail
 go_step3
 go_wp2_with fail
 go_step3
 go_wp2_with fail
 refine (words_any s _).mono ?_
 rintro e W1 ⟨rfl, hW1⟩
 go_wp2_with fail
 refine (wpIn_wide (n := 0)).1 ?_
 have hsz : ((((w.alloc (.cells #[.int .i64 0, .int .i64 0] 25)).alloc (.cells #[.slice none 0 0] 69)).alloc (.cells #[.int .i64 0, .int .i64 0] 25)).alloc (.cells #[.int .i64 0] 26)).heap.size = w.heap.size + 1 + 1 + 1 + 1 := by simp
 have hT : Cells W1 (w.heap.size + 1 + 1 + 1 + 1) 9 [.string s] := by
  rw [hW1, ← hsz]; exact Cells.fresh _ 9 [.string s]
 have hR : Cells W1 w.heap.size 25 zero2 := by rw [hW1]; exact ((((Cells.fresh w 25 zero2).alloc _).alloc _).alloc _).alloc _
 have hL : Cells W1 (w.heap.size + 1) 69 [.slice none 0 0] := by
  rw [hW1]
  have := Cells.fresh (w.alloc (.cells #[.int .i64 0, .int .i64 0] 25)) 69 [.slice none 0 0]
  rw [World.size_alloc] at this
  exact ((this.alloc _).alloc _).alloc _
 have hP : Cells W1 (w.heap.size + 1 + 1) 25 zero2 := by
  rw [hW1]
  have := Cells.fresh ((w.alloc (.cells #[.int .i64 0, .int .i64 0] 25)).alloc (.cells #[.slice none 0 0] 69)) 25 zero2
  rw [World.size_alloc, World.size_alloc] at this
  exact (this.alloc _).alloc _
 have hF : Cells W1 (w.heap.size + 1 + 1 + 1) 26 [.int .i64 0] := by
  rw [hW1]
  have := Cells.fresh (((w.alloc (.cells #[.int .i64 0, .int .i64 0] 25)).alloc (.cells #[.slice none 0 0] 69)).alloc (.cells #[.int .i64 0, .int .i64 0] 25)) 26 [.int .i64 0]
  rw [World.size_alloc, World.size_alloc, World.size_alloc] at this
  exact this.alloc _
 have hkw : Kept noX w W1 := by rw [hW1]; exact (((((Kept.refl _ _).alloc _).alloc _).alloc _).alloc _).alloc _
 rw [← hW1]
 obtain ⟨R, hRe, hRw⟩ : ∃ R, R = w.heap.size ∧ w.heap.size ≤ R := ⟨_, rfl, Nat.le_refl _⟩
 rw [← hRe] at hT hR hL hP hF ⊢
 clear hW1 hsz hRe
 have hseq := words1_seq s kom (R + 1 + 1 + 1 + 1) (R + 1 + 1 + 1 + 1) (Nat.le_refl _) W1 hT
 refine wpIn_rangeO (gf := 119) (lb := #[.pointer (some ⟨R + 1 + 1 + 1 + 1, 0, none⟩)]) rfl (enters_of Tryz.func119 krf rfl) hseq (by have := hT.lt; omega) (Kept.refl _ _) (fun _ => rfl)
  (fun O pre W => ∃ v, LexI w R (R + 1) (R + 1 + 1) (R + 1 + 1 + 1) s O pre W v)
  (fun c O pre W => c = .exit 0 ∧ ∃ x, pre.getLast? = some x ∧ LexX w R (R + 1) (R + 1 + 1) (R + 1 + 1 + 1) s O x W)
  (fun O pre x a1 W => ∃ v Bx, LexI w R (R + 1) (R + 1 + 1) (R + 1 + 1 + 1) s O pre W v ∧ Cells W Bx 92 (tokV s x (wordR (s.data.toList.drop x))) ∧ ¬ O Bx ∧ R ≤ Bx ∧ (∀ k, O k → k < W.heap.size) ∧
    a1 = { tmps := #[.string s, undef, .slice none 0 0, .pointer (some ⟨R, 0, none⟩), .int .i64 0, .pointer (some ⟨R + 1, 0, none⟩), .pointer (some ⟨R + 1 + 1, 0, none⟩), .pointer (some ⟨R + 1 + 1 + 1, 0, none⟩),
      .pointer (some ⟨Bx, 0, none⟩), .int .i64 (errW s.data.toList x), .string s, .int .i64 s.size, .bool false, undef, .string s, .func (.func 119) #[] #[.pointer (some ⟨R + 1 + 1 + 1 + 1, 0, none⟩)],
      .agg (tokV s x (wordR (s.data.toList.drop x))).toArray, .int .i64 (errW s.data.toList x), undef, undef, undef, undef, undef, undef, undef, undef, undef, undef, undef, undef, undef], defers := [] })
  ?hI ?hIe ?hIx ?hAx ?h0 ?hassign ?hbody ?hdone ?hstop
 case hI => rintro O pre W1 W2 hO ⟨v, h⟩ hk; exact ⟨v, h.stab (fun k hk => by have := hO k hk; omega) hk⟩
 case hIe => rintro O O' pre W1 ⟨v, h⟩ hO; exact ⟨v, h.ext hO⟩
 case hIx => rintro c O pre W1 W2 hO ⟨hc, x, hx, h⟩ hk; exact ⟨hc, x, hx, h.stab (fun k hk => by have := hO k hk; omega) hk⟩
 case hAx => rintro O pre x a1 W1 W2 hO ⟨v, Bx, h, hb, hn, hBx, hs, ha⟩ hk; exact ⟨v, Bx, h.stab (fun k hk => by have := hO k hk; omega) hk, hb.kept hk hn, hn, hBx, fun k ho => Nat.lt_of_lt_of_le (hs k ho) hk.size, ha⟩
 case h0 =>
  refine ⟨_, hL, World.ownsRow_nil _ _ _ _, hR, hP, hF, fun g hg => by simp [Value.ownBlock] at hg, ?_, ?_, ?_, ?_, by omega, by omega, by omega, by omega, hkw⟩
  ·intro h; omega
  ·intro h; omega
  ·intro h; omega
  ·intro h; omega
 case hassign =>
  rintro l O pre x W hO hOs hmay ⟨v, h⟩
  have htok : ∀ k, tokV s x k = [.int .i64 k.1, .string (s.extract x (x + k.2.1)), .int .i64 k.2.2.1, .int .i64 ((plOf s.data.toList x).1 : Nat), .int .i64 ((plOf s.data.toList x).2 : Nat)] := fun _ => rfl
  have hW : R ≤ W.heap.size := Nat.le_of_lt h.res.lt
  simp only [encW, htok]
  generalize wordR (s.data.toList.drop x) = r
  generalize errW s.data.toList x = er
  generalize s.extract x (x + r.2.1) = tx
  gi_wp2
  refine ⟨(Kept.refl _ _).alloc _, v, W.heap.size, h.stab (fun k hk => by have := hO k hk; omega) ((Kept.refl _ _).alloc _), Cells.fresh W 92 _, fun ho => by have := hOs _ ho; omega, hW, fun k ho => by have := hOs k ho; simp; omega, rfl⟩
 case hbody =>
  rintro l O pre x a1 W hO hmay ⟨v, Bx, h, hb, hn, hBx, hOs, rfl⟩
  obtain ⟨n, hpre, hx, hlt, hgood⟩ := hmay
  have hplen : pre.length = n := by rw [hpre]; simp
  have hnlt : n < 65536 := by
   have := posW_ge hgood
   have h2 : s.data.toList.length = s.size := by simp
   omega
  have htok : ∀ k, tokV s x k = [.int .i64 k.1, .string (s.extract x (x + k.2.1)), .int .i64 k.2.2.1, .int .i64 ((plOf s.data.toList x).1 : Nat), .int .i64 ((plOf s.data.toList x).2 : Nat)] := fun _ => rfl
  have hsn := toks_snoc s pre x
  simp only [htok] at hb hsn ⊢
  have HER : Hid (errW s.data.toList x = errW s.data.toList x) := aP rfl
  generalize hr : wordR (s.data.toList.drop x) = r at hb hsn ⊢
  generalize htx : s.extract x (x + r.2.1) = tx at hb hsn ⊢
  have HSN := aP hsn
  clear hr htx hsn
  have b0 := hb.cell 0; have b1 := hb.cell 1; have b2 := hb.cell 2; have b3 := hb.cell 3; have b4 := hb.cell 4
  have l0 := h.list.cell 0
  have lf := h.list.free 0
  simp only [aZ, aS] at b0 b1 b2 b3 b4 l0
  obtain ⟨i0, hi0, hz0, hz1, hz2⟩ := info_parts info40
  by_cases he : errW s.data.toList x = 0
  ·have HE := aP he
   have te : (errW s.data.toList x == 0) = true := by rw [he] <;> rfl
   clear he
   have hpl2 : pre.length ≤ 65536 := by omega
   have HPL := aP hplen
   have HPR := aP hpre
   clear hplen hpre hx
   have hoa := h.own.alloc (.cells [.int .i64 r.1, .string tx, .int .i64 r.2.2.1, .int .i64 ((plOf s.data.toList x).1 : Nat), .int .i64 ((plOf s.data.toList x).2 : Nat)].toArray 92)
   have hla := h.list.alloc (.cells [.int .i64 r.1, .string tx, .int .i64 r.2.2.1, .int .i64 ((plOf s.data.toList x).1 : Nat), .int .i64 ((plOf s.data.toList x).2 : Nat)].toArray 92)
   have hnew := cells_new W 92 [.int .i64 r.1, .string tx, .int .i64 r.2.2.1, .int .i64 ((plOf s.data.toList x).1 : Nat), .int .i64 ((plOf s.data.toList x).2 : Nat)]
   have hone := tok_one r.1 r.2.2.1 ((plOf s.data.toList x).1 : Nat) ((plOf s.data.toList x).2 : Nat) tx
   have HOA := aP hoa
   have HLA := aP hla
   have HNEW := aP hnew
   have HONE := aP hone
   clear hoa hla hnew hone
   gi_wp2_with (gi_at_builtin; refine wpListIn_append_at _ rfl _ _ 69 rfl 0 92 i0 (.agg tok0.toArray) 5 48 Tryz.underlying69 hi0 hz0 hz1 hz2 rfl (by decide) _ _ _ rfl HOA.out ⟨W.heap.size, 0, none⟩ 1 1 [.int .i64 r.1, .string tx, .int .i64 r.2.2.1, .int .i64 ((plOf s.data.toList x).1 : Nat), .int .i64 ((plOf s.data.toList x).2 : Nat)] rfl rfl HNEW.out HONE.out (by simp only [maxLen]; omega) kom (Nat.zero_le _) ?_; intro v2 W2 hown2 hg2 hat2; obtain ⟨g2, cap2, rfl⟩ := ownsRow_succ hown2; have hL2 := HLA.out.kept (Kept.refl _ _ |>.grown hg2 (fun k hk _ => hk)) (own_ne HOA.out HLA.out (by decide)); have l2 := hL2.cell 0; have f2 := hL2.free 0; simp only [aZ] at l2)
   have hown3 : W2.ownsRow 0 92 5 (.slice (some ⟨g2, 0, none⟩) (pre.length + 1) cap2) (pre.length + 1) (toks s (pre ++ [x])) := by rw [HSN.out]; exact hown2
   obtain ⟨hn1, hn2⟩ := h.next hOs hg2 hown3 hat2
   exact ⟨HE.out, hn2, _, hn1⟩
  ·have HE := aP he
   have te : (errW s.data.toList x == 0) = false := by simpa using he
   have HX := aP hx
   have p0 := h.pl.cell 0; have p1 := h.pl.cell 1; have e0 := h.fb.cell 0
   have q0 := h.pl.free 0; have q1 := h.pl.free 1; have e1 := h.fb.free 0
   simp only [zero2, aZ, aS] at p0 p1 e0
   clear he hplen hpre hx
   have nb1 := hb.ne h.list (by decide)
   have nb2 := hb.ne h.pl (by decide)
   have nb3 := hb.ne h.fb (by decide)
   have hmix : Tryz.prog.follows .mixedOrders = true := by kernel_rfl
   gi_wp2_with fail
   gi_region_with_o (fail)
   all_goals
    gi_wp2
    obtain ⟨y1, y2, y3, y4, y5, y6⟩ := h.puts (.slice none 0 0) (.int .i64 ((plOf s.data.toList x).1 : Nat)) (.int .i64 ((plOf s.data.toList x).2 : Nat)) (.int .i64 (errW s.data.toList x))
    have hX := LexX.mk (s := s) (x := x) y1.drew y2.drew y3.drew y4.drew h.nr h.nl h.np h.nf HE.out y5.drew
    have hLast : (pre ++ [x]).getLast? = some x := by simp
    have hK := y6.drew
    clear y1 y2 y3 y4 y5 y6
    exact ⟨hK, rfl, x, hLast, hX⟩
 case hdone =>
  rintro D xs O W hD hO hOD ⟨n, hxs, hend, hgood⟩ ⟨v, h⟩ hdf
  have l0 := h.list.cell 0
  have p0 := h.pl.cell 0; have p1 := h.pl.cell 1; have e0 := h.fb.cell 0
  have r0 := h.res.cell 0; have r1 := h.res.cell 1
  have q0 := h.res.free 0; have q1 := h.res.free 1
  simp only [zero2, aZ, aS] at l0 p0 p1 e0 r0 r1
  have HXS := aP hxs
  have HEND := aP hend
  clear hxs hend
  go_wp2
  go_region
  go_wp2
  rw [Exit.noGoto_ret]
  obtain ⟨k0, k1, k2, k3⟩ := fin_put h.res hdf h.kept hRw (by have := hkw.size; omega) (.int .i64 0) (.int .i64 0)
  refine ⟨by simp, .inl ⟨_, _, rfl, run_takeDeferred k0, ?_⟩⟩
  refine ⟨_, results11_of k1 rfl rfl rfl, .inl ⟨n, v, hgood, HEND.out, rfl, ?_, fun g hg => (h.nown g hg).2, k2⟩⟩
  have ho := own_kept h.own k3 (fun g hg e => by
    rcases e with rfl | rfl
    · exact own_ne h.own h.res (by decide) hg
    · exact own_ne_obj h.own hdf hg)
  rw [HXS.out, List.length_map, List.length_range] at ho
  exact ho
 case hstop =>
  rintro D c pre O W hD hO hOD ⟨n, hpre, hend, hgood⟩ ⟨rfl, x, hx, h⟩ hdf
  have l0 := h.list.cell 0
  have p0 := h.pl.cell 0; have p1 := h.pl.cell 1; have e0 := h.fb.cell 0
  have r0 := h.res.cell 0; have r1 := h.res.cell 1
  have q0 := h.res.free 0; have q1 := h.res.free 1
  simp only [zero2, aZ, aS] at l0 p0 p1 e0 r0 r1
  have hxn : x = posW s.data.toList n := by
   rw [hpre, List.range_succ, List.map_append, List.map_cons, List.map_nil, List.getLast?_concat] at hx
   exact (Option.some.inj hx).symm
  have HXN := aP hxn
  have HEND := aP hend
  clear hxn hend hpre hx
  refine wpIn_wide.2 ?_
  go_wp2
  go_region
  go_wp2
  rw [Exit.noGoto_ret]
  obtain ⟨k0, k1, k2, k3⟩ := fin_put h.res hdf h.kept hRw (by have := hkw.size; omega) (.int .i64 ((plOf s.data.toList x).1 : Nat)) (.int .i64 ((plOf s.data.toList x).2 : Nat))
  refine ⟨by simp, .inl ⟨_, _, rfl, run_takeDeferred k0, ?_⟩⟩
  refine ⟨_, results11_of k1 rfl rfl rfl, .inr ⟨n, hgood, HEND.out, by rw [← HXN.out]; exact h.bad, ?_, k2⟩⟩
  rw [← HXN.out]
  rfl
theorem lex_calls (s : ByteArray) (hs : s.size ≤ 65536) (w : World) : Calls Tryz.prog 34 #[.string s] w (LexOut s w) := callsIn_wide.1 (lex_few s hs w)
end Go.Proofs.YtjkgepppoopheaaGreatDoor
namespace Go.Proofs.YtjkgepppoopheaaGreatDoor
open Go.RowKit Go.Shelf
def tokD (s : ByteArray) (i : Nat) : TokD :=
 ⟨(wordR (s.data.toList.drop i)).1, s.extract i (i + (wordR (s.data.toList.drop i)).2.1), (wordR (s.data.toList.drop i)).2.2.1, ((plOf s.data.toList i).1 : Nat), ((plOf s.data.toList i).2 : Nat)⟩
theorem toks_at (s : ByteArray) (f : Nat → Nat) : ∀ (n k j : Nat), k < n → j < 5 → (toks s ((List.range n).map f))[k * 5 + j]? = (tokD s (f k)).cells[j]? := by
 intro n
 induction n with
 | zero => intro k j hk; omega
 | succ n ih =>
  intro k j hk hj
  rw [List.range_succ, List.map_append, List.map_cons, List.map_nil, toks_snoc]
  have hlen : ∀ m, (toks s ((List.range m).map f)).length = m * 5 := by
   intro m
   induction m with
   | zero => rfl
   | succ m ihm =>
    rw [List.range_succ, List.map_append, List.map_cons, List.map_nil, toks_snoc, List.length_append, ihm]
    simp [tokV]; omega
  by_cases hkn : k < n
  ·rw [List.getElem?_append_left (by rw [hlen]; omega)]
   exact ih k j hkn hj
  ·obtain rfl : k = n := by omega
   rw [List.getElem?_append_right (by rw [hlen]; omega), hlen, Nat.add_sub_cancel_left]
   rfl
theorem all_unique {s : List UInt8} {n m : Nat} (h : goodW s n) (he : posW s n = s.length) (h' : goodW s m) (he' : posW s m = s.length) : n = m := by
 rcases Nat.lt_trichotomy n m with hlt | heq | hgt
 ·have := (h' n hlt).1; omega
 ·exact heq
 ·have := (h m hgt).1; omega
theorem bad_unique {s : List UInt8} {n m : Nat} (h : goodW s n) (he : errW s (posW s n) ≠ 0) (h' : goodW s m) (he' : errW s (posW s m) ≠ 0) : n = m := by
 rcases Nat.lt_trichotomy n m with hlt | heq | hgt
 ·exact absurd (h' n hlt).2 he
 ·exact heq
 ·exact absurd (h m hgt).2 he'
theorem not_both {s : List UInt8} {n m : Nat} (h : goodW s n) (he : posW s n = s.length) (h' : goodW s m) (hlt' : posW s m < s.length) (he' : errW s (posW s m) ≠ 0) : False := by
 rcases Nat.lt_trichotomy n m with hlt | heq | hgt
 ·have := (h' n hlt).1; omega
 ·subst heq; omega
 ·exact absurd (h m hgt).2 he'
theorem LexOut.all {s : ByteArray} {w W' : World} {e : Ending} (h : LexOut s w e W') {n : Nat} (hg : goodW s.data.toList n) (he : posW s.data.toList n = s.data.toList.length) :
  ∃ v, e = .returned (.tuple #[v, .agg #[.int .i64 0, .int .i64 0], .int .i64 0]) ∧ TokRow W' v n (fun k => tokD s (posW s.data.toList k)) ∧ (∀ g, v.ownBlock = some g → w.heap.size ≤ g) ∧ Kept noX w W' := by
 rcases h with ⟨m, v, hgm, hem, he1, ho, hb, hk⟩ | ⟨m, hgm, hlt, hbad, he1, hk⟩
 ·obtain rfl := all_unique hgm hem hg he
  exact ⟨v, he1, ⟨_, ho, fun k hk j hj => toks_at s _ _ k j hk hj⟩, hb, hk⟩
 ·exact (not_both hg he hgm hlt hbad).elim
theorem LexOut.bad {s : ByteArray} {w W' : World} {e : Ending} (h : LexOut s w e W') {n : Nat} (hg : goodW s.data.toList n) (hl : posW s.data.toList n < s.data.toList.length) (he : errW s.data.toList (posW s.data.toList n) ≠ 0) :
  e = .returned (.tuple #[.slice none 0 0, .agg #[.int .i64 ((plOf s.data.toList (posW s.data.toList n)).1 : Nat), .int .i64 ((plOf s.data.toList (posW s.data.toList n)).2 : Nat)], .int .i64 (errW s.data.toList (posW s.data.toList n))]) ∧ Kept noX w W' := by
 rcases h with ⟨m, v, hgm, hem, he1, ho, hb, hk⟩ | ⟨m, hgm, hlt, hbad, he1, hk⟩
 ·exact (not_both hgm hem hg hl he).elim
 ·obtain rfl := bad_unique hgm hbad hg he
  exact ⟨he1, hk⟩
end Go.Proofs.YtjkgepppoopheaaGreatDoor
