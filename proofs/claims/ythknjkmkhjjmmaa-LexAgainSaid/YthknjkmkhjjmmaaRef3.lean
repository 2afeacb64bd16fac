/- What the document's Lex answers: the same as lex.Lex (conditions: the text is of at most 65536 bytes; of a longer one: of at most 1000000). -/
import Derived.Test.YthknjkmkhjjmmaaRef2
namespace Go.Proofs.Ythknjkmkhjjmmaa
open Go.RowKit Go.Shelf

def skT (l : List UInt8) : Nat := runS (fun r b => remB r (b.toNat : Nat)) (fun r b => remB r (b.toNat : Nat) || blkB (b.toNat : Nat)) true l
theorem skN_cons (b : UInt8) (l : List UInt8) : skN (b :: l) = if (remB false (b.toNat : Nat) || blkB (b.toNat : Nat)) = true then (if remB false (b.toNat : Nat) = true then skT l else skN l) + 1 else 0 := by
  unfold skN skT
  conv => lhs; unfold runS
  cases h : remB false (b.toNat : Nat) <;> simp
theorem skT_cons (b : UInt8) (l : List UInt8) : skT (b :: l) = if (remB true (b.toNat : Nat) || blkB (b.toNat : Nat)) = true then (if remB true (b.toNat : Nat) = true then skT l else skN l) + 1 else 0 := by
  unfold skN skT
  conv => lhs; unfold runS
  cases h : remB true (b.toNat : Nat) <;> simp
theorem sk_blank {b : UInt8} {l : List UInt8} (h : blkB (b.toNat : Nat) = true) (h35 : (b.toNat : Int) ≠ 35) : skN (b :: l) = skN l + 1 := by
  rw [skN_cons]
  simp [remB, h, h35]
theorem sk_hash {b : UInt8} {l : List UInt8} (h35 : (b.toNat : Int) = 35) : skN (b :: l) = skT (b :: l) := by
  rw [skN_cons, skT_cons]
  simp [remB, h35]
theorem skT_other {b : UInt8} {l : List UInt8} (h10 : (b.toNat : Int) ≠ 10) : skT (b :: l) = skT l + 1 := by
  rw [skT_cons]
  simp [remB, h10]
theorem skT_nl {b : UInt8} {l : List UInt8} (h10 : (b.toNat : Int) = 10) : skT (b :: l) = skN (b :: l) := by
  rw [skN_cons, skT_cons]
  simp [remB, h10, blkB]
theorem sk_word {b : UInt8} {l : List UInt8} (h35 : (b.toNat : Int) ≠ 35) (hb : blkB (b.toNat : Nat) = false) : skN (b :: l) = 0 := by
  rw [skN_cons]
  simp [remB, h35, hb]
theorem drop_cons {s : ByteArray} {k : Nat} (hk : k < s.size) : s.data.toList.drop k = s[k] :: s.data.toList.drop (k + 1) := by
  rw [List.drop_eq_getElem_cons (by simpa using hk)]
  rfl

theorem plOf_run {s : List UInt8} {k : Nat} : ∀ m, (∀ j, j < m → s[k + j]? ≠ some 10) → plOf s (k + m) = ((plOf s k).1, (plOf s k).2 + m) := by
  intro m
  induction m with
  | zero => intro _; rfl
  | succ m ih =>
    intro h
    have h1 := ih (fun j hj => h j (by omega))
    rw [show k + (m + 1) = (k + m) + 1 from by omega]
    conv => lhs; unfold plOf
    rw [if_neg (h m (by omega)), h1]
    rfl
theorem runQ_in {q : Int → Bool} {l : List UInt8} {j : Nat} {b : UInt8} (hj : j < runQ q l) (hb : l[j]? = some b) : q (b.toNat : Nat) = true :=
  runS_yes (σ := Unit) (fun _ _ => ()) (fun _ b => q (b.toNat : Nat)) l () j b hj hb
theorem sgN_in {l : List UInt8} {j : Nat} {b : UInt8} (hj : j < sgN l) (hb : l[j]? = some b) : b ≠ 10 := by
  have hs : ∀ t ∈ sgL, ∀ x ∈ t, x ≠ 10 := by decide
  unfold sgN at hj
  split at hj
  · rename_i h
    refine hs _ h.2 b (List.mem_of_getElem? (i := j) ?_)
    rw [List.getElem?_take, if_pos hj]; exact hb
  · split at hj
    · rename_i h
      refine hs _ h.2 b (List.mem_of_getElem? (i := j) ?_)
      rw [List.getElem?_take, if_pos hj]; exact hb
    · omega
theorem word_no10 {l : List UInt8} {j : Nat} (hj : j < (wordR l).2.1) : l[j]? ≠ some 10 := by
  intro hb
  cases l with
  | nil => simp at hb
  | cons a l =>
    have haln : ∀ h : j < runQ alnB (a :: l), False := fun h => by
      have := runQ_in h hb
      revert this
      decide
    unfold wordR at hj
    dsimp only at hj
    split at hj
    · exact haln hj
    · split at hj
      · exact haln hj
      · exact sgN_in hj hb rfl
theorem pl_word (s : ByteArray) (k : Nat) : plOf s.data.toList (k + (wordR (s.data.toList.drop k)).2.1) = ((plOf s.data.toList k).1, (plOf s.data.toList k).2 + (wordR (s.data.toList.drop k)).2.1) := by
  refine plOf_run _ (fun j hj h => ?_)
  refine word_no10 hj ?_
  rw [List.getElem?_drop]
  exact h
theorem pl_step {s : ByteArray} {k : Nat} (hk : k < s.size) (h10 : (s[k].toNat : Int) ≠ 10) : plOf s.data.toList (k + 1) = ((plOf s.data.toList k).1, (plOf s.data.toList k).2 + 1) := by
  conv => lhs; unfold plOf
  rw [byte_at hk, if_neg]
  intro h
  apply h10
  rw [Option.some.inj h]
  rfl
theorem pl_nl {s : ByteArray} {k : Nat} (hk : k < s.size) (h10 : (s[k].toNat : Int) = 10) : plOf s.data.toList (k + 1) = ((plOf s.data.toList k).1 + 1, 1) := by
  conv => lhs; unfold plOf
  rw [byte_at hk, if_pos]
  congr 1
  apply UInt8.toNat_inj.1
  show _ = 10
  omega

theorem oneV_bad2 {s : ByteArray} {i n : Nat} {a c e : Int} (h : wordR (s.data.toList.drop i) = (a, n, c, e)) (he : e ≠ 0) :
    oneV s i = .tuple #[.agg #[.int .i64 0, .string ⟨#[]⟩, .int .i64 0, .int .i64 0, .int .i64 0], .int .i64 0, .int .i64 e] := oneV_bad h he

/-- At the head of a round: n words have come, byte k is next. -/
structure RI (f : List UInt8 → Nat) (w : World) (s : ByteArray) (k n : Nat) (v : Value) (W : World) : Prop where
  res : Cells W w.heap.size 25 zero2
  pl : Cells W (w.heap.size + 1) 25 [.int .i64 ((plOf s.data.toList k).1 : Nat), .int .i64 ((plOf s.data.toList k).2 : Nat)]
  own : W.ownsRow 0 40 5 v n (toks s ((List.range n).map (posW s.data.toList)))
  new : ∀ g, v.ownBlock = some g → w.heap.size ≤ g
  good : goodW s.data.toList n
  le : k ≤ s.size
  at_ : k + f (s.data.toList.drop k) = posW s.data.toList n
  kept : Kept noX w W

theorem RI.put {f : List UInt8 → Nat} {w : World} {s : ByteArray} {k n : Nat} {v : Value} {W : World} (h : RI f w s k n v W) (j : Nat) (u : Value) :
    Cells (W.setCell ⟨w.heap.size + 1, j, none⟩ u) w.heap.size 25 zero2 ∧ (W.setCell ⟨w.heap.size + 1, j, none⟩ u).ownsRow 0 40 5 v n (toks s ((List.range n).map (posW s.data.toList))) ∧ Kept noX w (W.setCell ⟨w.heap.size + 1, j, none⟩ u) := by
  have hk : Kept (· = w.heap.size + 1) W (W.setCell ⟨w.heap.size + 1, j, none⟩ u) := (Kept.refl _ _).setCell (fun _ => by rfl) _
  refine ⟨h.res.far (by dsimp only; omega) u, own_kept h.own hk (fun g hg e => own_ne h.own h.pl (by decide) (e ▸ hg)), h.kept.setCell (fun hh => ?_) u⟩
  dsimp only at hh
  omega
theorem RI.same {f : List UInt8 → Nat} {w : World} {s : ByteArray} {k n : Nat} {v : Value} {W W' : World} (h : RI f w s k n v W) (hk : Kept noX W W') : RI f w s k n v W' :=
  ⟨h.res.kept hk (fun h => h), h.pl.kept hk (fun h => h), own_kept h.own hk (fun _ _ h => h), h.new, h.good, h.le, h.at_, h.kept.trans hk⟩
theorem own_base {w : World} {e : TypeId} {size b : Nat} {v : Value} {n : Nat} {xs : List Value} (h : w.ownsRow 0 e size v n xs) (hb : ∀ g, v.ownBlock = some g → b ≤ g) : w.ownsRow b e size v n xs := by
  refine ⟨h.1, ?_⟩
  rcases h.2 with hn | ⟨g, cap, cur, rfl, _, hgg, rest⟩
  · exact .inl hn
  · exact .inr ⟨g, cap, cur, rfl, hb g rfl, hgg, rest⟩
theorem own_zero {w : World} {e : TypeId} {size b : Nat} {v : Value} {n : Nat} {xs : List Value} (h : w.ownsRow b e size v n xs) : w.ownsRow 0 e size v n xs ∧ ∀ g, v.ownBlock = some g → b ≤ g := by
  refine ⟨⟨h.1, ?_⟩, fun g hg => (h.lt g hg).1⟩
  rcases h.2 with hn | ⟨g, cap, cur, rfl, _, hgg, rest⟩
  · exact .inl hn
  · exact .inr ⟨g, cap, cur, rfl, Nat.zero_le _, hgg, rest⟩
theorem cells_new2 (W : World) (o : Obj) (e : TypeId) (cs : List Value) : ∀ j u, cs[j]? = some u → ((W.alloc o).alloc (.cells cs.toArray e)).cell? ((⟨W.heap.size + 1, 0, none⟩ : Addr).add j) = some u := by
  have := cells_new (W.alloc o) e cs
  rwa [World.size_alloc] at this
theorem RI.grow {f : List UInt8 → Nat} {w : World} {s : ByteArray} {k n : Nat} {v : Value} {W W' : World} (h : RI f w s k n v W) (o o' : Obj) (hg : ((W.alloc o).alloc o').grownBy W' v.ownBlock) :
    Cells W' (w.heap.size + 1) 25 [.int .i64 ((plOf s.data.toList k).1 : Nat), .int .i64 ((plOf s.data.toList k).2 : Nat)] := by
  have hk : Kept (fun g => v.ownBlock = some g) W W' := (((Kept.refl _ _).alloc _).alloc _).grown hg (fun k e _ => e)
  exact h.pl.kept hk (own_ne h.own h.pl (by decide))
theorem RI.word {w : World} {s : ByteArray} {k n m : Nat} {v v3 : Value} {W W3 : World} (h : RI skN w s k n v W) (o o' : Obj) (hg : ((W.alloc o).alloc o').grownBy W3 v.ownBlock)
    (hown : W3.ownsRow w.heap.size 40 5 v3 (n + 1) (toks s ((List.range (n + 1)).map (posW s.data.toList)))) (hp : plOf s.data.toList (k + m) = ((plOf s.data.toList k).1, (plOf s.data.toList k).2 + m)) (hle : k + m ≤ s.size)
    (hgood : goodW s.data.toList (n + 1)) (ha : k + m + skN (s.data.toList.drop (k + m)) = posW s.data.toList (n + 1)) :
    RI skN w s (k + m) (n + 1) v3 (W3.setCell ⟨w.heap.size + 1, 1, none⟩ (.int .i64 (((plOf s.data.toList k).2 : Nat) + (m : Nat)))) := by
  have hk : Kept (fun g => v.ownBlock = some g) W W3 := (((Kept.refl _ _).alloc _).alloc _).grown hg (fun k e _ => e)
  have hpl := h.grow o o' hg
  have hk2 : Kept (· = w.heap.size + 1) W3 (W3.setCell ⟨w.heap.size + 1, 1, none⟩ (.int .i64 (((plOf s.data.toList k).2 : Nat) + (m : Nat)))) := (Kept.refl _ _).setCell (fun _ => by rfl) _
  obtain ⟨ho, hb⟩ := own_zero hown
  refine ⟨(h.res.kept hk (own_ne h.own h.res (by decide))).kept hk2 (by omega), ?_, own_kept ho hk2 (fun g hg e => own_ne ho hpl (by decide) (e ▸ hg)), hb, hgood, hle, ha, (h.kept.join hk (fun i hi hlt => ?_)).join hk2 (fun i hi hlt => by omega)⟩
  · rw [hp]
    exact hpl.put 1 _
  · have := h.new i hi
    omega
theorem RI.col {f g : List UInt8 → Nat} {w : World} {s : ByteArray} {k n k' : Nat} {v : Value} {W : World} (h : RI f w s k n v W) (hp : plOf s.data.toList k' = ((plOf s.data.toList k).1, (plOf s.data.toList k).2 + (k' - k)))
    (hk : k ≤ k') (hle : k' ≤ s.size) (ha : k' + g (s.data.toList.drop k') = posW s.data.toList n) (c : Int) (hc : c = ((plOf s.data.toList k).2 : Nat) + ((k' : Int) - k)) : RI g w s k' n v (W.setCell ⟨w.heap.size + 1, 1, none⟩ (.int .i64 c)) := by
  obtain ⟨h1, h2, h3⟩ := h.put 1 (.int .i64 c)
  refine ⟨h1, ?_, h2, h.new, h.good, hle, ha, h3⟩
  have := h.pl.put 1 (.int .i64 c)
  rw [hp]
  have e : c = (((plOf s.data.toList k).2 + (k' - k) : Nat) : Int) := by omega
  rw [← e]
  exact this
theorem RI.line {f : List UInt8 → Nat} {w : World} {s : ByteArray} {k n : Nat} {v : Value} {W : World} (h : RI f w s k n v W) (hp : plOf s.data.toList (k + 1) = ((plOf s.data.toList k).1 + 1, 1)) (hle : k + 1 ≤ s.size)
    (ha : k + 1 + skN (s.data.toList.drop (k + 1)) = posW s.data.toList n) : RI skN w s (k + 1) n v ((W.setCell ⟨w.heap.size + 1, 0, none⟩ (.int .i64 (((plOf s.data.toList k).1 : Nat) + 1))).setCell ⟨w.heap.size + 1, 1, none⟩ (.int .i64 1)) := by
  have hk : Kept (· = w.heap.size + 1) W ((W.setCell ⟨w.heap.size + 1, 0, none⟩ (.int .i64 (((plOf s.data.toList k).1 : Nat) + 1))).setCell ⟨w.heap.size + 1, 1, none⟩ (.int .i64 1)) := ((Kept.refl _ _).setCell (fun _ => by rfl) _).setCell (fun _ => by rfl) _
  refine ⟨h.res.kept hk (by omega), ?_, own_kept h.own hk (fun g hg e => own_ne h.own h.pl (by decide) (e ▸ hg)), h.new, h.good, hle, ha, h.kept.join hk (fun i hi hlt => by omega)⟩
  have := (h.pl.put 0 (.int .i64 (((plOf s.data.toList k).1 : Nat) + 1))).put 1 (.int .i64 1)
  rw [hp]
  exact this

theorem results12_of {W : World} {R : Nat} {tmps : Array Value} {c0 c1 v e : Value} (h : Cells W R 25 [c0, c1]) (h2 : tmps.getD 2 undef = v) (h3 : tmps.getD 3 undef = .pointer (some ⟨R, 0, none⟩)) (h4 : tmps.getD 4 undef = e) :
    (results Try.f12 tmps).run Try.prog W = .ok (.tuple #[v, .agg #[c0, c1], e]) W := by
  have d0 := h.cell 0; have d1 := h.cell 1
  simp only [List.getElem?_cons_zero, List.getElem?_cons_succ] at d0 d1
  rw [Array.getD_eq_getD_getElem?] at h2 h3 h4
  simp [results, Try.results12, go_sem, h2, h3, h4, d0, d1]

set_option maxRecDepth 100000 in
set_option maxHeartbeats 1000000 in
theorem rlex_any (s : ByteArray) (hs : s.size ≤ 65536) (w : World) : Calls Try.prog 12 #[.string s] w (LexOut s w) := by
  have hd : decide ((65536 : Int) < (s.size : Int)) = false := by simp; omega
  have HL := Lib.hid (show s.data.toList.length = s.size by simp)
  go_enter Try.func12, Try.ntmps12
  go_wp2
  go_loopw [5, 7] (fun v i wr => ∃ (k n : Nat) (z : Value), z = v ∧ i = .int .i64 k ∧ RI skN w s k n z wr) (fun _ i _ => s.size - (intOf i).toNat)
  case atStart =>
    have h2 := Cells.fresh (w.alloc (.cells #[.int .i64 0, .int .i64 0] 25)) 25 [.int .i64 1, .int .i64 1]
    rw [World.size_alloc] at h2
    exact ⟨0, 0, _, rfl, rfl, (Cells.fresh w 25 zero2).alloc _, h2, World.ownsRow_nil _ _ _ _, fun g hg => by simp [Value.ownBlock] at hg, fun k hk => by omega, Nat.zero_le _, by rw [Nat.zero_add]; rfl, ((Kept.refl _ _).alloc _).alloc _⟩
  case round =>
    obtain ⟨k, n, v, rfl, rfl, h⟩ := hrel
    have p0 := h.pl.cell 0; have p1 := h.pl.cell 1; have f0 := h.pl.free 0; have f1 := h.pl.free 1
    simp only [List.getElem?_cons_zero, List.getElem?_cons_succ] at p0 p1
    have hpl := plOf_le s.data.toList k
    by_cases hlt : k < s.size
    · have hdc := drop_cons hlt
      have HDC := Lib.hid hdc
      have hat := h.at_
      rw [hdc] at hat
      have HAT := Lib.hid hat
      clear hdc hat
      by_cases h10 : (s[k].toNat : Int) = 10
      · have t10 : ((s[k].toNat : Int) == 10) = true := by simpa using h10
        have hnx := h.line (pl_nl hlt h10) hlt (by
          have := HAT.out
          rw [sk_blank (by rw [h10]; rfl) (by rw [h10]; decide)] at this
          omega)
        have HNX := Lib.hid hnx
        clear h10 hnx
        go_wp2
        go_roundw
        case rel => exact ⟨k + 1, n, _, rfl, by go_num, HNX.out⟩
        case measure => simp [intOf]; omega
      · have t10 : ((s[k].toNat : Int) == 10) = false := by simpa using h10
        by_cases hb : blkB (s[k].toNat : Nat) = true
        · have hnx : RI skN w s (k + 1) n v (wr.setCell ⟨w.heap.size + 1, 1, none⟩ (.int .i64 (((plOf s.data.toList k).2 : Nat) + 1))) := h.col (k' := k + 1) (by rw [pl_step hlt h10]; congr 1; omega) (by omega) hlt (by
            have := HAT.out
            rw [sk_blank hb (by intro h; rw [h] at hb; revert hb; decide)] at this
            omega) _ (by omega)
          have HNX := Lib.hid hnx
          have h3 : (s[k].toNat : Int) = 32 ∨ (s[k].toNat : Int) = 9 ∨ (s[k].toNat : Int) = 13 := by
            simp only [blkB, Bool.or_eq_true, beq_iff_eq] at hb
            omega
          clear h10 hnx hb
          rcases h3 with h3 | h3 | h3
          · have t32 : ((s[k].toNat : Int) == 32) = true := by simpa using h3
            clear h3
            go_wp2
            go_roundw
            case rel => exact ⟨k + 1, n, _, rfl, by go_num, HNX.out⟩
            case measure => simp [intOf]; omega
          · have t32 : ((s[k].toNat : Int) == 32) = false := by rw [h3]; rfl
            have t9 : ((s[k].toNat : Int) == 9) = true := by simpa using h3
            clear h3
            go_wp2
            go_roundw
            case rel => exact ⟨k + 1, n, _, rfl, by go_num, HNX.out⟩
            case measure => simp [intOf]; omega
          · have t32 : ((s[k].toNat : Int) == 32) = false := by rw [h3]; rfl
            have t9 : ((s[k].toNat : Int) == 9) = false := by rw [h3]; rfl
            have t13 : ((s[k].toNat : Int) == 13) = true := by simpa using h3
            clear h3
            go_wp2
            go_roundw
            case rel => exact ⟨k + 1, n, _, rfl, by go_num, HNX.out⟩
            case measure => simp [intOf]; omega
        · have t32 : ((s[k].toNat : Int) == 32) = false := by
            rw [beq_eq_false_iff_ne]; intro h3; apply hb; rw [h3]; rfl
          have t9 : ((s[k].toNat : Int) == 9) = false := by
            rw [beq_eq_false_iff_ne]; intro h3; apply hb; rw [h3]; rfl
          have t13 : ((s[k].toNat : Int) == 13) = false := by
            rw [beq_eq_false_iff_ne]; intro h3; apply hb; rw [h3]; rfl
          by_cases h35 : (s[k].toNat : Int) = 35
          · have t35 : ((s[k].toNat : Int) == 35) = true := by simpa using h35
            have hT : k + skT (s.data.toList.drop k) = posW s.data.toList n := by
              have := HAT.out
              rw [sk_hash h35, ← HDC.out] at this
              exact this
            have hR : RI skT w s k n v wr := ⟨h.res, h.pl, h.own, h.new, h.good, h.le, hT, h.kept⟩
            have H35 := Lib.hid h35
            clear h35 hb h10 hT p0 p1 f0 f1 HAT HDC h hpl
            obtain ⟨wo, hwo⟩ : ∃ wo, wo = wr := ⟨_, rfl⟩
            rw [← hwo] at hR ⊢
            clear hwo
            go_wp2
            go_loopw [7] (fun i wr2 => ∃ m : Nat, i = .int .i64 m ∧ k ≤ m ∧ RI skT w s m n v wr2) (fun i _ => s.size - (intOf i).toNat)
            case atStart => exact ⟨k, rfl, Nat.le_refl _, hR⟩
            case round =>
              obtain ⟨m, rfl, hkm, h⟩ := hrel
              clear hR
              have p0 := h.pl.cell 0; have p1 := h.pl.cell 1; have f0 := h.pl.free 0; have f1 := h.pl.free 1
              simp only [List.getElem?_cons_zero, List.getElem?_cons_succ] at p0 p1
              have hpl := plOf_le s.data.toList m
              by_cases hm : m < s.size
              · have hdc := drop_cons hm
                have hat := h.at_
                rw [hdc] at hat
                by_cases h10 : (s[m].toNat : Int) = 10
                · have u10 : ((s[m].toNat : Int) != 10) = false := by rw [h10]; rfl
                  have hR2 : RI skN w s m n v wr := ⟨h.res, h.pl, h.own, h.new, h.good, h.le, by rw [hdc, ← skT_nl h10]; exact hat, h.kept⟩
                  have hmk : k < m := by
                    by_cases hmk : m = k
                    · subst hmk
                      have := H35.out
                      omega
                    · omega
                  clear h10 hdc hat
                  go_wp2
                  go_roundw
                  case rel => exact ⟨m, n, _, rfl, rfl, hR2⟩
                  case measure => simp [intOf]; omega
                · have u10 : ((s[m].toNat : Int) != 10) = true := by rw [bne_iff_ne]; exact h10
                  have hnx : RI skT w s (m + 1) n v (wr.setCell ⟨w.heap.size + 1, 1, none⟩ (.int .i64 (((plOf s.data.toList m).2 : Nat) + 1))) := h.col (k' := m + 1) (by rw [pl_step hm h10]; congr 1; omega) (by omega) hm (by
                    rw [skT_other h10] at hat
                    omega) _ (by omega)
                  have HNX := Lib.hid hnx
                  clear h10 hdc hat hnx
                  go_wp2
                  go_roundw
                  case rel => exact ⟨m + 1, by go_num, by omega, HNX.out⟩
                  case measure => simp [intOf]; omega
              · have hmm : m = s.size := by have := h.le; omega
                have hR2 : RI skN w s m n v wr := ⟨h.res, h.pl, h.own, h.new, h.good, h.le, by
                  have := h.at_
                  rw [List.drop_eq_nil_of_le (by rw [HL.out]; omega)] at this ⊢
                  exact this, h.kept⟩
                have hmk : k < m := by omega
                clear hmm
                go_wp2
                go_roundw
                case rel => exact ⟨m, n, _, rfl, rfl, hR2⟩
                case measure => simp [intOf]; omega
          · have t35 : ((s[k].toNat : Int) == 35) = false := by simpa using h35
            have hpos : k = posW s.data.toList n := by
              have := HAT.out
              rw [sk_word h35 (by simpa using hb)] at this
              omega
            have HPOS := Lib.hid hpos
            clear h35 hb h10 hpos
            have hrle := wordR_le (s.data.toList.drop k)
            rw [List.length_drop, HL.out] at hrle
            have hplw := pl_word s k
            have hdef : posW s.data.toList (n + 1) = nextW s.data.toList k := by rw [HPOS.out]; rfl
            unfold nextW at hdef
            have herr : errW s.data.toList k = (wordR (s.data.toList.drop k)).2.2.2 := rfl
            have htk : toks s ((List.range (n + 1)).map (posW s.data.toList)) = toks s ((List.range n).map (posW s.data.toList)) ++ tokV s k (wordR (s.data.toList.drop k)) := by
              rw [List.range_succ, List.map_append, List.map_cons, List.map_nil, toks_snoc, ← HPOS.out]
            have hone := one_any s (by omega) k hlt wr
            obtain ⟨⟨a, m, c, er⟩, hr⟩ : ∃ r, r = wordR (s.data.toList.drop k) := ⟨_, rfl⟩
            rw [← hr] at hrle hplw hdef herr htk
            dsimp only at hrle hplw hdef herr
            by_cases he : er = 0
            · subst he
              rw [oneV_ok hr.symm] at hone
              have HONE := Lib.hid hone
              have HPLW := Lib.hid hplw
              have HDEF := Lib.hid hdef
              have HERR := Lib.hid herr
              have HTK := Lib.hid htk
              have hm0 : 0 < m := by
                have := wordR_pos (l := s.data.toList.drop k) (by rw [← hr])
                rw [← hr] at this
                exact this
              clear hone hplw hdef herr htk hr
              go_wp2_with fail
              refine HONE.out.mono ?_
              rintro e W2 ⟨rfl, hk2⟩
              have h2 := h.same hk2
              clear p0 p1 f0 f1 hk2 h HONE
              have ha0 : ∀ o, (W2.alloc o).cell? ⟨w.heap.size + 1, 0, none⟩ = some (.int .i64 ((plOf s.data.toList k).1 : Nat)) := fun o => by
                have := (h2.pl.alloc o).cell 0
                simpa only [List.getElem?_cons_zero] using this
              have ha1 : ∀ o, (W2.alloc o).cell? ⟨w.heap.size + 1, 1, none⟩ = some (.int .i64 ((plOf s.data.toList k).2 : Nat)) := fun o => by
                have := (h2.pl.alloc o).cell 1
                simpa only [List.getElem?_cons_zero, List.getElem?_cons_succ] using this
              obtain ⟨tx, htx⟩ : ∃ tx, tx = s.extract k (k + m) := ⟨_, rfl⟩
              rw [← htx]
              have HTX := Lib.hid htx
              clear htx
              have HOA := Lib.hid (own_base ((h2.own.alloc (.cells [.int .i64 a, .string tx, .int .i64 c, .int .i64 ((plOf s.data.toList k).1 : Nat), .int .i64 ((plOf s.data.toList k).2 : Nat)].toArray 40)).alloc (.cells [.int .i64 a, .string tx, .int .i64 c, .int .i64 ((plOf s.data.toList k).1 : Nat), .int .i64 ((plOf s.data.toList k).2 : Nat)].toArray 40)) h2.new)
              have HNEW := Lib.hid (cells_new2 W2 (.cells [.int .i64 a, .string tx, .int .i64 c, .int .i64 ((plOf s.data.toList k).1 : Nat), .int .i64 ((plOf s.data.toList k).2 : Nat)].toArray 40) 40 [.int .i64 a, .string tx, .int .i64 c, .int .i64 ((plOf s.data.toList k).1 : Nat), .int .i64 ((plOf s.data.toList k).2 : Nat)])
              have HONE := Lib.hid (tok_one a c ((plOf s.data.toList k).1 : Nat) ((plOf s.data.toList k).2 : Nat) tx)
              have hn64 : n ≤ 65536 := by
                have h1 := posW_ge h2.good
                have h3 := posW_le s.data.toList n
                rw [HL.out] at h3
                omega
              have hsw : w.heap.size ≤ ((W2.alloc (.cells [.int .i64 a, .string tx, .int .i64 c, .int .i64 ((plOf s.data.toList k).1 : Nat), .int .i64 ((plOf s.data.toList k).2 : Nat)].toArray 40)).alloc (.cells [.int .i64 a, .string tx, .int .i64 c, .int .i64 ((plOf s.data.toList k).1 : Nat), .int .i64 ((plOf s.data.toList k).2 : Nat)].toArray 40)).heap.size := by
                have := h2.kept.size; rw [World.size_alloc, World.size_alloc]; omega
              obtain ⟨i0, hi0, hz0, hz1, hz2⟩ := info_parts info40
              go_wp2_with (at_builtin; refine wpList_append_own _ rfl _ _ 23 rfl w.heap.size 40 i0 (.agg tok0.toArray) 5 48 Try.underlying23 hi0 hz0 hz1 hz2 rfl (by decide) _ _ _ rfl HOA.out ⟨W2.heap.size + 1, 0, none⟩ 1 1 [.int .i64 a, .string tx, .int .i64 c, .int .i64 ((plOf s.data.toList k).1 : Nat), .int .i64 ((plOf s.data.toList k).2 : Nat)] rfl rfl HNEW.out HONE.out (by simp only [maxLen]; omega) (by omega) hsw ?_; intro v2 W3 hown3 hg3 _; obtain ⟨g3, cap3, rfl⟩ := ownsRow_succ hown3; have hP3 := (h2.grow _ _ hg3); have l0 := hP3.cell 0; have l1 := hP3.cell 1; have e0 := hP3.free 0; have e1 := hP3.free 1; simp only [List.getElem?_cons_zero, List.getElem?_cons_succ] at l0 l1)
              have hown4 : W3.ownsRow w.heap.size 40 5 (.slice (some ⟨g3, 0, none⟩) (n + 1) cap3) (n + 1) (toks s ((List.range (n + 1)).map (posW s.data.toList))) := by
                rw [HTK.out]
                unfold tokV
                dsimp only
                rw [← HTX.out]
                exact hown3
              refine ⟨⟨k + m, n + 1, _, rfl, by go_num, h2.word _ _ hg3 hown4 HPLW.out (by omega) ?_ ?_⟩, by simp [intOf]; omega⟩
              · intro j hj
                by_cases hjn : j < n
                · exact h2.good j hjn
                · obtain rfl : j = n := by omega
                  rw [← HPOS.out, HL.out]
                  exact ⟨hlt, HERR.out⟩
              · exact HDEF.out.symm
            · rw [oneV_bad2 hr.symm he] at hone
              have HONE := Lib.hid hone
              have HERR := Lib.hid herr
              have te : (er != 0) = true := by rw [bne_iff_ne]; exact he
              have HE := Lib.hid he
              clear hone hplw hdef herr htk hr he
              go_wp2_with fail
              refine HONE.out.mono ?_
              rintro e W2 ⟨rfl, hk2⟩
              have h2 := h.same hk2
              clear p0 p1 f0 f1 hk2 h HONE
              have h3 := h2.same ((Kept.refl noX W2).alloc (.cells #[.int .i64 0, .string ⟨#[]⟩, .int .i64 0, .int .i64 0, .int .i64 0] 40))
              go_wp2_with fail
              clear h2
              generalize W2.alloc (.cells #[.int .i64 0, .string ⟨#[]⟩, .int .i64 0, .int .i64 0, .int .i64 0] 40) = W3 at h3 ⊢
              have r0 := h3.res.cell 0; have r1 := h3.res.cell 1
              have q0 := h3.res.free 0; have q1 := h3.res.free 1
              have l0 := h3.pl.cell 0; have l1 := h3.pl.cell 1
              simp only [zero2, List.getElem?_cons_zero, List.getElem?_cons_succ] at r0 r1 l0 l1
              go_region
              go_wp2
              have hkk : Kept (· = w.heap.size) W3 ((W3.setCell ⟨w.heap.size, 0, none⟩ (.int .i64 ((plOf s.data.toList k).1 : Nat))).setCell ⟨w.heap.size, 1, none⟩ (.int .i64 ((plOf s.data.toList k).2 : Nat))).drew := (((Kept.refl _ _).setCell (fun _ => by rfl) _).setCell (fun _ => by rfl) _).drew
              have hres := (h3.res.put 0 (.int .i64 ((plOf s.data.toList k).1 : Nat))).put 1 (.int .i64 ((plOf s.data.toList k).2 : Nat))
              refine bodyPost_ret (results12_of hres.drew rfl rfl rfl) rfl ?_
              refine .inr ⟨n, h3.good, by rw [← HPOS.out, HL.out]; exact hlt, by rw [← HPOS.out, HERR.out]; exact HE.out, ?_, h3.kept.join hkk (fun i hi hlt => by omega)⟩
              rw [← HPOS.out, HERR.out]
              rfl
    · have hk : k = s.size := by have := h.le; omega
      have r0 := h.res.cell 0; have r1 := h.res.cell 1; have q0 := h.res.free 0; have q1 := h.res.free 1
      simp only [zero2, List.getElem?_cons_zero, List.getElem?_cons_succ] at r0 r1
      have hend : posW s.data.toList n = s.data.toList.length := by
        have := h.at_
        rw [List.drop_eq_nil_of_le (by rw [HL.out]; omega)] at this
        rw [HL.out, ← this, hk]
        rfl
      have HEND := Lib.hid hend
      clear hend hk
      go_wp2
      have hkk : Kept (· = w.heap.size) wr ((wr.setCell ⟨w.heap.size, 0, none⟩ (.int .i64 0)).setCell ⟨w.heap.size, 1, none⟩ (.int .i64 0)) := ((Kept.refl _ _).setCell (fun _ => by rfl) _).setCell (fun _ => by rfl) _
      refine bodyPost_ret (results12_of ((h.res.put 0 (.int .i64 0)).put 1 (.int .i64 0)) rfl rfl rfl) rfl ?_
      refine .inl ⟨n, v, h.good, HEND.out, rfl, own_kept h.own hkk (fun g hg e => own_ne h.own h.res (by decide) (e ▸ hg)), h.new, h.kept.join hkk (fun i hi hlt => by omega)⟩
end Go.Proofs.Ythknjkmkhjjmmaa
