/- The two readings of statements and blocks are one (conditions: as in Eq4). -/
import Derived.Test.YtjkgepppoopheaaGreatDoorAbb
import Derived.Test.YtjkgepppoopheaaGreatDoorQ16
set_option maxRecDepth 100000
set_option maxHeartbeats 1000000
namespace Go.Proofs.YtjkgepppoopheaaGreatDoor
open Go.RowKit Go.Shelf
theorem thn_thn {α β γ : Type} (x : Except Nat (α × Nat)) (f : α → Nat → Except Nat (β × Nat)) (g : β → Nat → Except Nat (γ × Nat)) : thn (thn x f) g = thn x fun a k => thn (f a k) g := by
 cases x <;> rfl
theorem thn_ite {α β : Type} (c : Prop) [Decidable c] (x y : Except Nat (α × Nat)) (f : α → Nat → Except Nat (β × Nat)) : thn (if c then x else y) f = if c then thn x f else thn y f := by
 split <;> rfl
def KwOk (n : Nat) (T : Nat → TokD) : Prop := ∀ k, k < n → ∀ j, 1 ≤ j → j < 16 → (T k).text = kindsL.getD j ⟨#[]⟩ → (T k).text ≠ ⟨#[]⟩ → (T k).kind = 3
section
variable {S : Src}
theorem na_then {β : Type} {k : Nat} {G : ByteArray × RS → β × RS} {F : ByteArray → Nat → Except Nat (β × Nat)} (hok : ∀ s, k < S.n → Sim (G (s, (k + 1, false))) (F s (k + 1)))
  (hst : ∀ s k', (G (s, (k', true))).2 = (k', true)) : Sim (G (naR S.n S.T (k, false))) (thn (nameS S k) F) := by
 refine (na_sim k).thn (fun s k' hs _ => ?_) hst
 unfold nameS ofS at hs
 cases hkq : kindB S k 1 with
 | true => exact k_18
 | false => rw [hkq] at hs; cases hs
theorem nu_then {β : Type} {k : Nat} {G : Int × RS → β × RS} {F : Int → Nat → Except Nat (β × Nat)} (hok : ∀ s, k < S.n → Sim (G (s, (k + 1, false))) (F s (k + 1)))
  (hst : ∀ s k', (G (s, (k', true))).2 = (k', true)) : Sim (G (nuR S.n S.T (k, false))) (thn (numS S k) F) := by
 refine (nu_sim k).thn (fun s k' hs _ => ?_) hst
 unfold numS ofS at hs
 cases hkq : kindB S k 2 with
 | true => exact k_18
 | false => rw [hkq] at hs; cases hs
theorem mu_then (hA : AskOk S.n S.T) {β : Type} {k : Nat} {s : ByteArray} {G : RS → β × RS} {F : Unit → Nat → Except Nat (β × Nat)} (hs : askB s = true) (h0 : s ≠ ⟨#[]⟩) (hok : k < S.n → Sim (G (k + 1, false)) (F () (k + 1)))
  (hst : ∀ k', (G (k', true)).2 = (k', true)) : Sim (G (muR S.n S.T (k, false) s)) (thn (wantS S k s) F) := by
 have e : Sim ((), muR S.n S.T (k, false) s) (thn (wantS S k s) fun _ k => .ok ((), k)) := mu_sim hA () k hs h0
 unfold wantS at e ⊢
 cases ht : takeB S k s with
 | true =>
  rw [ht, if_pos rfl, thn_ok] at e
  have e2 : ((), muR S.n S.T (k, false) s) = ((), (k + 1, false)) := e
  injection e2 with _ e2
  rw [if_pos rfl, thn_ok, e2]
  exact hok (takeB_lt ht h0)
 | false =>
  rw [ht, if_neg Bool.false_ne_true, thn_err] at e
  have e2 : muR S.n S.T (k, false) s = (k, true) := e
  rw [if_neg Bool.false_ne_true, thn_err, e2]
  exact hst k
theorem ex_then (hA : AskOk S.n S.T) {β : Type} {k : Nat} (hk : k ≤ S.n) {G : ET × RS → β × RS} {F : ET → Nat → Except Nat (β × Nat)} (hok : ∀ e k', k ≤ k' → k' ≤ S.n → Sim (G (e, (k', false))) (F e k'))
  (hst : ∀ s k', (G (s, (k', true))).2 = (k', true)) : Sim (G (exR S.n S.T (k, false))) (thn (exprS S k) F) :=
 (ex_sim hA hk).thn (fun e k' hs _ => hok e k' (exprS_in hA hk hs).1 (exprS_in hA hk hs).2) hst
theorem stR_at {k : Nat} (hk : k < S.n) (q : Int) (s t : ByteArray) (e x : ET) (b l : List ST) : stR S.n S.T (k, false) q s t e x b l = atS (S.tok k).line (S.tok k).col (mkS q s t e x b l) := by
 rw [tok_lt_eq hk]
 unfold stR lineOf colOf
 simp only [if_pos hk]
 rfl
theorem fin_at {k k' : Nat} (hk : k < S.n) (q : Int) (s t : ByteArray) (e x : ET) (b l : List ST) : Sim (stR S.n S.T (k, false) q s t e x b l, (k', false)) (.ok (atS (S.tok k).line (S.tok k).col (mkS q s t e x b l), k')) := by
 show (_, _) = (_, _)
 rw [stR_at hk]
theorem worth_then (hA : AskOk S.n S.T) {β : Type} {k : Nat} (hk : k ≤ S.n) {g : ET → β} {F : ET → Nat → Except Nat (β × Nat)} (hok : ∀ e k', Sim (g e, (k', false)) (F e k')) :
  Sim (g (exR S.n S.T (k, false)).1, muR S.n S.T (exR S.n S.T (k, false)).2 ⟨#[59]⟩) (thn (worthS S k) F) := by
 unfold worthS
 rw [thn_thn]
 refine ex_then hA hk (G := fun e => (g e.1, muR S.n S.T e.2 ⟨#[59]⟩)) (fun e k' _ hk' => ?_) (fun s k' => muR_stuck k' _)
 rw [thn_thn]
 exact mu_then hA (G := fun st => (g e, st)) (by decide +kernel) (by decide) (fun _ => hok e (k' + 1)) (fun _ => rfl)
variable (hA : AskOk S.n S.T)
include hA
theorem set_sim {k0 k : Nat} (hk0 : k0 < S.n) (s : ByteArray) : Sim (setR S.n S.T (k0, false) (s, (k, false))) (thn (setS S s k) fun x k' => .ok (atS (S.tok k0).line (S.tok k0).col x, k')) := by
 unfold setS setR
 simp only [thn_thn, thn_ok]
 refine mu_then hA (G := fun st => (stR S.n S.T (k0, false) 2 s ⟨#[]⟩ (exR S.n S.T st).1 zeroT [] [], muR S.n S.T (exR S.n S.T st).2 ⟨#[59]⟩)) (by decide +kernel) (by decide) (fun hk => ?_) (fun k' => by rw [exR_stuck]; exact muR_stuck k' _)
 exact worth_then hA (g := fun e => stR S.n S.T (k0, false) 2 s ⟨#[]⟩ e zeroT [] []) kom (fun e k' => fin_at hk0 ..)
theorem put_sim {k0 k : Nat} (hk0 : k0 < S.n) (hk : k ≤ S.n) (s : ByteArray) (a : RS) : Sim (putR S.n S.T (k0, false) (s, a) (exR S.n S.T (k, false))) (thn (putS S s k) fun x k' => .ok (atS (S.tok k0).line (S.tok k0).col x, k')) := by
 unfold putS
 simp only [thn_thn, thn_ok]
 refine ex_then hA hk (G := fun x => putR S.n S.T (k0, false) (s, a) x) (fun x k1 _ _ => ?_) (fun x k' => by
   show muR S.n S.T (exR S.n S.T (muR S.n S.T (muR S.n S.T (k', true) _) _)).2 _ = _
   rw [muR_stuck, muR_stuck, exR_stuck, muR_stuck])
 unfold putR
 refine mu_then hA (G := fun st => (stR S.n S.T (k0, false) 3 s ⟨#[]⟩ (exR S.n S.T (muR S.n S.T st ⟨#[61]⟩)).1 x [] [], muR S.n S.T (exR S.n S.T (muR S.n S.T st ⟨#[61]⟩)).2 ⟨#[59]⟩)) (by decide +kernel) (by decide) (fun _ => ?_)
  (fun k' => by rw [muR_stuck, exR_stuck]; exact muR_stuck k' _)
 refine mu_then hA (G := fun st => (stR S.n S.T (k0, false) 3 s ⟨#[]⟩ (exR S.n S.T st).1 x [] [], muR S.n S.T (exR S.n S.T st).2 ⟨#[59]⟩)) (by decide +kernel) (by decide) (fun _ => ?_) (fun k' => by rw [exR_stuck]; exact muR_stuck k' _)
 exact worth_then hA (g := fun e => stR S.n S.T (k0, false) 3 s ⟨#[]⟩ e x [] []) kom (fun e k' => fin_at hk0 ..)
theorem assign_sim (k : Nat) : Sim (if isR S.n S.T (naR S.n S.T (k, false)).2 ⟨#[91]⟩ then putR S.n S.T (k, false) (naR S.n S.T (k, false)) (exR S.n S.T (nextR (naR S.n S.T (k, false)).2)) else setR S.n S.T (k, false) (naR S.n S.T (k, false)))
  (thn (assignS S k) fun x k' => .ok (atS (S.tok k).line (S.tok k).col x, k')) := by
 unfold assignS
 simp only [thn_thn, thn_ite]
 refine na_then (G := fun a => if isR S.n S.T a.2 ⟨#[91]⟩ then putR S.n S.T (k, false) a (exR S.n S.T (nextR a.2)) else setR S.n S.T (k, false) a) (fun s hk => ?_) (fun s k' => by
   show (if isR S.n S.T (k', true) ⟨#[91]⟩ then _ else _ : ST × RS).2 = _
   rw [isR_bad, if_neg Bool.false_ne_true]
   exact setR_stuck _ _ _)
 dsimp only
 rw [show isR S.n S.T (k + 1, false) ⟨#[91]⟩ = takeB S (k + 1) ⟨#[91]⟩ from isP_take hA (by decide +kernel) (by decide)]
 cases t : takeB S (k + 1) ⟨#[91]⟩ with
 | true =>
  have hlt := takeB_lt t (by decide)
  rw [if_pos rfl, if_pos rfl]
  exact put_sim hA hk kom s (k + 1, false)
 | false =>
  rw [if_neg Bool.false_ne_true, if_neg Bool.false_ne_true]
  exact set_sim hA hk s
theorem let_sim {k0 k : Nat} (hk0 : k0 < S.n) : Sim (letR S.n S.T (k0, false) (naR S.n S.T (k, false))) (thn (letS S k) fun x k' => .ok (atS (S.tok k0).line (S.tok k0).col x, k')) := by
 unfold letS
 simp only [thn_thn, thn_ok]
 refine na_then (G := fun a => letR S.n S.T (k0, false) a) (fun s _ => ?_) (fun s k' => by
   show muR S.n S.T (exR S.n S.T (muR S.n S.T (k', true) _)).2 _ = _
   rw [muR_stuck, exR_stuck, muR_stuck])
 unfold letR
 refine mu_then hA (G := fun st => (stR S.n S.T (k0, false) 1 s ⟨#[]⟩ (exR S.n S.T st).1 zeroT [] [], muR S.n S.T (exR S.n S.T st).2 ⟨#[59]⟩)) (by decide +kernel) (by decide) (fun _ => ?_) (fun k' => by rw [exR_stuck]; exact muR_stuck k' _)
 exact worth_then hA (g := fun e => stR S.n S.T (k0, false) 1 s ⟨#[]⟩ e zeroT [] []) kom (fun e k' => fin_at hk0 ..)
theorem name_sim {k0 k : Nat} (hk0 : k0 < S.n) (q : Int) : Sim (nameR S.n S.T (k0, false) q (naR S.n S.T (k, false))) (thn (namingS S q k) fun x k' => .ok (atS (S.tok k0).line (S.tok k0).col x, k')) := by
 unfold namingS
 simp only [thn_thn, thn_ok]
 refine na_then (G := fun a => nameR S.n S.T (k0, false) q a) (fun s _ => ?_) (fun s k' => muR_stuck k' _)
 exact mu_then hA (G := fun st => (stR S.n S.T (k0, false) q s ⟨#[]⟩ zeroT zeroT [] [], st)) (by decide +kernel) (by decide) (fun _ => fin_at hk0 ..) (fun _ => rfl)
theorem two_sim {k0 k : Nat} (hk0 : k0 < S.n) (q : Int) : Sim (twoR S.n S.T (k0, false) q (naR S.n S.T (k, false)) (naR S.n S.T (naR S.n S.T (k, false)).2)) (thn (namingTwoS S q k) fun x k' => .ok (atS (S.tok k0).line (S.tok k0).col x, k')) := by
 unfold namingTwoS
 simp only [thn_thn, thn_ok]
 refine na_then (G := fun a => twoR S.n S.T (k0, false) q a (naR S.n S.T a.2)) (fun s _ => ?_) (fun s k' => by
   show muR S.n S.T (naR S.n S.T (k', true)).2 _ = _
   rw [naR_stuck, muR_stuck])
 refine na_then (G := fun b => twoR S.n S.T (k0, false) q (s, (k + 1, false)) b) (fun t _ => ?_) (fun s k' => muR_stuck k' _)
 exact mu_then hA (G := fun st => (stR S.n S.T (k0, false) q s t zeroT zeroT [] [], st)) (by decide +kernel) (by decide) (fun _ => fin_at hk0 ..) (fun _ => rfl)
theorem send_sim {k0 k : Nat} (hk0 : k0 < S.n) : Sim (sendR S.n S.T (k0, false) (naR S.n S.T (k, false)) (exR S.n S.T (naR S.n S.T (k, false)).2)) (thn (sendS S k) fun x k' => .ok (atS (S.tok k0).line (S.tok k0).col x, k')) := by
 unfold sendS
 simp only [thn_thn, thn_ok]
 refine na_then (G := fun a => sendR S.n S.T (k0, false) a (exR S.n S.T a.2)) (fun s _ => ?_) (fun s k' => by
   show muR S.n S.T (exR S.n S.T (k', true)).2 _ = _
   rw [exR_stuck, muR_stuck])
 exact worth_then hA (g := fun e => stR S.n S.T (k0, false) 11 s ⟨#[]⟩ e zeroT [] []) kom (fun e k' => fin_at hk0 ..)
theorem join_sim {k0 k : Nat} (hk0 : k0 < S.n) : Sim (joinR S.n S.T (k0, false) (k, false)) (thn (joinS S k) fun x k' => .ok (atS (S.tok k0).line (S.tok k0).col x, k')) := by
 unfold joinS
 simp only [thn_thn, thn_ok]
 exact mu_then hA (G := fun st => (stR S.n S.T (k0, false) 14 ⟨#[]⟩ ⟨#[]⟩ zeroT zeroT [] [], st)) (by decide +kernel) (by decide) (fun _ => fin_at hk0 ..) (fun _ => rfl)
theorem print_sim {k0 k : Nat} (hk0 : k0 < S.n) (hk : k ≤ S.n) : Sim (printR S.n S.T (k0, false) (exR S.n S.T (k, false))) (thn (printS S k) fun x k' => .ok (atS (S.tok k0).line (S.tok k0).col x, k')) := by
 unfold printS
 simp only [thn_thn, thn_ok]
 exact worth_then hA (g := fun e => stR S.n S.T (k0, false) 15 ⟨#[]⟩ ⟨#[]⟩ e zeroT [] []) hk (fun e k' => fin_at hk0 ..)
end
def kTUp (t : ByteArray) : Nat → Nat
 | 0 => 0
 | j + 1 => if !((kindsL.getD (j + 1) ⟨#[]⟩).toList.isEmpty) && decide (t = kindsL.getD (j + 1) ⟨#[]⟩) then j + 1 else kTUp t j
def kwJ : List Nat := [1, 4, 5, 6, 7, 8, 9, 10, 11, 12, 13, 14, 15]
def kwK (j : Nat) : ByteArray := kindsL.getD j ⟨#[]⟩
theorem kinds_ask : ((List.range' 1 15).all fun j => (kwK j).toList.isEmpty || (askB (kwK j) && decide (kwK j ≠ ⟨#[]⟩))) = true := by decide +kernel
theorem kinds_in : (kwJ.all fun j => decide (kTUp (kwK j) 15 = j) && decide (kwK j ≠ ⟨#[]⟩) && decide (1 ≤ j) && decide (j < 16)) = true := by decide +kernel
theorem kinds_out : ((List.range' 1 15).all fun j => (kwK j).toList.isEmpty || kwJ.any fun i => i == j) = true := by decide +kernel
section
variable {S : Src}
theorem kindUp_text (hA : AskOk S.n S.T) (k : Nat) : ∀ j, j ≤ 15 → kindUp S.n S.T (k, false) j = kTUp (S.tok k).text j
 | 0, _ => rfl
 | j + 1, hj => by
  rw [kindUp, kTUp, kindUp_text hA k j kom]
  have h := List.all_eq_true.1 kinds_ask (j + 1) (List.mem_range'_1.2 ⟨by omega, by omega⟩)
  cases he : (kindsL.getD (j + 1) ⟨#[]⟩).toList.isEmpty with
  | true => simp
  | false =>
   rw [show (kwK (j + 1)).toList.isEmpty = false from he, Bool.false_or, Bool.and_eq_true, decide_eq_true_eq] at h
   rw [show isR S.n S.T (k, false) (kindsL.getD (j + 1) ⟨#[]⟩) = takeB S k (kwK (j + 1)) from isP_take hA h.1 h.2]
   rfl
theorem kT_none {t : ByteArray} (ht : ∀ j ∈ kwJ, t ≠ kwK j) : ∀ j, j ≤ 15 → kTUp t j = 0
 | 0, _ => rfl
 | j + 1, hj => by
  rw [kTUp, kT_none ht j kom]
  have h := List.all_eq_true.1 kinds_out (j + 1) (List.mem_range'_1.2 ⟨by omega, by omega⟩)
  cases he : (kindsL.getD (j + 1) ⟨#[]⟩).toList.isEmpty with
  | true => simp
  | false =>
   rw [show (kwK (j + 1)).toList.isEmpty = false from he, Bool.false_or, List.any_eq_true] at h
   obtain ⟨i, hi, he⟩ := h
   rw [beq_iff_eq] at he
   subst he
   rw [show decide (t = kindsL.getD (j + 1) ⟨#[]⟩) = false from decide_eq_false (ht _ hi)]
   rfl
theorem form_none {B : Nat → Except Nat (List ST × Nat)} {t : ByteArray} (ht : ∀ j ∈ kwJ, t ≠ kwK j) : formS S B t = none := by
 have g := fun j hj => Ne.symm (ht j hj)
 have g1 : ¬ kLet = t := g 1 (by decide); have g4 : ¬ kIf = t := g 4 (by decide); have g5 : ¬ kWhile = t := g 5 (by decide); have g6 : ¬ kLock = t := g 6 (by decide)
 have g7 : ¬ kUnlock = t := g 7 (by decide); have g8 : ¬ kWait = t := g 8 (by decide); have g9 : ¬ kSignal = t := g 9 (by decide); have g10 : ¬ kAll = t := g 10 (by decide)
 have g11 : ¬ kSend = t := g 11 (by decide); have g12 : ¬ kRecv = t := g 12 (by decide); have g13 : ¬ kSpawn = t := g 13 (by decide); have g14 : ¬ kJoin = t := g 14 (by decide); have g15 : ¬ kPrint = t := g 15 (by decide)
 simp [formS, formsL, List.find?, g1, g4, g5, g6, g7, g8, g9, g10, g11, g12, g13, g14, g15]
def BloS (S : Src) (f : Nat) (B : Nat → Except Nat (List ST × Nat)) (k : Nat) : Prop := Sim (blockR S.n S.T f (k, false)) (B k)
theorem bk_then {β : Type} {f k : Nat} {B : Nat → Except Nat (List ST × Nat)} (hB : BloS S f B k) (hk : k ≤ S.n) {G : List ST × RS → β × RS} {F : List ST → Nat → Except Nat (β × Nat)}
  (hok : ∀ e k', k ≤ k' → k' ≤ S.n → Sim (G (e, (k', false))) (F e k')) (hst : ∀ s k', (G (s, (k', true))).2 = (k', true)) : Sim (G (blockR S.n S.T f (k, false))) (thn (B k) F) := by
 refine hB.thn (fun e k' _ hr => ?_) hst
 have ho := (stmts_on (n := S.n) (T := S.T) f).2.1 (k, false)
 rw [hr] at ho
 exact hok e k' ho.1 (ho.2 hk)
section
variable (hA : AskOk S.n S.T) {f : Nat} {B : Nat → Except Nat (List ST × Nat)} {k0 : Nat} (hk0 : k0 < S.n) (hB : ∀ k', k0 < k' → k' ≤ S.n → BloS S f B k')
include hA hk0 hB
theorem while_sim : Sim (stR S.n S.T (k0, false) 5 ⟨#[]⟩ ⟨#[]⟩ (exR S.n S.T (k0 + 1, false)).1 zeroT (blockR S.n S.T f (exR S.n S.T (k0 + 1, false)).2).1 [], (blockR S.n S.T f (exR S.n S.T (k0 + 1, false)).2).2)
  (thn (loopS S B (k0 + 1)) fun x k' => .ok (atS (S.tok k0).line (S.tok k0).col x, k')) := by
 unfold loopS
 simp only [thn_thn, thn_ok]
 refine ex_then hA kom (G := fun e => (stR S.n S.T (k0, false) 5 ⟨#[]⟩ ⟨#[]⟩ e.1 zeroT (blockR S.n S.T f e.2).1 [], (blockR S.n S.T f e.2).2)) (fun e k1 h1 h2 => ?_) (fun s k' => block_stuck f k')
 exact bk_then (hB k1 kom h2) h2 (G := fun b => (stR S.n S.T (k0, false) 5 ⟨#[]⟩ ⟨#[]⟩ e zeroT b.1 [], b.2)) (fun b k2 _ _ => fin_at hk0 ..) (fun _ _ => rfl)
theorem if_sim : Sim (if isR S.n S.T (blockR S.n S.T f (exR S.n S.T (k0 + 1, false)).2).2 kElse then
        (stR S.n S.T (k0, false) 4 ⟨#[]⟩ ⟨#[]⟩ (exR S.n S.T (k0 + 1, false)).1 zeroT (blockR S.n S.T f (exR S.n S.T (k0 + 1, false)).2).1 (blockR S.n S.T f (nextR (blockR S.n S.T f (exR S.n S.T (k0 + 1, false)).2).2)).1, (blockR S.n S.T f (nextR (blockR S.n S.T f (exR S.n S.T (k0 + 1, false)).2).2)).2)
      else (stR S.n S.T (k0, false) 4 ⟨#[]⟩ ⟨#[]⟩ (exR S.n S.T (k0 + 1, false)).1 zeroT (blockR S.n S.T f (exR S.n S.T (k0 + 1, false)).2).1 [], (blockR S.n S.T f (exR S.n S.T (k0 + 1, false)).2).2))
  (thn (choiceS S B (k0 + 1)) fun x k' => .ok (atS (S.tok k0).line (S.tok k0).col x, k')) := by
 unfold choiceS
 simp only [thn_thn, thn_ok, thn_ite]
 refine ex_then hA kom (G := fun e => if isR S.n S.T (blockR S.n S.T f e.2).2 kElse then
       (stR S.n S.T (k0, false) 4 ⟨#[]⟩ ⟨#[]⟩ e.1 zeroT (blockR S.n S.T f e.2).1 (blockR S.n S.T f (nextR (blockR S.n S.T f e.2).2)).1, (blockR S.n S.T f (nextR (blockR S.n S.T f e.2).2)).2)
     else (stR S.n S.T (k0, false) 4 ⟨#[]⟩ ⟨#[]⟩ e.1 zeroT (blockR S.n S.T f e.2).1 [], (blockR S.n S.T f e.2).2)) (fun e k1 h1 h2 => ?_) (fun s k' => ?_)
 ·refine bk_then (hB k1 kom h2) h2 (G := fun b => if isR S.n S.T b.2 kElse then
      (stR S.n S.T (k0, false) 4 ⟨#[]⟩ ⟨#[]⟩ e zeroT b.1 (blockR S.n S.T f (nextR b.2)).1, (blockR S.n S.T f (nextR b.2)).2)
    else (stR S.n S.T (k0, false) 4 ⟨#[]⟩ ⟨#[]⟩ e zeroT b.1 [], b.2)) (fun b k2 h3 h4 => ?_) (fun _ _ => rfl)
  dsimp only
  rw [show isR S.n S.T (k2, false) kElse = takeB S k2 ⟨#[101, 108, 115, 101]⟩ from isP_take hA (by decide +kernel) (by decide)]
  cases t : takeB S k2 ⟨#[101, 108, 115, 101]⟩ with
  | true =>
   have hlt := takeB_lt t (by decide)
   rw [if_pos rfl, if_pos rfl]
   exact bk_then (hB (k2 + 1) kom kom) kom (G := fun l => (stR S.n S.T (k0, false) 4 ⟨#[]⟩ ⟨#[]⟩ e zeroT b l.1, l.2)) (fun l k3 _ _ => fin_at hk0 ..) (fun _ _ => rfl)
  | false =>
   rw [if_neg Bool.false_ne_true, if_neg Bool.false_ne_true]
   exact fin_at hk0 ..
 ·dsimp only
  rw [block_stuck, isR_bad, if_neg Bool.false_ne_true]
end
theorem stmt_sim (hA : AskOk S.n S.T) (hK : KwOk S.n S.T) {f g k : Nat} (hB : ∀ k', k < k' → k' ≤ S.n → BloS S f (blockS S g) k') : Sim (stmtR S.n S.T (f + 1) (k, false)) (stmtS S (g + 1) k) := by
 have hkr : kindR S.n S.T (k, false) = kTUp (S.tok k).text 15 := kindUp_text hA k 15 (Nat.le_refl _)
 rw [stmtS]
 by_cases ht : ∀ j ∈ kwJ, (S.tok k).text ≠ kwK j
 ·rw [kT_none ht 15 (Nat.le_refl _)] at hkr
  rw [stmtR, if_pos hkr, form_none ht]
  have h := assign_sim hA k
  cases hk3 : kindB S k 3 with
  | false => rw [if_neg Bool.false_ne_true]; exact h
  | true =>
   rw [if_pos rfl]
   have hk1 : kindB S k 1 = false := by
    unfold kindB at hk3 ⊢
    rw [of_decide_eq_true hk3]
    decide
   have e : assignS S k = .error k := by
    unfold assignS nameS ofS
    rw [hk1, if_neg Bool.false_ne_true, thn_err, thn_err]
   rw [e, thn_err] at h
   exact h
 ·obtain ⟨j, ht⟩ := Classical.not_forall.1 ht
  obtain ⟨hj, ht⟩ := Classical.not_forall.1 ht
  have ht := Classical.not_not.1 ht
  have hp := List.all_eq_true.1 kinds_in j hj
  rw [Bool.and_eq_true, Bool.and_eq_true, Bool.and_eq_true, decide_eq_true_eq, decide_eq_true_eq, decide_eq_true_eq, decide_eq_true_eq] at hp
  obtain ⟨⟨⟨hp1, hp2⟩, hp3⟩, hp4⟩ := hp
  have hlt : k < S.n := by
   by_cases hk : k < S.n
   ·exact hk
   ·rw [Src.tok, if_neg hk] at ht
    exact absurd ht.symm hp2
  have hk3 : kindB S k 3 = true := by
   have e := ht
   rw [tok_lt_eq hlt] at e
   unfold kindB
   rw [tok_lt_eq hlt]
   exact decide_eq_true (hK k hlt j hp3 hp4 e (by rw [e]; exact hp2))
  rw [hk3, if_pos rfl, ht]
  rw [ht, hp1] at hkr
  clear hp1 hp2 hp3 hp4 hk3 ht
  simp only [kwJ, List.mem_cons, List.not_mem_nil, or_false] at hj
  rw [stmtR, hkr]
  rcases hj with rfl | rfl | rfl | rfl | rfl | rfl | rfl | rfl | rfl | rfl | rfl | rfl | rfl
  ·exact let_sim hA hlt
  ·exact if_sim hA hlt hB
  ·exact while_sim hA hlt hB
  ·exact name_sim hA hlt 6
  ·exact name_sim hA hlt 7
  ·exact two_sim hA hlt 8
  ·exact name_sim hA hlt 9
  ·exact name_sim hA hlt 10
  ·exact send_sim hA hlt
  ·exact two_sim hA hlt 12
  ·exact name_sim hA hlt 13
  ·exact join_sim hA hlt
  ·exact print_sim hA hlt kom
def StmS (S : Src) (k : Nat) : Prop := ∀ f g, (S.n - k) * 3 + 2 ≤ f → (S.n - k) * 3 + 2 ≤ g → Sim (stmtR S.n S.T f (k, false)) (stmtS S g k)
def BlkS (S : Src) (k : Nat) : Prop := ∀ f g, (S.n - k) * 3 + 1 ≤ f → (S.n - k) * 3 + 1 ≤ g → Sim (blockR S.n S.T f (k, false)) (blockS S g k)
def ResS (S : Src) (k : Nat) : Prop := ∀ f g, (S.n - k) * 3 + 3 ≤ f → (S.n - k) * 3 + 3 ≤ g → Sim ((restR S.n S.T f (k, false)).1, muR S.n S.T (restR S.n S.T f (k, false)).2 ⟨#[125]⟩) (restS S g k)
theorem rest_sim (hA : AskOk S.n S.T) {k : Nat} (hkn : k ≤ S.n) (hs : StmS S k) (hr : ∀ k', k < k' → k' ≤ S.n → ResS S k') : ResS S k := by
 intro f g hf hg
 cases f with
 | zero => omega
 | succ f =>
  cases g with
  | zero => omega
  | succ g =>
   rw [restR, restS, show isR S.n S.T (k, false) ⟨#[125]⟩ = takeB S k ⟨#[125]⟩ from isP_take hA (by decide +kernel) (by decide), Bool.false_or]
   cases t : takeB S k ⟨#[125]⟩ with
   | true =>
    rw [if_pos rfl, if_pos rfl]
    have h := mu_sim hA ([] : List ST) k (s := ⟨#[125]⟩) (by decide +kernel) (by decide)
    unfold wantS at h
    rw [t, if_pos rfl, thn_ok] at h
    exact h
   | false =>
    rw [if_neg Bool.false_ne_true, if_neg Bool.false_ne_true]
    refine (hs f g kom kom).thn (g := fun s => (s.1 :: (restR S.n S.T f s.2).1, muR S.n S.T (restR S.n S.T f s.2).2 ⟨#[125]⟩)) (fun s k' _ hsr => ?_) (fun s k' => by
      dsimp only
      rw [rest_stuck]
      exact muR_stuck k' _)
    cases f with
    | zero => omega
    | succ f =>
     have hpr := stmt_prog (n := S.n) (T := S.T) f k
     have hon := (stmts_on (n := S.n) (T := S.T) (f + 1)).1 (k, false)
     rw [hsr] at hpr hon
     have hlt : k < k' := hpr.resolve_right Bool.false_ne_true
     have hle : k' ≤ S.n := hon.2 hkn
     exact (hr k' hlt hle (f + 1) g kom kom).thn (g := fun l => (s :: l.1, l.2)) (fun _ _ _ _ => rfl) (fun _ _ => rfl)
theorem block_sim (hA : AskOk S.n S.T) {k : Nat} (hr : ∀ k', k < k' → k' ≤ S.n → ResS S k') : BlkS S k := by
 intro f g hf hg
 cases f with
 | zero => omega
 | succ f =>
  cases g with
  | zero => omega
  | succ g =>
   rw [blockR, blockS]
   exact mu_then hA (G := fun st => ((restR S.n S.T f st).1, muR S.n S.T (restR S.n S.T f st).2 ⟨#[125]⟩)) (by decide +kernel) (by decide) (fun hlt => hr (k + 1) kom kom f g kom kom)
    (fun k' => by
      dsimp only
      rw [rest_stuck]
      exact muR_stuck k' _)
theorem stmts_sim (hA : AskOk S.n S.T) (hK : KwOk S.n S.T) : ∀ (m k : Nat), S.n - k ≤ m → k ≤ S.n → StmS S k ∧ BlkS S k ∧ ResS S k := by
 intro m
 induction m with
 | zero =>
  intro k hm hk
  have h1 : StmS S k := fun f g hf hg => by
   obtain ⟨f, rfl⟩ : ∃ f', f = f' + 1 := ⟨f - 1, by omega⟩
   obtain ⟨g, rfl⟩ : ∃ g', g = g' + 1 := ⟨g - 1, by omega⟩
   exact stmt_sim hA hK (fun k' h1 h2 => by omega)
  exact ⟨h1, block_sim hA (fun k' h1 h2 => by omega), rest_sim hA hk h1 (fun k' h1 h2 => by omega)⟩
 | succ m ih =>
  intro k hm hk
  have hr := fun k' (h1 : k < k') (h2 : k' ≤ S.n) => (ih k' kom h2).2.2
  have h1 : StmS S k := fun f g hf hg => by
   obtain ⟨f, rfl⟩ : ∃ f', f = f' + 1 := ⟨f - 1, by omega⟩
   obtain ⟨g, rfl⟩ : ∃ g', g = g' + 1 := ⟨g - 1, by omega⟩
   exact stmt_sim hA hK (fun k' h1 h2 => (ih k' kom h2).2.1 f g kom kom)
  exact ⟨h1, block_sim hA hr, rest_sim hA hk h1 hr⟩
theorem bk_sim (hA : AskOk S.n S.T) (hK : KwOk S.n S.T) {k : Nat} (hk : k ≤ S.n) : Sim (bkR S.n S.T (k, false)) (bodyS S k) := by
 have : (S.n - k) * 3 ≤ S.n * 3 := Nat.mul_le_mul_right _ (Nat.sub_le _ _)
 exact (stmts_sim hA hK _ k (Nat.le_refl _) hk).2.1 _ _ kom kom
end
end Go.Proofs.YtjkgepppoopheaaGreatDoor
