/- The card of the law SyntaxDecls: a declaration's text, behind another one, proved, and the tables that it reads are tied to the program's text (conditions: those of the card). -/
import Derived.Test.YtjkgepppoopheaaGreatDoorLawSynDecls
import Derived.Test.YtjkgepppoopheaaGreatDoorTie
import Derived.Test.YtjkgepppoopheaaGreatDoorCards
import Derived.SevenTiedAt
namespace Go.Proofs.YtjkgepppoopheaaGreatDoor.syntaxDecls
open Go.ChangeShapes Go.WideShapes Go.ChangeAt Go.RowKit

set_option maxRecDepth 100000 in
theorem card : Rows.SyntaxDeclsCardSaid :=
  Claim7.holds_tied_plain_at .later [] [.data, .data, .data, .data, .data, .widerDeep, .data, .data] true (true, "23317ff4b7c9a0613cbff558656e029c548bc552be2331af1ed5d1a938ada602") true over (fun _ h => by cases h) (by kernel_rfl) (fun _ h => by cases h)
    syntaxDecls_row_tie rfl ⟨rfl, rfl⟩ (by kernel_rfl) (by kernel_rfl)
    (fun f fn hf hfn => by
      obtain rfl : f = 12 := Option.some.inj ((show Tryz.prog.funcNamed "warp/warplaw02.SyntaxDecls" = some 12 by kernel_rfl).symm.trans hf) |>.symm
      obtain rfl : fn = Tryz.f12 := (Option.some.inj (Tryz.func12.symm.trans hfn)).symm
      exact ⟨by kernel_rfl, fun j t ht => by
        rw [Tryz.params12] at ht
        match j, ht with
        | 0, ht => exact (Option.some.inj ht) ▸ (show Tryz.pinned.checked.prog.wantsStandIn 9 = false by kernel_rfl)
        | j + 1, ht => simp at ht⟩)
    (by kernel_rfl)
#print axioms card
end Go.Proofs.YtjkgepppoopheaaGreatDoor.syntaxDecls
