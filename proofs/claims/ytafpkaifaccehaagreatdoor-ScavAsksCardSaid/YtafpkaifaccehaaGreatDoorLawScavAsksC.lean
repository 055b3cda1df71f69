/- ScavAsks answers true: the program and the document say the same of a heap some of whose pages are out.
   Conditions: the table besom/class.sizes reads as the program's own initialiser lays it, which the card ties to the program's text (plain data; look 11); otherwise none: every input that can be read. -/
import Derived.Test.YtafpkaifaccehaaGreatDoorLawScavAsksBC
import Derived.Test.YtafpkaifaccehaaGreatDoorRows
import Derived.Test.YtafpkaifaccehaaGreatDoorTie
import Derived.Test.YtafpkaifaccehaaGreatDoorCards
import Derived.SevenTiedAt
namespace Go.Proofs.YtafpkaifaccehaaGreatDoor.scavAsksDone
open Go.ChangeShapes Go.WideShapes Go.ChangeAt Go.RowKit Go.Joins
set_option linter.unusedVariables false
set_option linter.unusedSimpArgs false

theorem proved : Rows.ScavAsksCardSaid :=
  Claim7.holds_tied_plain_at .later [] [.data] true Rows.scavAsksCard.stood.harness false
    over (fun _ h => by cases h) (by kernel_rfl) (fun _ h => by cases h) scavAsks_row_tie rfl ⟨rfl, rfl⟩ (by kernel_rfl) rfl
    (fun f fn hf hfn => by
      obtain rfl : f = 9 := Option.some.inj ((show Tryz.prog.funcNamed "besom/besomlaw23.ScavAsks" = some 9 by kernel_rfl).symm.trans hf) |>.symm
      obtain rfl : fn = Tryz.f9 := (Option.some.inj (Tryz.func9.symm.trans hfn)).symm
      exact ⟨by kernel_rfl, fun j t ht => by
        rw [Tryz.params9] at ht
        have hm : t ∈ [79, 31] := by simpa using Array.mem_of_getElem? ht
        have hall : ([79, 31].all fun u => !Tryz.prog.wantsStandIn u) = true := by kernel_rfl
        exact (show Tryz.prog.wantsStandIn t = false by simpa using List.all_eq_true.1 hall t hm)⟩)
    (by kernel_rfl)
#print axioms proved
end Go.Proofs.YtafpkaifaccehaaGreatDoor.scavAsksDone
