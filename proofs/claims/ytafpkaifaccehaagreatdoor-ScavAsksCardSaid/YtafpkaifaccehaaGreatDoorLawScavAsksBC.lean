/- ScavAsks answers true: the program and the document say the same of a heap some of whose pages are out.
   Conditions: the table besom/class.sizes reads as the program's own initialiser lays it, which the card ties to the program's text (plain data; look 11); otherwise none: every input that can be read. -/
import Derived.Test.YtafpkaifaccehaaGreatDoorLawScavAsksAC
import Derived.Test.YtafpkaifaccehaaGreatDoorLawScavAsksFC
import Derived.Test.YtafpkaifaccehaaGreatDoorRows
import Derived.Test.YtafpkaifaccehaaGreatDoorTie
import Derived.Test.YtafpkaifaccehaaGreatDoorCards
import Derived.SevenTiedAt
namespace Go.Proofs.YtafpkaifaccehaaGreatDoor.scavAsksDone
open Go.ChangeShapes Go.WideShapes Go.ChangeAt Go.RowKit Go.Joins
set_option linter.unusedVariables false
set_option linter.unusedSimpArgs false

set_option maxRecDepth 100000
theorem over : Rows.scavAsksRow.holds Tryz.pinned (OpenSpec.ofChange Rows.scavAsksSpec) :=
  OpenClaim.holds_of_wide 9 Tryz.f9 rfl rfl rfl rfl rfl rfl rfl ⟨rfl, rfl, rfl, rfl, rfl⟩ rfl rfl rfl rfl rfl (by kernel_rfl) Tryz.func9 facts
    (of_decide_eq_true (by kernel_rfl)) (by unfold Func.isWrapper; first | (rw [if_pos (by decide +kernel)]; kernel_rfl) | (rw [if_neg (by decide +kernel)]; exact ⟨rfl, rfl⟩))
    (fun os started H enc _ => lifted os started H enc)

end Go.Proofs.YtafpkaifaccehaaGreatDoor.scavAsksDone
