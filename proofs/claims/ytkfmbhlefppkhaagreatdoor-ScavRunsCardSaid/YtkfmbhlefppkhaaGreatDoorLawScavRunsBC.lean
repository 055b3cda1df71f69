/- ScavRuns answers true: runs of free pages come to all that are free, the longest ones first, the first one as long as the longest.
   Conditions: the table besom/class.sizes reads as the program's own initialiser lays it, which the card ties to the program's text (plain data; look 11); otherwise none: every input that can be read. -/
import Derived.Test.YtkfmbhlefppkhaaGreatDoorLawScavRunsAC
import Derived.Test.YtkfmbhlefppkhaaGreatDoorRows
import Derived.Test.YtkfmbhlefppkhaaGreatDoorTie
import Derived.Test.YtkfmbhlefppkhaaGreatDoorCards
import Derived.SevenTiedAt
namespace Go.Proofs.YtkfmbhlefppkhaaGreatDoor.scavRunsDone
open Go.ChangeShapes Go.WideShapes Go.ChangeAt Go.RowKit Go.Joins
set_option linter.unusedVariables false
set_option linter.unusedSimpArgs false

set_option maxRecDepth 100000
theorem fact1 : (Rows.scavRunsRow.inPlace == Tryz.prog.inPlace 12) = true := by kernel_rfl
theorem fact2 : (Rows.scavRunsRow.unfollowed == Tryz.prog.unfollowed 12) = true := by kernel_rfl
theorem fact3 : (Rows.scavRunsRow.recurses == Tryz.prog.recurses 12) = true := by kernel_rfl
theorem fact4 : (Rows.scavRunsRow.named == Tryz.prog.varsNamed 12) = true := by kernel_rfl
theorem facts : joinedFacts Tryz.prog 12 Tryz.f12 Rows.scavRunsSpec Rows.scavRunsRow = true := by
  unfold joinedFacts
  rw [fact1, fact2, fact3, fact4]
  kernel_rfl
theorem over : Rows.scavRunsRow.holds Tryz.pinned (OpenSpec.ofChange Rows.scavRunsSpec) :=
  OpenClaim.holds_of_wide 12 Tryz.f12 rfl rfl rfl rfl rfl rfl rfl ⟨rfl, rfl, rfl, rfl, rfl⟩ rfl rfl rfl rfl rfl (by kernel_rfl) Tryz.func12 facts
    (of_decide_eq_true (by kernel_rfl)) (by unfold Func.isWrapper; first | (rw [if_pos (by decide +kernel)]; kernel_rfl) | (rw [if_neg (by decide +kernel)]; exact ⟨rfl, rfl⟩))
    (fun os started H enc _ => lifted os started H enc)

end Go.Proofs.YtkfmbhlefppkhaaGreatDoor.scavRunsDone
