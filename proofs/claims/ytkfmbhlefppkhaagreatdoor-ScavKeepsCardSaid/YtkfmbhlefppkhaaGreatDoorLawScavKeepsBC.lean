/- ScavKeeps answers true: kept within so many, no more are there than these, or those that are used; none that is used goes.
   Conditions: the table besom/class.sizes reads as the program's own initialiser lays it, which the card ties to the program's text (plain data; look 11); otherwise none: every input that can be read. -/
import Derived.Test.YtkfmbhlefppkhaaGreatDoorLawScavKeepsAC
import Derived.Test.YtkfmbhlefppkhaaGreatDoorRows
import Derived.Test.YtkfmbhlefppkhaaGreatDoorTie
import Derived.Test.YtkfmbhlefppkhaaGreatDoorCards
import Derived.SevenTiedAt
namespace Go.Proofs.YtkfmbhlefppkhaaGreatDoor.scavKeepsDone
open Go.ChangeShapes Go.WideShapes Go.ChangeAt Go.RowKit Go.Joins
set_option linter.unusedVariables false
set_option linter.unusedSimpArgs false

set_option maxRecDepth 100000
theorem fact1 : (Rows.scavKeepsRow.inPlace == Tryz.prog.inPlace 11) = true := by kernel_rfl
theorem fact2 : (Rows.scavKeepsRow.unfollowed == Tryz.prog.unfollowed 11) = true := by kernel_rfl
theorem fact3 : (Rows.scavKeepsRow.recurses == Tryz.prog.recurses 11) = true := by kernel_rfl
theorem fact4 : (Rows.scavKeepsRow.named == Tryz.prog.varsNamed 11) = true := by kernel_rfl
theorem facts : joinedFacts Tryz.prog 11 Tryz.f11 Rows.scavKeepsSpec Rows.scavKeepsRow = true := by
  unfold joinedFacts
  rw [fact1, fact2, fact3, fact4]
  kernel_rfl
theorem over : Rows.scavKeepsRow.holds Tryz.pinned (OpenSpec.ofChange Rows.scavKeepsSpec) :=
  OpenClaim.holds_of_wide 11 Tryz.f11 rfl rfl rfl rfl rfl rfl rfl ⟨rfl, rfl, rfl, rfl, rfl⟩ rfl rfl rfl rfl rfl (by kernel_rfl) Tryz.func11 facts
    (of_decide_eq_true (by kernel_rfl)) (by unfold Func.isWrapper; first | (rw [if_pos (by decide +kernel)]; kernel_rfl) | (rw [if_neg (by decide +kernel)]; exact ⟨rfl, rfl⟩))
    (fun os started H enc _ => lifted os started H enc)

end Go.Proofs.YtkfmbhlefppkhaaGreatDoor.scavKeepsDone
