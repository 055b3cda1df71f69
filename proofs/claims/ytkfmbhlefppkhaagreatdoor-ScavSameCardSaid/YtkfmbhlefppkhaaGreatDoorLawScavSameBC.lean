/- ScavSame answers true: the heap is what it is without anything being out, whatever is made, swept, and goes.
   Conditions: the table besom/class.sizes reads as the program's own initialiser lays it, which the card ties to the program's text (plain data; look 11); otherwise none: every input that can be read. -/
import Derived.Test.YtkfmbhlefppkhaaGreatDoorLawScavSameAC
import Derived.Test.YtkfmbhlefppkhaaGreatDoorRows
import Derived.Test.YtkfmbhlefppkhaaGreatDoorTie
import Derived.Test.YtkfmbhlefppkhaaGreatDoorCards
import Derived.SevenTiedAt
namespace Go.Proofs.YtkfmbhlefppkhaaGreatDoor.scavSameDone
open Go.ChangeShapes Go.WideShapes Go.ChangeAt Go.RowKit Go.Joins
set_option linter.unusedVariables false
set_option linter.unusedSimpArgs false

set_option maxRecDepth 100000
theorem fact1 : (Rows.scavSameRow.inPlace == Tryz.prog.inPlace 9) = true := by kernel_rfl
theorem fact2 : (Rows.scavSameRow.unfollowed == Tryz.prog.unfollowed 9) = true := by kernel_rfl
theorem fact3 : (Rows.scavSameRow.recurses == Tryz.prog.recurses 9) = true := by kernel_rfl
theorem fact4 : (Rows.scavSameRow.named == Tryz.prog.varsNamed 9) = true := by kernel_rfl
theorem facts : joinedFacts Tryz.prog 9 Tryz.f9 Rows.scavSameSpec Rows.scavSameRow = true := by
  unfold joinedFacts
  rw [fact1, fact2, fact3, fact4]
  kernel_rfl
theorem over : Rows.scavSameRow.holds Tryz.pinned (OpenSpec.ofChange Rows.scavSameSpec) :=
  OpenClaim.holds_of_wide 9 Tryz.f9 rfl rfl rfl rfl rfl rfl rfl ⟨rfl, rfl, rfl, rfl, rfl⟩ rfl rfl rfl rfl rfl (by kernel_rfl) Tryz.func9 facts
    (of_decide_eq_true (by kernel_rfl)) (by unfold Func.isWrapper; first | (rw [if_pos (by decide +kernel)]; kernel_rfl) | (rw [if_neg (by decide +kernel)]; exact ⟨rfl, rfl⟩))
    (fun os started H enc _ => lifted os started H enc)

end Go.Proofs.YtkfmbhlefppkhaaGreatDoor.scavSameDone
