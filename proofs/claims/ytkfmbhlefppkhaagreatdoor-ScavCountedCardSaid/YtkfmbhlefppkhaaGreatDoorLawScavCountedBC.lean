/- ScavCounted answers true: what went, and did not come back, is out: from a new one on.
   Conditions: the table besom/class.sizes reads as the program's own initialiser lays it, which the card ties to the program's text (plain data; look 11); otherwise none: every input that can be read. -/
import Derived.Test.YtkfmbhlefppkhaaGreatDoorLawScavCountedAC
import Derived.Test.YtkfmbhlefppkhaaGreatDoorRows
import Derived.Test.YtkfmbhlefppkhaaGreatDoorTie
import Derived.Test.YtkfmbhlefppkhaaGreatDoorCards
import Derived.SevenTiedAt
namespace Go.Proofs.YtkfmbhlefppkhaaGreatDoor.scavCountedDone
open Go.ChangeShapes Go.WideShapes Go.ChangeAt Go.RowKit Go.Joins
set_option linter.unusedVariables false
set_option linter.unusedSimpArgs false

set_option maxRecDepth 100000
theorem fact1 : (Rows.scavCountedRow.inPlace == Tryz.prog.inPlace 10) = true := by kernel_rfl
theorem fact2 : (Rows.scavCountedRow.unfollowed == Tryz.prog.unfollowed 10) = true := by kernel_rfl
theorem fact3 : (Rows.scavCountedRow.recurses == Tryz.prog.recurses 10) = true := by kernel_rfl
theorem fact4 : (Rows.scavCountedRow.named == Tryz.prog.varsNamed 10) = true := by kernel_rfl
theorem facts : joinedFacts Tryz.prog 10 Tryz.f10 Rows.scavCountedSpec Rows.scavCountedRow = true := by
  unfold joinedFacts
  rw [fact1, fact2, fact3, fact4]
  kernel_rfl
theorem over : Rows.scavCountedRow.holds Tryz.pinned (OpenSpec.ofChange Rows.scavCountedSpec) :=
  OpenClaim.holds_of_wide 10 Tryz.f10 rfl rfl rfl rfl rfl rfl rfl ⟨rfl, rfl, rfl, rfl, rfl⟩ rfl rfl rfl rfl rfl (by kernel_rfl) Tryz.func10 facts
    (of_decide_eq_true (by kernel_rfl)) (by unfold Func.isWrapper; first | (rw [if_pos (by decide +kernel)]; kernel_rfl) | (rw [if_neg (by decide +kernel)]; exact ⟨rfl, rfl⟩))
    (fun os started H enc _ => lifted os started H enc)

end Go.Proofs.YtkfmbhlefppkhaaGreatDoor.scavCountedDone
