/- ScavAsks answers true: the program and the document say the same of a heap some of whose pages are out.
   Conditions: the table besom/class.sizes reads as the program's own initialiser lays it, which the card ties to the program's text (plain data; look 11); otherwise none: every input that can be read. -/
import Derived.Test.YtafpkaifaccehaaGreatDoorRows
import Derived.Test.YtafpkaifaccehaaGreatDoorTie
import Derived.Test.YtafpkaifaccehaaGreatDoorCards
import Derived.SevenTiedAt
namespace Go.Proofs.YtafpkaifaccehaaGreatDoor.scavAsksDone
set_option linter.unusedVariables false
set_option linter.unusedSimpArgs false
set_option maxRecDepth 100000
theorem fact1 : (Rows.scavAsksRow.inPlace == Tryz.prog.inPlace 9) = true := by kernel_rfl
theorem fact2 : (Rows.scavAsksRow.unfollowed == Tryz.prog.unfollowed 9) = true := by kernel_rfl
theorem fact3 : (Rows.scavAsksRow.recurses == Tryz.prog.recurses 9) = true := by kernel_rfl
theorem fact4 : (Rows.scavAsksRow.named == Tryz.prog.varsNamed 9) = true := by kernel_rfl
theorem facts : joinedFacts Tryz.prog 9 Tryz.f9 Rows.scavAsksSpec Rows.scavAsksRow = true := by
  unfold joinedFacts
  rw [fact1, fact2, fact3, fact4]
  kernel_rfl
end Go.Proofs.YtafpkaifaccehaaGreatDoor.scavAsksDone
