/- Contracts: what two have in common, as the document's own answers say. -/
import Derived.Test.YtndaccekemjdmaaGreatDoorBoth
namespace Go.Proofs.YtndaccekemjdmaaGreatDoor
open Go.RowKit
set_option linter.unusedVariables false
set_option linter.unusedSimpArgs false

section
variable {n m : Int} {A C : Option Addr} {ws us : List Nat} {w : World} (cap cap' : Nat)
end
end Go.Proofs.YtndaccekemjdmaaGreatDoor
