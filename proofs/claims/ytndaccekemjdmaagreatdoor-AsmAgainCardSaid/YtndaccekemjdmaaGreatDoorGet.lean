/- Contracts: one bit is asked for; one is changed. -/
import Derived.Test.YtndaccekemjdmaaGreatDoorMake
namespace Go.Proofs.YtndaccekemjdmaaGreatDoor
open Go.RowKit
set_option linter.unusedVariables false
set_option linter.unusedSimpArgs false

section
variable {n : Int} {A : Option Addr} {ws : List Nat} {w : World} (cap : Nat) (i : Int)
end
end Go.Proofs.YtndaccekemjdmaaGreatDoor
