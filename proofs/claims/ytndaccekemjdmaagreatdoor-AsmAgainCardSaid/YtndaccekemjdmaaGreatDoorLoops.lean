/- Contracts: bits are counted. -/
import Derived.Test.YtndaccekemjdmaaGreatDoorRFill
import Derived.Test.YtndaccekemjdmaaGreatDoorSpec
namespace Go.Proofs.YtndaccekemjdmaaGreatDoor
open Go.RowKit
set_option linter.unusedVariables false
set_option linter.unusedSimpArgs false

section
variable {n : Int} {A : Option Addr} {ws : List Nat} {w : World} (cap : Nat)
/-- what First and Run answer: as P says -/
def Told (P : Int → Int → Prop) (e : Ending) : Prop := ∃ i why : Int, e = .returned (.tuple #[.int .i64 i, .int .i64 why]) ∧ P i why
def NoneTo (ws : List Nat) (v : Bool) (a k : Int) : Prop := ∀ j : Nat, a ≤ j → (j : Int) < k → tb ws j ≠ v
variable (a : Int) (v : Bool)
end
end Go.Proofs.YtndaccekemjdmaaGreatDoor
