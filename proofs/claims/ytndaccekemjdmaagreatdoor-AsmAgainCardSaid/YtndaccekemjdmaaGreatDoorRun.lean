/- Contracts: a run of bits that are 0 is searched. -/
import Derived.Test.YtndaccekemjdmaaGreatDoorLoops
namespace Go.Proofs.YtndaccekemjdmaaGreatDoor
open Go.RowKit
set_option linter.unusedVariables false
set_option linter.unusedSimpArgs false

def NotTo (ws : List Nat) (c : Int) (k : Nat) : Prop := ∀ j : Nat, j ≤ k → (zs ws j : Int) ≠ c
theorem notTo_zero {ws : List Nat} {c : Int} (h : 1 ≤ c) : NotTo ws c 0 := fun j g => by
  obtain rfl : j = 0 := by omega
  show (0 : Int) ≠ c
  omega
section
variable {n : Int} {A : Option Addr} {ws : List Nat} {w : World} (cap : Nat) (c : Int)
end
end Go.Proofs.YtndaccekemjdmaaGreatDoor
