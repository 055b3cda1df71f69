/- Contracts of the document's own answers for pages. -/
import Derived.Test.YthikpamjeckfcaaDoorP2
namespace Go.Proofs.YthikpamjeckfcaaDoor
open Go.RowKit
set_option linter.unusedVariables false
set_option linter.unusedSimpArgs false

section
variable {n : Int} {A : Option Addr} {ws : List Nat} {w : World} (cap : Nat)
/-- whether c bits from a on are 0 -/
def FitE (ws : List Nat) (a : Nat) (c : Int) (e : Ending) : Prop := ∃ b : Bool, e = .returned (.bool b) ∧ (b = true ↔ FitAt ws a c.toNat)
end
end Go.Proofs.YthikpamjeckfcaaDoor
