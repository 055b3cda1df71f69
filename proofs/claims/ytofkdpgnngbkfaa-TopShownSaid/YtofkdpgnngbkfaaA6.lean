/- Contracts of package arena: Move. -/
import Derived.Test.YtofkdpgnngbkfaaA5
namespace Go.Proofs.Ytofkdpgnngbkfaa
open Go.RowKit
set_option linter.unusedVariables false
set_option linter.unusedSimpArgs false

section
variable {A : Option Addr} {ws : List Nat} {w : World} (cap : Nat)
end
end Go.Proofs.Ytofkdpgnngbkfaa
