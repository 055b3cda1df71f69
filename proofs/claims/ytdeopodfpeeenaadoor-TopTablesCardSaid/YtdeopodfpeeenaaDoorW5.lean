/- Contracts: Make, Get, Handle of tables of weak handles. -/
import Derived.Test.YtdeopodfpeeenaaDoorW3
namespace Go.Proofs.YtdeopodfpeeenaaDoor
open Go.RowKit
set_option linter.unusedVariables false
set_option linter.unusedSimpArgs false

section
variable {w : World} {A : Option Addr} {t : List Nat} (cap : Nat)
end
end Go.Proofs.YtdeopodfpeeenaaDoor
