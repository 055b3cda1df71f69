/- The document's own answers of arena: Store, Clear, Move. -/
import Derived.Test.YtofkdpgnngbkfaaB1
namespace Go.Proofs.Ytofkdpgnngbkfaa
open Go.RowKit
set_option linter.unusedVariables false
set_option linter.unusedSimpArgs false

section
variable {A : Option Addr} {ws : List Nat} {w : World} (cap : Nat)
theorem racheck_any : Calls Try.prog 14 #[.agg #[.slice A ws.length cap]] w fun e w' => e = .returned (.int .i64 (errA ws True)) ∧ Below w.heap.size w w' := by
  unfold errA
  by_cases hb : ws.length ≤ 16384
  · rw [if_pos hb, if_pos trivial]
    exact racheck_ok _ _ hb
  · rw [if_neg hb]
    exact racheck_bad _ _ hb
end
end Go.Proofs.Ytofkdpgnngbkfaa
