/- Contracts of the document's own answers for bits: one bit, the check, whether two are one. -/
import Derived.Test.YtklbamkafldagaaDoorCheck
import Derived.LoopTactic
namespace Go.Proofs.YtklbamkafldagaaDoor
open Go.RowKit

section
variable (n : Int) (A : Option Addr) (len cap : Nat) (w : World)
end

/-- what a check answers -/
def RC (n : Int) (ws : List Nat) (e : Ending) : Prop := (Right n ws ∧ e = .returned (.int .i64 0)) ∨ (¬ Right n ws ∧ e = .returned (.int .i64 2))
def ZeroTo (n : Int) (ws : List Nat) (k : Nat) : Prop := ∀ j, n.toNat ≤ j → j < k → tb ws j = false

def SameTo (ws ws' : List Nat) (k : Nat) : Prop := ∀ j, j < k → ws.getD j 0 = ws'.getD j 0
/-- a word of a list, under a name of its own -/
theorem named (ws : List Nat) (k : Nat) : ∃ x, Hid (ws.getD k 0 = x) := ⟨_, rfl⟩

end Go.Proofs.YtklbamkafldagaaDoor
