/- Contracts: the questions whose answers the document gives (puts). -/
import Derived.Test.YtndaccekemjdmaaGreatDoorRun
import Derived.Test.YtndaccekemjdmaaGreatDoorRBoth
namespace Go.Proofs.YtndaccekemjdmaaGreatDoor
open Go.RowKit
set_option linter.unusedVariables false
set_option linter.unusedSimpArgs false

theorem tb_zeros (k i : Nat) : tb (List.replicate k 0) i = false := by
  unfold tb
  have : (List.replicate k 0).getD (i / 64) 0 = 0 := by
    rw [List.getD_eq_getElem?_getD, List.getElem?_replicate]
    split <;> rfl
  rw [this, Nat.zero_testBit]
theorem right_wordsN (n : Int) (h0 : 0 ≤ n) (h1 : n ≤ 4096) : Right n (wordsN n) :=
  ⟨h0, h1, by unfold wordsN; rw [List.length_replicate]; omega, fun i _ _ => tb_zeros _ _⟩

/-- bits that are named: some words, of which a fact is kept -/
def Got (w : World) (n : Int) (ws : List Nat) (why : Int) (e : Ending) (w' : World) : Prop :=
  ∃ us A cap, Hid (us = ws) ∧ e = .returned (.tuple #[.agg #[.int .i64 n, .slice A us.length cap], .int .i64 why]) ∧ Own w' w.heap.size A us ∧ Below w.heap.size w w'
theorem Fresh.got {w : World} {n : Int} {ws vs : List Nat} {why : Int} {e : Ending} {w' : World} (h : Fresh w n ws why e w') (hv : ws = vs) : Got w n vs why e w' := by
  obtain ⟨A, cap, h1, h2, h3⟩ := h
  exact ⟨ws, A, cap, hv, h1, h2, h3⟩

theorem right70 : Right 70 [0, 0] := right_wordsN 70 (by omega) (by omega)
theorem right70' : Right 70 [0, 32] := right_putW right70 69 true (by omega)
theorem right70'' : Right 70 [6, 32] := right_fillW right70' 1 2 true (by omega)
theorem length70 {us : List Nat} {a b : Nat} (h : us = [a, b]) : us.length = 2 := by rw [h]; rfl

end Go.Proofs.YtndaccekemjdmaaGreatDoor
