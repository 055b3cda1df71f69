/- Contracts: the questions whose answers the document gives (lives of layer 3); the program and the document's own answers agree. -/
import Derived.Test.YthikpamjeckfcaaDoorP3
import Derived.Test.YthikpamjeckfcaaDoorP4
namespace Go.Proofs.YthikpamjeckfcaaDoor
open Go.RowKit
set_option linter.unusedVariables false
set_option linter.unusedSimpArgs false

/-- pages that are named: some words, of which a fact is kept -/
def GotT (w : World) (n : Int) (ws : List Nat) (i why : Int) (e : Ending) (w' : World) : Prop :=
  ∃ us A cap, Hid (us = ws) ∧ e = .returned (.tuple #[.agg #[.int .i64 n, .slice A us.length cap], .int .i64 i, .int .i64 why]) ∧ Own w' w.heap.size A us ∧ Below w.heap.size w w'
theorem FreshT.got {w : World} {n : Int} {ws vs : List Nat} {i why : Int} {e : Ending} {w' : World} (h : FreshT w n ws i why e w') (hv : ws = vs) : GotT w n vs i why e w' := by
  obtain ⟨A, cap, h1, h2, h3⟩ := h
  exact ⟨ws, A, cap, hv, h1, h2, h3⟩
theorem right4 (x : Nat) (hx : x < 16) : Right 4 [x] := ⟨by omega, by omega, rfl, fun i h1 h2 => by
  simp at h1 h2
  unfold tb
  rw [show i / 64 = 0 by omega, show i % 64 = i by omega]
  show x.testBit i = false
  exact Nat.testBit_lt_two_pow (Nat.lt_of_lt_of_le hx (show 2 ^ 4 ≤ 2 ^ i from Nat.pow_le_pow_right (by omega) (by omega)))⟩
theorem run4a : RunP [0] 1 4 0 0 := .inl ⟨rfl, 0, by omega, by decide, fun j g => by
  obtain rfl : j = 0 := by omega
  decide, by omega⟩
theorem run4b : RunP [1] 2 4 1 0 := .inl ⟨rfl, 2, by omega, by decide, fun j g => by
  have h : j = 0 ∨ j = 1 ∨ j = 2 := by omega
  rcases h with rfl | rfl | rfl <;> decide, by omega⟩
theorem run4c : RunP [6] 2 4 0 3 := .inr ⟨rfl, rfl, fun j g => by
  have h : j = 0 ∨ j = 1 ∨ j = 2 ∨ j = 3 ∨ j = 4 := by omega
  rcases h with rfl | rfl | rfl | rfl | rfl <;> decide⟩

theorem FitP.zero {ws : List Nat} {c n i : Int} (h : FitP ws c n i 0) : 0 ≤ i ∧ i + c ≤ n := by
  rcases h with ⟨_, h1, h2, _⟩ | ⟨h, _⟩
  · exact ⟨h1, h2⟩
  · cases h
theorem FitP.three {ws : List Nat} {c n i : Int} (h : FitP ws c n i 3) : i = 0 := by
  rcases h with ⟨h, _⟩ | ⟨_, h1, _⟩
  · cases h
  · exact h1
theorem run_why {ws : List Nat} {c n i why : Int} (h : RunP ws c n i why) : why = 0 ∨ (why = 3 ∧ i = 0) := by
  rcases h with ⟨h, _⟩ | ⟨h, h1, _⟩
  · exact .inl h
  · exact .inr ⟨h, h1⟩
end Go.Proofs.YthikpamjeckfcaaDoor
