/- Contracts: the waste of some; the questions whose answers the document gives (lives of layer 4). -/
import Derived.Test.YtbefjhgegoginaaDoorK1
import Derived.Test.YtbefjhgegoginaaDoorIRow
namespace Go.Proofs.YtbefjhgegoginaaDoor
open Go.RowKit
set_option linter.unusedVariables false
set_option linter.unusedSimpArgs false

def wsum (xs : List Int) : Nat → Int
  | 0 => 0
  | k + 1 => wsum xs k + (rmOf (xs.getD k 0) - xs.getD k 0)
def AllW (xs : List Int) (k : Nat) : Prop := ∀ j, j < k → In (xs.getD j 0)
theorem wsum_bounds (xs : List Int) (k : Nat) (h : AllW xs k) : 0 ≤ wsum xs k ∧ wsum xs k ≤ 15 * k := by
  induction k with
  | zero => exact ⟨Int.le_refl _, by show (0 : Int) ≤ _; omega⟩
  | succ k ih =>
    have h1 := ih fun j hj => h j (by omega)
    have h2 := rm_bounds (xs.getD k 0) (h k (by omega)).1
    rw [wsum]
    omega
def WasteE (xs : List Int) (e : Ending) : Prop := (AllW xs xs.length ∧ e = .returned (.tuple #[.int .i64 (wsum xs xs.length), .int .i64 0])) ∨ (¬ AllW xs xs.length ∧ e = .returned (.tuple #[.int .i64 0, .int .i64 1]))
theorem inamed (xs : List Int) (k : Nat) : ∃ x, Hid (xs.getD k 0 = x) := ⟨_, rfl⟩

section
variable {A : Option Addr} {xs : List Int} {w : World} (cap : Nat)
end
theorem WasteE.good {xs : List Int} {e : Ending} (h : WasteE xs e) (hA : AllW xs xs.length) : e = .returned (.tuple #[.int .i64 (wsum xs xs.length), .int .i64 0]) := by
  rcases h with ⟨_, h⟩ | ⟨h, _⟩
  · exact h
  · exact absurd hA h
theorem WasteE.bad {xs : List Int} {e : Ending} (h : WasteE xs e) (hA : ¬ AllW xs xs.length) : e = .returned (.tuple #[.int .i64 0, .int .i64 1]) := by
  rcases h with ⟨h, _⟩ | ⟨_, h⟩
  · exact absurd h hA
  · exact h
theorem irow_two (w : World) (x y : Int) (hx : I63 x) (hy : I63 y) : IRow (w.alloc (.cells #[.int .i64 x, .int .i64 y] 3)) (w.alloc (.cells #[.int .i64 x, .int .i64 y] 3)).heap.size (some ⟨w.heap.size, 0, none⟩) [x, y] :=
  ⟨fun z hz => by
    simp at hz
    rcases hz with rfl | rfl
    · exact hx
    · exact hy, fun _ => ⟨w.heap.size, 0, rfl, by simp, fun i hi => by
      have h2 : i = 0 ∨ i = 1 := by simp at hi; omega
      rcases h2 with rfl | rfl
      · exact new_two.1
      · exact new_two.2⟩⟩
end Go.Proofs.YtbefjhgegoginaaDoor
