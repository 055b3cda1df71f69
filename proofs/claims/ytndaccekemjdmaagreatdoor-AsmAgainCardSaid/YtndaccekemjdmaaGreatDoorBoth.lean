/- Contracts: what two have in common. -/
import Derived.Test.YtndaccekemjdmaaGreatDoorRFill
import Derived.Test.YtndaccekemjdmaaGreatDoorSpec
namespace Go.Proofs.YtndaccekemjdmaaGreatDoor
open Go.RowKit
set_option linter.unusedVariables false
set_option linter.unusedSimpArgs false

theorem Two.new1 (w : World) (o : Obj) (v0 v1 : Value) (t : TypeId) : Two ((w.alloc o).alloc (.cells #[v0, v1] t)) (w.heap.size + 1) v0 v1 := by
  have h := Two.new (w.alloc o) v0 v1 t
  rwa [World.size_alloc] at h
theorem Two.new2 (w : World) (o o' : Obj) (v0 v1 : Value) (t : TypeId) : Two (((w.alloc o).alloc o').alloc (.cells #[v0, v1] t)) (w.heap.size + 2) v0 v1 := by
  have h := Two.new1 (w.alloc o) o' v0 v1 t
  rwa [World.size_alloc] at h

section
variable {n m : Int} {A C : Option Addr} {ws us : List Nat} {w : World} (cap cap' : Nat)
theorem right_same {n : Int} {ws us : List Nat} (h : Right n ws) (h' : Right n us) : ws.length = us.length := by rw [h.2.2.1, h'.2.2.1]
end
end Go.Proofs.YtndaccekemjdmaaGreatDoor
