/- Contracts: some bits are filled, as the document's own answers say. -/
import Derived.Test.YtndaccekemjdmaaGreatDoorFill
namespace Go.Proofs.YtndaccekemjdmaaGreatDoor
open Go.RowKit
set_option linter.unusedVariables false
set_option linter.unusedSimpArgs false

theorem right_len {N : Int} {ws : List Nat} (h : Right N ws) : ws.length ≤ 64 := by have := h.2.2.1; have := h.2.1; omega

/-- a block of two cells that may be written -/
structure Two (w : World) (g : Nat) (v0 v1 : Value) : Prop where
  c0 : w.cell? ⟨g, 0, none⟩ = some v0
  c1 : w.cell? ⟨g, 1, none⟩ = some v1
  fr : ∀ i, w.frozen? ⟨g, i, none⟩ = false
theorem Two.set_ {w : World} {g : Nat} {u0 u1 : Value} (h : Two w g u0 u1) (v0 v1 : Value) : Two ((w.setCell ⟨g, 0, none⟩ v0).setCell ⟨g, 1, none⟩ v1) g v0 v1 :=
  ⟨(set_two v0 v1 h.c0 h.c1).1, (set_two v0 v1 h.c0 h.c1).2, fun i => by rw [World.frozen?_setCell, World.frozen?_setCell]; exact h.fr i⟩
theorem Two.far {w : World} {g g' : Nat} {u0 u1 : Value} (h : Two w g u0 u1) (hne : g' ≠ g) (v0 v1 : Value) : Two ((w.setCell ⟨g', 0, none⟩ v0).setCell ⟨g', 1, none⟩ v1) g u0 u1 :=
  ⟨(World.cell?_setCell_other _ _ _ _ (by intro e; injection e; omega)).trans ((World.cell?_setCell_other _ _ _ _ (by intro e; injection e; omega)).trans h.c0),
   (World.cell?_setCell_other _ _ _ _ (by intro e; injection e; omega)).trans ((World.cell?_setCell_other _ _ _ _ (by intro e; injection e; omega)).trans h.c1), fun i => by rw [World.frozen?_setCell, World.frozen?_setCell]; exact h.fr i⟩
theorem Two.below {w w' : World} {g B : Nat} {u0 u1 : Value} (h : Two w g u0 u1) (hb : Below B w w') (hg : g < B) : Two w' g u0 u1 :=
  ⟨((bcell hb).1 _ _ hg).trans h.c0, ((bcell hb).1 _ _ hg).trans h.c1, fun i => ((bcell hb).2 _ _ hg).trans (h.fr i)⟩
theorem Two.old {w : World} {g : Nat} {u0 u1 : Value} (h : Two w g u0 u1) (hg : g < w.heap.size) (o : Obj) : Two (w.alloc o) g u0 u1 := h.below ((Below.refl w.heap.size w).alloc (Nat.le_refl _) o) hg
theorem Two.new (w : World) (v0 v1 : Value) (t : TypeId) : Two (w.alloc (.cells #[v0, v1] t)) w.heap.size v0 v1 :=
  ⟨new_two.1, new_two.2, fun i => by simp [go_sem]⟩

section
variable {N : Int} {A : Option Addr} {ws : List Nat} {w : World} (cap : Nat) (a c : Int) (v : Bool)
end
end Go.Proofs.YtndaccekemjdmaaGreatDoor
