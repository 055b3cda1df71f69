/- Contracts: some bits are filled. -/
import Derived.Test.YtndaccekemjdmaaGreatDoorCopy
namespace Go.Proofs.YtndaccekemjdmaaGreatDoor
open Go.RowKit
set_option linter.unusedVariables false
set_option linter.unusedSimpArgs false

theorem Own.two {w : World} {B g : Nat} {A : Option Addr} {ws : List Nat} {u v : Value} (h : Own w B A ws) (hg : g < B) : Own ((w.setCell ⟨g, 0, none⟩ u).setCell ⟨g, 1, none⟩ v) B A ws :=
  (h.far (p := ⟨g, 0, none⟩) (.inl hg) u).far (p := ⟨g, 1, none⟩) (.inl hg) v
theorem Own.drewN {w : World} {B : Nat} {A : Option Addr} {ws : List Nat} (h : Own w B A ws) (n : Nat) : Own (w.drewN n) B A ws := h.later (below_drewN (Below.refl _ _) n)

section
variable {N : Int} {A : Option Addr} {ws : List Nat} {w : World} (cap : Nat) (a c : Int) (v : Bool)
end
end Go.Proofs.YtndaccekemjdmaaGreatDoor
