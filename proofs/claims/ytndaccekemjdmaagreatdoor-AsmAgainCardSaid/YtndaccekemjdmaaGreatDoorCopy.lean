/- Contracts: a copy of bits, as the document's own answers make it; one bit of them changed. -/
import Derived.Test.YtndaccekemjdmaaGreatDoorGet
import Derived.Deep.AppendLies
namespace Go.Proofs.YtndaccekemjdmaaGreatDoor
open Go.RowKit
set_option linter.unusedVariables false
set_option linter.unusedSimpArgs false

/-- bits of a call's own -/
def Copied (w : World) (n : Int) (ws : List Nat) (e : Ending) (w' : World) : Prop :=
  ∃ A cap, e = .returned (.agg #[.int .i64 n, .slice A ws.length cap]) ∧ Own w' w.heap.size A ws ∧ Below w.heap.size w w'

theorem Own.put {w : World} {B g : Nat} {A : Option Addr} {ws : List Nat} (h : Own w B A ws) {i : Int} (v : Bool) (hA : A = some ⟨g, 0, none⟩) (h0 : 0 ≤ i) (hi : i < 64 * ws.length) {x : Nat} (hx : ws.getD (i / 64).toNat 0 = x) :
    Own (w.setCell ⟨g, (i / 64).toNat, none⟩ (.int .u64 (setBit x (i % 64).toNat v : Nat))) B A (putW ws i.toNat v) := by
  have := h.set_ hA (i := (i / 64).toNat) (x := setBit x (i % 64).toNat v) (by omega) (setBit_lt _ _ _ (by rw [← hx]; exact h.words.at_ _) (by omega))
  unfold putW
  rw [show i.toNat / 64 = (i / 64).toNat by omega, show i.toNat % 64 = (i % 64).toNat by omega, hx]
  exact this
theorem putW_same (ws : List Nat) (hw : Words ws) (i : Nat) (v : Bool) (hi : i < 64 * ws.length) (h : (!(tb ws i == v)) = false) : putW ws i v = ws := by
  unfold putW
  have := setBit_same (ws.getD (i / 64) 0) (i % 64) v (hw.at_ _) (Nat.mod_lt _ (by omega)) h
  rw [← this]
  apply List.ext_getElem (by simp)
  intro k h1 h2
  rw [List.getElem_set]
  split
  · rename_i e
    subst e
    rw [List.getD_eq_getElem?_getD, List.getElem?_eq_getElem h2]
    rfl
  · rfl

end Go.Proofs.YtndaccekemjdmaaGreatDoor
