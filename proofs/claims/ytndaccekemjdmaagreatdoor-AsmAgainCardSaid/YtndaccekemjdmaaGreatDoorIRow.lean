/- Rows of integers that lie in memory, and rows of them that a call has made for itself. -/
import Derived.Test.YtndaccekemjdmaaGreatDoorAgree
import Derived.Deep.AppendLies
namespace Go.Proofs.YtndaccekemjdmaaGreatDoor
open Go.RowKit
set_option linter.unusedVariables false
set_option linter.unusedSimpArgs false

def I63 (x : Int) : Prop := -9223372036854775808 ≤ x ∧ x ≤ 9223372036854775807
/-- the slice at A holds the integers xs, in a block ahead of B -/
structure IRow (w : World) (B : Nat) (A : Option Addr) (xs : List Int) : Prop where
  in_ : ∀ x ∈ xs, I63 x
  at_ : 0 < xs.length → ∃ b off, A = some ⟨b, off, none⟩ ∧ b < B ∧ ∀ i, i < xs.length → w.cell? ⟨b, off + i, none⟩ = some (.int .i64 (xs.getD i 0))
theorem IRow.keep {w w' : World} {B : Nat} {A : Option Addr} {xs : List Int} (h : IRow w B A xs) (hk : ∀ b o, b < B → w'.cell? ⟨b, o, none⟩ = w.cell? ⟨b, o, none⟩) : IRow w' B A xs :=
  ⟨h.in_, fun hl => by
    obtain ⟨b, off, e, hb, hc⟩ := h.at_ hl
    exact ⟨b, off, e, hb, fun i hi => (hk _ _ hb).trans (hc i hi)⟩⟩
theorem IRow.more {w : World} {B B' : Nat} {A : Option Addr} {xs : List Int} (h : IRow w B A xs) (hB : B ≤ B') : IRow w B' A xs :=
  ⟨h.in_, fun hl => by
    obtain ⟨b, off, e, hb, hc⟩ := h.at_ hl
    exact ⟨b, off, e, by omega, hc⟩⟩
theorem IRow.later {w w' : World} {A : Option Addr} {xs : List Int} (h : IRow w w.heap.size A xs) (hb : Below w.heap.size w w') : IRow w' w'.heap.size A xs :=
  (h.keep fun b o hlt => hb.cell (p := ⟨b, o, none⟩) hlt).more hb.size
theorem IRow.nil (w : World) (B : Nat) (A : Option Addr) : IRow w B A [] := ⟨fun x hx => by simp at hx, fun h => by simp at h⟩
theorem IRow.get {w : World} {B : Nat} {A : Option Addr} {xs : List Int} (h : IRow w B A xs) (i : Nat) : I63 (xs.getD i 0) := by
  by_cases hi : i < xs.length
  · rw [List.getD_eq_getElem?_getD, List.getElem?_eq_getElem hi]
    exact h.in_ _ (List.getElem_mem hi)
  · rw [List.getD_eq_getElem?_getD, List.getElem?_eq_none (by omega)]
    unfold I63; simp
def ivals (xs : List Int) : List Value := xs.map fun (x : Int) => Value.int .i64 x
theorem length_ivals (xs : List Int) : (ivals xs).length = xs.length := by simp [ivals]
theorem ivals_at (xs : List Int) (i : Nat) (h : i < xs.length) : (ivals xs)[i]? = some (.int .i64 (xs.getD i 0)) := by
  simp [ivals, h]
theorem ivals_one (xs : List Int) : ∀ v ∈ ivals xs, v.oneCell' = true := by
  intro v hv
  simp only [ivals, List.mem_map] at hv
  obtain ⟨x, _, rfl⟩ := hv
  rfl
theorem IRow.src {w w' : World} {b off : Nat} {xs : List Int} (h : IRow w w.heap.size (some ⟨b, off, none⟩) xs) (hb : Below w.heap.size w w') (j : Nat) (v : Value) (hv : (ivals xs)[j]? = some v) : w'.cell? ((⟨b, off, none⟩ : Addr).add j) = some v := by
  have hj : j < xs.length := by
    have := (List.getElem?_eq_some_iff.1 hv).1
    rwa [length_ivals] at this
  obtain ⟨b', off', e, _, hc⟩ := (h.later hb).at_ (by omega)
  injection e with e
  injection e with e1 e2
  subst e1 e2
  rw [ivals_at xs j hj] at hv
  injection hv with hv
  subst hv
  rw [add_form]
  exact hc j hj
theorem info_int : (Tryz.prog.info? 3).map (fun i => (i.zero, i.size, i.bytes)) = some (some (.int .i64 0), 1, 8) := by kernel_rfl
/-- a row of a call's own -/
theorem IRow.of_owns {w : World} {B g cap : Nat} {xs : List Int} (h : w.ownsRow B 3 1 (.slice (some ⟨g, 0, none⟩) xs.length cap) xs.length (ivals xs)) (hw : ∀ x ∈ xs, I63 x) : IRow w w.heap.size (some ⟨g, 0, none⟩) xs :=
  ⟨hw, fun hl => ⟨g, 0, rfl, (h.lt g rfl).2, fun i hi => by rw [Nat.zero_add, h.cellAt i (by omega), ivals_at xs i hi]⟩⟩
theorem own_empty_int (w w' : World) (h : w'.heap = (w.alloc (.cells #[] 3)).heap) : w'.ownsRow w.heap.size 3 1 (.slice (some ⟨w.heap.size, 0, none⟩) 0 0) 0 [] :=
  ⟨rfl, .inr ⟨w.heap.size, 0, #[], rfl, Nat.le_refl _, by rw [h]; exact heap_alloc_new _ _, Nat.le_refl _, Nat.zero_le _, rfl, rfl⟩⟩
theorem ibase_of_owns {w : World} {B t s n cap g : Nat} {xs : List Value} (h : w.ownsRow B t s (.slice (some ⟨g, 0, none⟩) n cap) n xs) : B ≤ g := by
  obtain ⟨_, ⟨h1, h2⟩ | ⟨g', cap', cur, e, h2, _, h3, _⟩⟩ := h
  · injection h1 with h1; cases h1
  · injection e with e1 e2 e3
    injection e1 with e1
    injection e1 with e1
    omega
theorem icap_of_owns {w : World} {B t s n cap g : Nat} {xs : List Value} (h : w.ownsRow B t s (.slice (some ⟨g, 0, none⟩) n cap) n xs) : n ≤ cap := by
  obtain ⟨_, ⟨h1, h2⟩ | ⟨g', cap', cur, e, _, _, h3, _⟩⟩ := h
  · injection h1 with h1; cases h1
  · injection e with e1 e2 e3
    omega
end Go.Proofs.YtndaccekemjdmaaGreatDoor
