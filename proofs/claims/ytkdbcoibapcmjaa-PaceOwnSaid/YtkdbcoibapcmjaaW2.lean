/- Contracts: slices.Index, slices.Contains of words; a handle in a table, the code's and the document's. -/
import Derived.Test.YtkdbcoibapcmjaaW1
namespace Go.Proofs.Ytkdbcoibapcmjaa
open Go.RowKit
set_option linter.unusedVariables false
set_option linter.unusedSimpArgs false

theorem Row.cellAt {w : World} {B : Nat} {A : Option Addr} {ws : List Nat} (h : Row w B A ws) {k : Nat} (hk : k < ws.length) : ∃ b off, A = some ⟨b, off, none⟩ ∧ b < B ∧ w.cell? ⟨b, off + k, none⟩ = some (.int .u64 (ws.getD k 0 : Nat)) := by
  obtain ⟨b, off, e, hb, hc⟩ := h.at_ (by omega)
  exact ⟨b, off, e, hb, hc k hk⟩
theorem Row.take {w : World} {B : Nat} {A : Option Addr} {ws : List Nat} (h : Row w B A ws) (k : Nat) : Row w B A (ws.take k) :=
  ⟨fun x hx => h.words x (List.mem_of_mem_take hx), fun hl => by
    rw [List.length_take] at hl
    obtain ⟨b, off, e, hb, hc⟩ := h.at_ (by omega)
    refine ⟨b, off, e, hb, fun i hi => ?_⟩
    rw [List.length_take] at hi
    rw [getD_take _ _ _ (by omega)]
    exact hc i (by omega)⟩
/-- what slices.Index says -/
def ixI (t : List Nat) (a : Nat) : Int := if ixN t a < t.length then (ixN t a : Nat) else -1
section
variable {w : World} {A : Option Addr} {us : List Nat} {L : Nat} (cap : Nat)
theorem ixI_mem (us : List Nat) (a : Nat) : (0 ≤ ixI us a) ↔ a ∈ us := by
  unfold ixI
  split
  · rename_i h
    obtain ⟨g1, _⟩ := ixN_get h
    constructor
    · intro _
      rw [List.getD_eq_getElem?_getD, List.getElem?_eq_getElem h] at g1
      simp only [Option.getD_some] at g1
      rw [← g1]
      exact List.getElem_mem h
    · intro _; omega
  · rename_i h
    have hn := ixN_no h
    constructor
    · intro h2; omega
    · intro hm
      obtain ⟨i, hi, e⟩ := List.getElem_of_mem hm
      exact absurd (by rw [List.getD_eq_getElem?_getD, List.getElem?_eq_getElem hi]; exact e) (hn i hi)
end
end Go.Proofs.Ytkdbcoibapcmjaa
