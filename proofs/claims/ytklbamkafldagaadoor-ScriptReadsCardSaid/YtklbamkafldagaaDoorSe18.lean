/- Sets of events: what they read as; contracts of package script: Steps. -/
import Derived.Test.YtklbamkafldagaaDoorSe17
import Derived.DeepKeys4
namespace Go.Proofs.YtklbamkafldagaaDoor
open Go.RowKit
set_option linter.unusedVariables false
set_option linter.unusedSimpArgs false

/-- an event whose numbers are of their kinds -/
structure WfE (e : Ev) : Prop where
  who : (Lit.int .i64 e.who).wf = true
  k : (Lit.int .u8 e.k).wf = true
  tw : (Lit.int .i64 e.tw).wf = true
  n : (Lit.int .i64 e.n).wf = true
theorem WfE.one {e : Ev} (h : WfE e) : WfE (one e) := ⟨h.who, h.k, h.tw, (by decide : (Lit.int .i64 1).wf = true)⟩
theorem sgl_wf : ∀ e ∈ sgl, WfE e := by
  intro e he
  have : ∀ e ∈ sgl, (Lit.int .i64 e.who).wf = true ∧ (Lit.int .u8 e.k).wf = true ∧ (Lit.int .i64 e.tw).wf = true ∧ (Lit.int .i64 e.n).wf = true := by decide +kernel
  obtain ⟨h1, h2, h3, h4⟩ := this e he
  exact ⟨h1, h2, h3, h4⟩
theorem okE_wf1 {e : Ev} (h : okE e = true) : WfE (one e) := sgl_wf _ ((okE_iff e).1 h).2.2
theorem ekey : Maps.Keyed Tryd.prog 41 := Maps.Keyed.of_law (deep_law_laid (m := 4) (by kernel_rfl) (by decide) (of_decide_eq_true (by kernel_rfl)) (by kernel_rfl) (by kernel_rfl))
theorem keyTask (D : Nat) (k t : Int) (hk : (Lit.int .u8 k).wf = true) (ht : (Lit.int .i64 t).wf = true) : Tryd.prog.keyLits (D + 2) 39 [.int .u8 k, .int .i64 t] = some [.int .u8 k, .int .i64 t] := by
  have hc : Tryd.prog.cellsOf 39 = 2 := by kernel_rfl
  have hck : Tryd.prog.cellsOf 37 = 1 := by kernel_rfl
  have hci : Tryd.prog.cellsOf 3 = 1 := by kernel_rfl
  simp [Program.keyLits, Tryd.underlying39, Tryd.underlying37, Tryd.underlying3, hc, hck, hci, hk, ht]
theorem keyEv {e : Ev} (h : WfE e) : ∃ kl, keyOf Tryd.prog 41 (evv e) = some kl := by
  obtain ⟨h1, h2, h3, h4⟩ := h
  obtain ⟨a, b, c, d, n⟩ := e
  simp only at h1 h2 h3 h4
  have hT : Tryd.prog.keyType 41 = true := by kernel_rfl
  have hc : Tryd.prog.cellsOf 41 = 5 := by kernel_rfl
  have hct : Tryd.prog.cellsOf 39 = 2 := by kernel_rfl
  have hcb : Tryd.prog.cellsOf 4 = 1 := by kernel_rfl
  have hci : Tryd.prog.cellsOf 3 = 1 := by kernel_rfl
  have hf : (evv ⟨a, b, c, d, n⟩).formed Tryd.prog 41 = true := by simp [Value.formed, Tryd.underlying41, evv, hc]
  obtain ⟨D, hD⟩ : ∃ D : Nat, Tryd.prog.types.size + 1 = D + 3 := ⟨Tryd.prog.types.size - 2, by
    have : 2 ≤ Tryd.prog.types.size := of_decide_eq_true (by kernel_rfl)
    omega⟩
  have hkt := keyTask D c d h2 h3
  have kb : Tryd.prog.keyLits (D + 2) 4 [.bool a] = some [.bool a] := by simp [Program.keyLits, Tryd.underlying4]
  have ki : ∀ x, (Lit.int .i64 x).wf = true → Tryd.prog.keyLits (D + 2) 3 [.int .i64 x] = some [.int .i64 x] := fun x hx => by simp [Program.keyLits, Tryd.underlying3, hx]
  have kb1 := ki b h1
  have kn1 := ki n h4
  clear ki
  unfold keyOf
  simp only [Tryd.underlying41]
  rw [hT, hf, hD, show D + 3 = (D + 2) + 1 from rfl]
  clear hD
  generalize D + 2 = F at *
  simp [Program.keyLits, Tryd.underlying41, hc, hct, hcb, hci, evv, Value.cells, kb, kb1, kn1, hkt]
end Go.Proofs.YtklbamkafldagaaDoor
