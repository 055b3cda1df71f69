/- What an argument of a law reads as: integers that came in. -/
import Derived.Test.YtkfmhghjgdeekaaOpenP
import Derived.Test.YtkfmhghjgdeekaaIRow
namespace Go.Proofs.Ytkfmhghjgdeekaa
open Go.ChangeShapes Go.WideShapes Go.ChangeAt Go.RowKit Go.Joins
set_option linter.unusedVariables false
set_option linter.unusedSimpArgs false

theorem bytes_int : Try.prog.bytesOf 3 = 8 := by kernel_rfl
section
variable {H : Type} {enc : TypeId × Value → H} {W : World}
theorem okWide_ints {r : Reach} {b0 : Nat} {v : Value} (hv : Value.okWide Try.prog W r b0 33 v) : v.cells.toList = [v] := by
  simp only [Value.okWide, Try.underlying33, Cell.okWide] at hv
  cases v <;> simp_all [Cell.ok, Value.cells]
/-- integers that came in -/
theorem open_ints_row {r : Reach} {b0 : Nat} {v : Value} {d : DataW H} {p : List MemPlace} (hv : Value.okWide Try.prog W r b0 33 v) (h : DataW.Trod enc Try.prog W 0 (fun _ => true) true 33 v d p) (hw : ∀ x ∈ d.weights Try.prog 33, x ≤ reachBytes) :
    ∃ (A : Option Addr) (cap : Nat) (xs : List Int), v = .slice A xs.length cap ∧ IRow W W.heap.size A xs ∧ xs.length ≤ 17592186044416 := by
  obtain ⟨fuel, hf⟩ := h
  rw [okWide_ints hv] at hf
  rcases open_ints Try.underlying33 Try.underlying3 cells_int hf with ⟨hcs, hx⟩ | ⟨a, l, c, zs, hcs, _, hl, hm, hz, hx, hcell, hwz⟩
  · injection hcs with hcs
    exact ⟨none, 0, [], hcs, IRow.nil _ _ _, Nat.zero_le _⟩
  · injection hcs with hcs
    simp only [if_true] at hz
    have hlen : (zs.take l).length = l := by rw [List.length_take]; omega
    refine ⟨some a, c, zs.take l, by rw [hlen]; exact hcs, ⟨fun x hx => ?_, fun h0 => ?_⟩, ?_⟩
    · have := bounds_i64 (hwz x (List.mem_of_mem_take hx))
      unfold I63
      omega
    · rw [hlen] at h0
      obtain ⟨b, off, spot⟩ := a
      have hc0 := hcell 0 (by omega)
      have hspot : spot = none := by simpa [Addr.add] using World.cell?_spot hc0
      subst hspot
      have hlt := World.block_lt_of_cell? W _ hc0
      refine ⟨b, off, rfl, by simpa [Addr.add] using hlt, fun i hi => ?_⟩
      rw [hlen] at hi
      have := hcell i (by omega)
      rw [add_form] at this
      rw [this]
      simp only [List.getD_eq_getElem?_getD, List.getElem?_take, hi, if_true]
    · rw [hlen]
      have hz2 : (lits .i64 (zs.take l) : List (DataW H)).length + (lits .i64 (zs.drop l) : List (DataW H)).length = zs.length := by
        simp [lits]; omega
      have := hw (((lits .i64 (zs.take l) : List (DataW H)).length + (lits .i64 (zs.drop l) : List (DataW H)).length) * Try.prog.bytesOf 3) (by rw [show d = _ from congrArg Prod.fst hx]; simp [DataW.weights, Try.underlying33])
      rw [hz2, bytes_int] at this
      simp only [reachBytes] at this
      omega
end
end Go.Proofs.Ytkfmhghjgdeekaa
