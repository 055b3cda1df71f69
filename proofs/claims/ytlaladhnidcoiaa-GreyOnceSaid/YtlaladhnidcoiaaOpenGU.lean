/- What an argument of a law reads as: small numbers that came in. -/
import Derived.Test.YtlaladhnidcoiaaOpenG
import Derived.Test.YtlaladhnidcoiaaG21
namespace Go.Proofs.Ytlaladhnidcoiaa
open Go.ChangeShapes Go.WideShapes Go.ChangeAt Go.RowKit Go.Joins
set_option linter.unusedVariables false
set_option linter.unusedSimpArgs false

theorem bytes_u8 : Try.prog.bytesOf 5 = 1 := by kernel_rfl
theorem cells_u8 : Try.prog.cellsOf 5 = 1 := by kernel_rfl
theorem bounds_u8_ {n : Int} (h : (Lit.int .u8 n).wf = true) : 0 ≤ n ∧ n ≤ 255 := by
  simp [Lit.wf, IntKind.min, IntKind.max, IntKind.signed, IntKind.bits] at h
  omega
section
variable {H : Type} {enc : TypeId × Value → H} {W : World}
theorem okWide_u8s {r : Reach} {b0 : Nat} {v : Value} (hv : Value.okWide Try.prog W r b0 41 v) : v.cells.toList = [v] := by
  simp only [Value.okWide, Try.underlying41, Cell.okWide] at hv
  cases v <;> simp_all [Cell.ok, Value.cells]
theorem small_of {zs : List Int} (h : ∀ n ∈ zs, (Lit.int .u8 n).wf = true) (len : Nat) (hl : len ≤ zs.length) :
    ((zs.take len).map Int.toNat).length = len ∧ (∀ x ∈ (zs.take len).map Int.toNat, x < 256) ∧ ∀ i, i < len → ((((zs.take len).map Int.toNat).getD i 0 : Nat) : Int) = zs.getD i 0 := by
  have hb : ∀ n ∈ zs, 0 ≤ n ∧ n ≤ 255 := fun n hn => bounds_u8_ (h n hn)
  refine ⟨by rw [List.length_map, List.length_take]; omega, fun x hx => ?_, fun i hi => ?_⟩
  · rw [List.mem_map] at hx
    obtain ⟨y, hy, rfl⟩ := hx
    have := hb y (List.mem_of_mem_take hy)
    omega
  · have hz : i < zs.length := by omega
    have := hb zs[i] (List.getElem_mem hz)
    simp only [List.getD_eq_getElem?_getD, List.getElem?_map, List.getElem?_take, hi, if_true, List.getElem?_eq_getElem hz, Option.map_some, Option.getD_some]
    omega
/-- small numbers that came in -/
theorem open_u8s_row {r : Reach} {b0 : Nat} {v : Value} {d : DataW H} {p : List MemPlace} (hv : Value.okWide Try.prog W r b0 41 v) (h : DataW.Trod enc Try.prog W 0 (fun _ => true) true 41 v d p) (hw : ∀ x ∈ d.weights Try.prog 41, x ≤ reachBytes) :
    ∃ (A : Option Addr) (cap : Nat) (xs : List Nat), v = .slice A xs.length cap ∧ URow W W.heap.size A xs ∧ xs.length ≤ 140737488355328 := by
  obtain ⟨fuel, hf⟩ := h
  rw [okWide_u8s hv] at hf
  rcases open_ints Try.underlying41 Try.underlying5 cells_u8 hf with ⟨hcs, hx⟩ | ⟨a, l, c, zs, hcs, _, hl, hm, hz, hx, hcell, hwz⟩
  · injection hcs with hcs
    exact ⟨none, 0, [], hcs, ⟨fun x hx => by simp at hx, fun h => by simp at h⟩, Nat.zero_le _⟩
  · injection hcs with hcs
    simp only [if_true] at hz
    obtain ⟨g1, g2, g3⟩ := small_of hwz l (by omega)
    refine ⟨some a, c, (zs.take l).map Int.toNat, by rw [g1]; exact hcs, ⟨g2, fun h0 => ?_⟩, ?_⟩
    · rw [g1] at h0
      obtain ⟨b, off, spot⟩ := a
      have hc0 := hcell 0 (by omega)
      have hspot : spot = none := by simpa [Addr.add] using World.cell?_spot hc0
      subst hspot
      have hlt := World.block_lt_of_cell? W _ hc0
      refine ⟨b, off, rfl, by simpa [Addr.add] using hlt, fun i hi => ?_⟩
      rw [g1] at hi
      have := hcell i (by omega)
      rw [add_form] at this
      rw [this, g3 i hi]
    · rw [g1]
      have hz2 : (lits .u8 (zs.take l) : List (DataW H)).length + (lits .u8 (zs.drop l) : List (DataW H)).length = zs.length := by
        simp [lits]; omega
      have := hw (((lits .u8 (zs.take l) : List (DataW H)).length + (lits .u8 (zs.drop l) : List (DataW H)).length) * Try.prog.bytesOf 5) (by rw [show d = _ from congrArg Prod.fst hx]; simp [DataW.weights, Try.underlying41])
      rw [hz2, bytes_u8] at this
      simp only [reachBytes] at this
      omega
end
end Go.Proofs.Ytlaladhnidcoiaa
