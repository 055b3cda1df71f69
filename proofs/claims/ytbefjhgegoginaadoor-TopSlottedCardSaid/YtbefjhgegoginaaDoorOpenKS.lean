/- What an argument of a law reads as: a shape that came in (beside the table that start-up laid). -/
import Derived.Test.YtbefjhgegoginaaDoorOpenK
namespace Go.Proofs.YtbefjhgegoginaaDoor
open Go.ChangeShapes Go.WideShapes Go.ChangeAt Go.RowKit Go.Joins
set_option linter.unusedVariables false
set_option linter.unusedSimpArgs false

theorem cells_shape : Tryd.prog.cellsOf 24 = 2 := by kernel_rfl
section
variable {H : Type} {enc : TypeId × Value → H} {W : World}
/-- a shape that came in -/
theorem open_shape {r : Reach} {b0 : Nat} {v : Value} {d : DataW H} {p : List MemPlace} (hv : Value.okWide Tryd.prog W r b0 24 v) (h : DataW.Trod enc Tryd.prog W 0 (fun _ => true) true 24 v d p) :
    ∃ (n : Int) (m : Nat), v = .agg #[.int .i64 n, .int .u64 (m : Nat)] ∧ m < W64 ∧ (-9223372036854775808 ≤ n ∧ n ≤ 9223372036854775807) := by
  obtain ⟨c0, c1, y0, y1, k, rfl, rfl, rfl, hy0, hy1⟩ := open_agg2 Tryd.underlying24 (by kernel_rfl) cells_shape hv h
  obtain ⟨n, e0, _, w0⟩ := DataW.trod_int Tryd.underlying3 hy0
  injection e0 with e0
  subst e0
  obtain ⟨m, e1, _, w1⟩ := DataW.trod_int Tryd.underlying22 hy1
  injection e1 with e1
  subst e1
  have b0 := bounds_i64 w0
  have b1 := bounds_u64 w1
  obtain ⟨m, rfl⟩ := Int.eq_ofNat_of_zero_le b1.1
  exact ⟨n, m, rfl, by unfold W64; omega, b0⟩
end
end Go.Proofs.YtbefjhgegoginaaDoor
