/- What an argument of a law reads as: a shape that came in; the walks of layer 6 over what came in. -/
import Derived.Test.YtkfmhghjgdeekaaOpenI
import Derived.Test.YtkfmhghjgdeekaaJ8
namespace Go.Proofs.Ytkfmhghjgdeekaa
open Go.ChangeShapes Go.WideShapes Go.ChangeAt Go.RowKit Go.Joins
set_option linter.unusedVariables false
set_option linter.unusedSimpArgs false

theorem cells_shape : Try.prog.cellsOf 24 = 2 := by kernel_rfl
section
variable {H : Type} {enc : TypeId × Value → H} {W : World}
/-- a shape that came in -/
theorem open_shape {r : Reach} {b0 : Nat} {v : Value} {d : DataW H} {p : List MemPlace} (hv : Value.okWide Try.prog W r b0 24 v) (h : DataW.Trod enc Try.prog W 0 (fun _ => true) true 24 v d p) :
    ∃ (n : Int) (m : Nat), v = .agg #[.int .i64 n, .int .u64 (m : Nat)] ∧ m < W64 ∧ I63 n := by
  obtain ⟨c0, c1, y0, y1, k, rfl, rfl, rfl, hy0, hy1⟩ := open_agg2 Try.underlying24 (by kernel_rfl) cells_shape hv h
  obtain ⟨n, e0, _, w0⟩ := DataW.trod_int Try.underlying3 hy0
  injection e0 with e0
  subst e0
  obtain ⟨m, e1, _, w1⟩ := DataW.trod_int Try.underlying22 hy1
  injection e1 with e1
  subst e1
  have b0 := bounds_i64 w0
  have b1 := bounds_u64 w1
  obtain ⟨m, rfl⟩ := Int.eq_ofNat_of_zero_le b1.1
  exact ⟨n, m, rfl, by unfold W64; omega, by unfold I63; omega⟩
end
section
variable (n : Int) (m : Nat) (hm : m < W64) (w : World)
include hm
theorem headCodes_walkI (x : Int) (hx : 0 ≤ x ∧ x ≤ 18446744073709551615) :
    Calls Try.prog 3 #[.agg #[.int .i64 n, .int .u64 (m : Nat)], .int .u64 x] w fun e w' => e = .returned (.bool true) ∧ Below w.heap.size w w' := by
  obtain ⟨x, rfl⟩ := Int.eq_ofNat_of_zero_le hx.1
  exact headCodes_walk n m hm x (by unfold W64; omega) w
theorem headPlain_walkI (x : Int) (hx : 0 ≤ x ∧ x ≤ 18446744073709551615) :
    Calls Try.prog 8 #[.agg #[.int .i64 n, .int .u64 (m : Nat)], .int .u64 x] w fun e w' => e = .returned (.bool true) ∧ Below w.heap.size w w' := by
  obtain ⟨x, rfl⟩ := Int.eq_ofNat_of_zero_le hx.1
  exact headPlain_walk n m hm x (by unfold W64; omega) w
theorem headBack_walkI (n2 : Int) (m2 : Nat) (hm2 : m2 < W64) (x : Int) (hx : 0 ≤ x ∧ x ≤ 18446744073709551615) :
    Calls Try.prog 5 #[.agg #[.int .i64 n, .int .u64 (m : Nat)], .agg #[.int .i64 n2, .int .u64 (m2 : Nat)], .int .u64 x] w fun e w' => e = .returned (.bool true) ∧ Below w.heap.size w w' := by
  obtain ⟨x, rfl⟩ := Int.eq_ofNat_of_zero_le hx.1
  exact headBack_walk n m hm n2 m2 hm2 x (by unfold W64; omega) w
theorem headEach_walkI (f : Int) (hf : -9223372036854775808 ≤ f ∧ f ≤ 9223372036854775807) :
    Calls Try.prog 7 #[.agg #[.int .i64 n, .int .u64 (m : Nat)], .int .i64 f] w fun e w' => e = .returned (.bool true) ∧ Below w.heap.size w w' :=
  headEach_walk n m hm f hf w
end
end Go.Proofs.Ytkfmhghjgdeekaa
