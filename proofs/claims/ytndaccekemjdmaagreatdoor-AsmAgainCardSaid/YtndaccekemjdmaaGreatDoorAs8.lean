/- Two instructions are one, or not. -/
import Derived.Test.YtndaccekemjdmaaGreatDoorAs7
import Derived.Laws.StructEq
namespace Go.Proofs.YtndaccekemjdmaaGreatDoor
open Go.RowKit Go.Lib
set_option linter.unusedVariables false
set_option linter.unusedSimpArgs false
set_option maxRecDepth 100000
theorem eqShape (d : Nat) (W : World) (n m n' m' : Int) : (Op.equalIn (d + 2) 33 (.agg #[.int .i64 n, .int .u64 m]) (.agg #[.int .i64 n', .int .u64 m'])).run Tryz.prog W = .ok (decide (n = n' ∧ m = m')) W := by
  have hS2 : Tryz.prog.underlying 33 = some (.struct (Tryz.prog.fieldsOf 33)) := by kernel_rfl
  have hp2 : Tryz.prog.stoodInHeld 33 = false := by kernel_rfl
  have u0 := Tryz.underlying3
  have a0 := Tryz.isAgg3
  have z0 := Tryz.sizeOf3
  have u1 := Tryz.underlying31
  have a1 := Tryz.isAgg31
  have z1 := Tryz.sizeOf31
  rw [run_equalIn_agg W (d + 1) 33 _ _ hS2 hp2]
  simp only [Program.fieldsOf, Tryz.underlying33]
  go_simp
  by_cases h_n : n = n'
  case neg => simp [h_n]
  by_cases h_m : m = m'
  case neg => simp [h_n, h_m]
  simp [h_n, h_m]
theorem eqOp (d : Nat) (W : World) (op oa ob fd n m w op' oa' ob' fd' n' m' w' : Int) : (Op.equalIn (d + 3) 35 (.agg #[.int .u8 op, .int .i64 oa, .int .i64 ob, .int .i64 fd, .int .i64 n, .int .u64 m, .int .u64 w]) (.agg #[.int .u8 op', .int .i64 oa', .int .i64 ob', .int .i64 fd', .int .i64 n', .int .u64 m', .int .u64 w'])).run Tryz.prog W = .ok (decide (op = op' ∧ oa = oa' ∧ ob = ob' ∧ fd = fd' ∧ n = n' ∧ m = m' ∧ w = w')) W := by
  have hS2 : Tryz.prog.underlying 35 = some (.struct (Tryz.prog.fieldsOf 35)) := by kernel_rfl
  have hp2 : Tryz.prog.stoodInHeld 35 = false := by kernel_rfl
  have u0 := Tryz.underlying30
  have a0 := Tryz.isAgg30
  have z0 := Tryz.sizeOf30
  have u1 := Tryz.underlying3
  have a1 := Tryz.isAgg3
  have z1 := Tryz.sizeOf3
  have u2 := Tryz.underlying31
  have a2 := Tryz.isAgg31
  have z2 := Tryz.sizeOf31
  have a3 := Tryz.isAgg33
  have z3 := Tryz.sizeOf33
  have H3 := eqShape d
  rw [run_equalIn_agg W (d + 2) 35 _ _ hS2 hp2]
  simp only [Program.fieldsOf, Tryz.underlying35]
  go_simp
  by_cases h_op : op = op'
  case neg => simp [h_op]
  by_cases h_oa : oa = oa'
  case neg => simp [h_op, h_oa]
  by_cases h_ob : ob = ob'
  case neg => simp [h_op, h_oa, h_ob]
  by_cases h_fd : fd = fd'
  case neg => simp [h_op, h_oa, h_ob, h_fd]
  by_cases h_n : n = n'
  case neg => simp [h_op, h_oa, h_ob, h_fd, h_n]
  by_cases h_m : m = m'
  case neg => simp [h_op, h_oa, h_ob, h_fd, h_n, h_m]
  by_cases h_w : w = w'
  case neg => simp [h_op, h_oa, h_ob, h_fd, h_n, h_m, h_w]
  simp [h_op, h_oa, h_ob, h_fd, h_n, h_m, h_w]
theorem eqInstr (d : Nat) (W : World) (kd op oa ob fd n m w a b to kd' op' oa' ob' fd' n' m' w' a' b' to' : Int) : (Op.equalIn (d + 4) 37 (.agg #[.int .u8 kd, .int .u8 op, .int .i64 oa, .int .i64 ob, .int .i64 fd, .int .i64 n, .int .u64 m, .int .u64 w, .int .i64 a, .int .i64 b, .int .i64 to]) (.agg #[.int .u8 kd', .int .u8 op', .int .i64 oa', .int .i64 ob', .int .i64 fd', .int .i64 n', .int .u64 m', .int .u64 w', .int .i64 a', .int .i64 b', .int .i64 to'])).run Tryz.prog W = .ok (decide (kd = kd' ∧ op = op' ∧ oa = oa' ∧ ob = ob' ∧ fd = fd' ∧ n = n' ∧ m = m' ∧ w = w' ∧ a = a' ∧ b = b' ∧ to = to')) W := by
  have hS2 : Tryz.prog.underlying 37 = some (.struct (Tryz.prog.fieldsOf 37)) := by kernel_rfl
  have hp2 : Tryz.prog.stoodInHeld 37 = false := by kernel_rfl
  have u0 := Tryz.underlying29
  have a0 := Tryz.isAgg29
  have z0 := Tryz.sizeOf29
  have u1 := Tryz.underlying3
  have a1 := Tryz.isAgg3
  have z1 := Tryz.sizeOf3
  have a2 := Tryz.isAgg35
  have z2 := Tryz.sizeOf35
  have H2 := eqOp d
  rw [run_equalIn_agg W (d + 3) 37 _ _ hS2 hp2]
  simp only [Program.fieldsOf, Tryz.underlying37]
  go_simp
  by_cases h_kd : kd = kd'
  case neg => simp [h_kd]
  by_cases h_op : op = op'
  case neg => simp [h_kd, h_op]
  by_cases h_oa : oa = oa'
  case neg => simp [h_kd, h_op, h_oa]
  by_cases h_ob : ob = ob'
  case neg => simp [h_kd, h_op, h_oa, h_ob]
  by_cases h_fd : fd = fd'
  case neg => simp [h_kd, h_op, h_oa, h_ob, h_fd]
  by_cases h_n : n = n'
  case neg => simp [h_kd, h_op, h_oa, h_ob, h_fd, h_n]
  by_cases h_m : m = m'
  case neg => simp [h_kd, h_op, h_oa, h_ob, h_fd, h_n, h_m]
  by_cases h_w : w = w'
  case neg => simp [h_kd, h_op, h_oa, h_ob, h_fd, h_n, h_m, h_w]
  by_cases h_a : a = a'
  case neg => simp [h_kd, h_op, h_oa, h_ob, h_fd, h_n, h_m, h_w, h_a]
  by_cases h_b : b = b'
  case neg => simp [h_kd, h_op, h_oa, h_ob, h_fd, h_n, h_m, h_w, h_a, h_b]
  by_cases h_to : to = to'
  case neg => simp [h_kd, h_op, h_oa, h_ob, h_fd, h_n, h_m, h_w, h_a, h_b, h_to]
  simp [h_kd, h_op, h_oa, h_ob, h_fd, h_n, h_m, h_w, h_a, h_b, h_to]
theorem eqlI (x y : In) (W : World) (r : Bool) (hr : r = true ↔ x = y) : (binOp .eql 37 (inv x) (inv y)).run Tryz.prog W = .ok (.bool r) W := by
  unfold inv
  rw [run_eql_struct]
  have h := eqInstr 9996 W x.kd x.op x.oa x.ob x.fd x.n x.m x.w x.a x.b x.to y.kd y.op y.oa y.ob y.fd y.n y.m y.w y.a y.b y.to
  have e : decide (x.kd = y.kd ∧ x.op = y.op ∧ x.oa = y.oa ∧ x.ob = y.ob ∧ x.fd = y.fd ∧ x.n = y.n ∧ (x.m : Int) = y.m ∧ (x.w : Int) = y.w ∧ x.a = y.a ∧ x.b = y.b ∧ x.to = y.to) = r := by
    rw [In.ext_iff11] at hr
    have hm : ((x.m : Int) = y.m) ↔ x.m = y.m := by omega
    have hw : ((x.w : Int) = y.w) ↔ x.w = y.w := by omega
    simp only [hm, hw]
    cases r
    · simpa using hr
    · simpa using hr
  rw [e] at h
  simp only [Sem.run_bind, h]
  first | rfl | (simp [Sem.run_pure]; done) | (rw [h]; rfl)
theorem eq_guard : Tryz.prog.eqGuardType Tryz.prog.depth 37 = false := by kernel_rfl
end Go.Proofs.YtndaccekemjdmaaGreatDoor
