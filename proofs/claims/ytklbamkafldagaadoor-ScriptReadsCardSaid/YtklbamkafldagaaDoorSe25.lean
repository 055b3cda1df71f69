/- Contracts of the document's package: right. -/
import Derived.Test.YtklbamkafldagaaDoorSe24
namespace Go.Proofs.YtklbamkafldagaaDoor
open Go.RowKit
set_option linter.unusedVariables false
set_option linter.unusedSimpArgs false
theorem okE_thr (a b c d : Int) : okE ⟨true, a, b, c, d⟩ = true ↔ (1 ≤ d ∧ d ≤ 4096 ∧ 0 ≤ a ∧ a < 4 ∧ b = 0 ∧ c = 0) := by
  rw [okE_iff]
  unfold sgl thr tk one
  simp only [List.mem_cons, Ev.mk.injEq, List.not_mem_nil, or_false, true_and, false_and, and_true, reduceCtorEq, false_or]
  omega
theorem okE_tsk (a b c d : Int) : okE ⟨false, a, b, c, d⟩ = true ↔ (1 ≤ d ∧ d ≤ 4096 ∧ a = 0 ∧ ((b = 2 ∨ b = 3) ∧ 0 ≤ c ∧ c < 4 ∨ (b = 1 ∨ b = 4 ∨ b = 5 ∨ b = 6) ∧ c = 0)) := by
  rw [okE_iff]
  unfold sgl thr tk one
  simp only [List.mem_cons, Ev.mk.injEq, List.not_mem_nil, or_false, true_and, false_and, and_true, reduceCtorEq, false_or]
  omega
theorem eqlTask (a b : Int) (w : World) (r : Bool) (hr : r = true ↔ (a = 0 ∧ b = 0)) : (binOp .eql 39 (.agg #[.int .u8 a, .int .i64 b]) (.agg #[.int .u8 0, .int .i64 0])).run Tryd.prog w = .ok (.bool r) w := by
  rw [run_eql_struct]
  have h := eqTask 9998 w a b 0 0
  have e : decide (a = 0 ∧ b = 0) = r := by
    cases r
    · simpa using hr
    · simpa using hr
  rw [e] at h
  simp only [Sem.run_bind, h]
  first | rfl | (simp [Sem.run_pure]; done) | (rw [h]; rfl)
section
variable {w : World}
set_option maxRecDepth 100000 in
set_option maxHeartbeats 4000000 in
theorem right_lo_true (a b c d : Int) (h : d < 1) : Calls Tryd.prog 35 #[.agg #[.bool true, .int .i64 a, .int .u8 b, .int .i64 c, .int .i64 d]] w fun r w' => r = .returned (.bool false) ∧ Below w.heap.size w w' := by
  have d1 : decide (d < 1) = true := decide_eq_true (by omega)
  go_enter Tryd.func35, Tryd.ntmps35
  go_wp2
  go_ret
  exact ⟨rfl, (by repeat (first | exact Below.refl _ _ | assumption | (refine below_drewN ?_ _) | (refine Below.drew ?_) | (refine Below.alloc ?_ (by first | omega | (simp; omega) | simp) _) | (refine Below.setCell ?_ (by first | omega | (simp; omega) | simp) _) | (refine below_trans ?_ (by assumption) (by first | omega | (simp; omega) | simp))))⟩
set_option maxRecDepth 100000 in
set_option maxHeartbeats 4000000 in
theorem right_hi_true (a b c d : Int) (h0 : 1 ≤ d) (h : 4096 < d) : Calls Tryd.prog 35 #[.agg #[.bool true, .int .i64 a, .int .u8 b, .int .i64 c, .int .i64 d]] w fun r w' => r = .returned (.bool false) ∧ Below w.heap.size w w' := by
  have d1 : decide (d < 1) = false := decide_eq_false (by omega)
  have d2 : decide (4096 < d) = true := decide_eq_true (by omega)
  go_enter Tryd.func35, Tryd.ntmps35
  go_wp2
  go_ret
  exact ⟨rfl, (by repeat (first | exact Below.refl _ _ | assumption | (refine below_drewN ?_ _) | (refine Below.drew ?_) | (refine Below.alloc ?_ (by first | omega | (simp; omega) | simp) _) | (refine Below.setCell ?_ (by first | omega | (simp; omega) | simp) _) | (refine below_trans ?_ (by assumption) (by first | omega | (simp; omega) | simp))))⟩
set_option maxRecDepth 100000 in
set_option maxHeartbeats 4000000 in
theorem right_lo_false (a b c d : Int) (h : d < 1) : Calls Tryd.prog 35 #[.agg #[.bool false, .int .i64 a, .int .u8 b, .int .i64 c, .int .i64 d]] w fun r w' => r = .returned (.bool false) ∧ Below w.heap.size w w' := by
  have d1 : decide (d < 1) = true := decide_eq_true (by omega)
  go_enter Tryd.func35, Tryd.ntmps35
  go_wp2
  go_ret
  exact ⟨rfl, (by repeat (first | exact Below.refl _ _ | assumption | (refine below_drewN ?_ _) | (refine Below.drew ?_) | (refine Below.alloc ?_ (by first | omega | (simp; omega) | simp) _) | (refine Below.setCell ?_ (by first | omega | (simp; omega) | simp) _) | (refine below_trans ?_ (by assumption) (by first | omega | (simp; omega) | simp))))⟩
set_option maxRecDepth 100000 in
set_option maxHeartbeats 4000000 in
theorem right_hi_false (a b c d : Int) (h0 : 1 ≤ d) (h : 4096 < d) : Calls Tryd.prog 35 #[.agg #[.bool false, .int .i64 a, .int .u8 b, .int .i64 c, .int .i64 d]] w fun r w' => r = .returned (.bool false) ∧ Below w.heap.size w w' := by
  have d1 : decide (d < 1) = false := decide_eq_false (by omega)
  have d2 : decide (4096 < d) = true := decide_eq_true (by omega)
  go_enter Tryd.func35, Tryd.ntmps35
  go_wp2
  go_ret
  exact ⟨rfl, (by repeat (first | exact Below.refl _ _ | assumption | (refine below_drewN ?_ _) | (refine Below.drew ?_) | (refine Below.alloc ?_ (by first | omega | (simp; omega) | simp) _) | (refine Below.setCell ?_ (by first | omega | (simp; omega) | simp) _) | (refine below_trans ?_ (by assumption) (by first | omega | (simp; omega) | simp))))⟩
set_option maxRecDepth 100000 in
set_option maxHeartbeats 4000000 in
theorem right_t1 (a b c d : Int) (h1 : 1 ≤ d) (h2 : d ≤ 4096) (h : a < 0) : Calls Tryd.prog 35 #[.agg #[.bool true, .int .i64 a, .int .u8 b, .int .i64 c, .int .i64 d]] w fun r w' => r = .returned (.bool false) ∧ Below w.heap.size w w' := by
  have d1 : decide (d < 1) = false := decide_eq_false (by omega)
  have d2 : decide (4096 < d) = false := decide_eq_false (by omega)
  have d3 : decide (0 ≤ a) = false := decide_eq_false (by omega)
  go_enter Tryd.func35, Tryd.ntmps35
  go_wp2
  go_ret
  exact ⟨rfl, (by repeat (first | exact Below.refl _ _ | assumption | (refine below_drewN ?_ _) | (refine Below.drew ?_) | (refine Below.alloc ?_ (by first | omega | (simp; omega) | simp) _) | (refine Below.setCell ?_ (by first | omega | (simp; omega) | simp) _) | (refine below_trans ?_ (by assumption) (by first | omega | (simp; omega) | simp))))⟩
set_option maxRecDepth 100000 in
set_option maxHeartbeats 4000000 in
theorem right_t2 (a b c d : Int) (h1 : 1 ≤ d) (h2 : d ≤ 4096) (h0 : 0 ≤ a) (h : 4 ≤ a) : Calls Tryd.prog 35 #[.agg #[.bool true, .int .i64 a, .int .u8 b, .int .i64 c, .int .i64 d]] w fun r w' => r = .returned (.bool false) ∧ Below w.heap.size w w' := by
  have d1 : decide (d < 1) = false := decide_eq_false (by omega)
  have d2 : decide (4096 < d) = false := decide_eq_false (by omega)
  have d3 : decide (0 ≤ a) = true := decide_eq_true (by omega)
  have d4 : decide (a < 4) = false := decide_eq_false (by omega)
  go_enter Tryd.func35, Tryd.ntmps35
  go_wp2
  go_ret
  exact ⟨rfl, (by repeat (first | exact Below.refl _ _ | assumption | (refine below_drewN ?_ _) | (refine Below.drew ?_) | (refine Below.alloc ?_ (by first | omega | (simp; omega) | simp) _) | (refine Below.setCell ?_ (by first | omega | (simp; omega) | simp) _) | (refine below_trans ?_ (by assumption) (by first | omega | (simp; omega) | simp))))⟩
set_option maxRecDepth 100000 in
set_option maxHeartbeats 4000000 in
theorem right_t3 (a b c d : Int) (h1 : 1 ≤ d) (h2 : d ≤ 4096) (h0 : 0 ≤ a) (h : a < 4) (h5 : ¬ (b = 0 ∧ c = 0)) : Calls Tryd.prog 35 #[.agg #[.bool true, .int .i64 a, .int .u8 b, .int .i64 c, .int .i64 d]] w fun r w' => r = .returned (.bool false) ∧ Below w.heap.size w w' := by
  have d1 : decide (d < 1) = false := decide_eq_false (by omega)
  have d2 : decide (4096 < d) = false := decide_eq_false (by omega)
  have d3 : decide (0 ≤ a) = true := decide_eq_true (by omega)
  have d4 : decide (a < 4) = true := decide_eq_true (by omega)
  have hq := fun w => eqlTask b c w false ⟨fun h => (by cases h), fun h => absurd h h5⟩
  have hgd : Tryd.prog.eqGuardType Tryd.prog.depth 39 = false := by kernel_rfl
  go_enter Tryd.func35, Tryd.ntmps35
  go_wp2
  go_ret
  exact ⟨rfl, (by repeat (first | exact Below.refl _ _ | assumption | (refine below_drewN ?_ _) | (refine Below.drew ?_) | (refine Below.alloc ?_ (by first | omega | (simp; omega) | simp) _) | (refine Below.setCell ?_ (by first | omega | (simp; omega) | simp) _) | (refine below_trans ?_ (by assumption) (by first | omega | (simp; omega) | simp))))⟩
set_option maxRecDepth 100000 in
set_option maxHeartbeats 4000000 in
theorem right_t4 (a b c d : Int) (h1 : 1 ≤ d) (h2 : d ≤ 4096) (h0 : 0 ≤ a) (h : a < 4) (h5 : b = 0) (h6 : c = 0) : Calls Tryd.prog 35 #[.agg #[.bool true, .int .i64 a, .int .u8 b, .int .i64 c, .int .i64 d]] w fun r w' => r = .returned (.bool true) ∧ Below w.heap.size w w' := by
  have d1 : decide (d < 1) = false := decide_eq_false (by omega)
  have d2 : decide (4096 < d) = false := decide_eq_false (by omega)
  have d3 : decide (0 ≤ a) = true := decide_eq_true (by omega)
  have d4 : decide (a < 4) = true := decide_eq_true (by omega)
  have hq := fun w => eqlTask b c w true ⟨fun _ => ⟨h5, h6⟩, fun _ => rfl⟩
  have hgd : Tryd.prog.eqGuardType Tryd.prog.depth 39 = false := by kernel_rfl
  clear h5 h6
  go_enter Tryd.func35, Tryd.ntmps35
  go_wp2
  go_ret
  exact ⟨rfl, (by repeat (first | exact Below.refl _ _ | assumption | (refine below_drewN ?_ _) | (refine Below.drew ?_) | (refine Below.alloc ?_ (by first | omega | (simp; omega) | simp) _) | (refine Below.setCell ?_ (by first | omega | (simp; omega) | simp) _) | (refine below_trans ?_ (by assumption) (by first | omega | (simp; omega) | simp))))⟩
set_option maxRecDepth 100000 in
set_option maxHeartbeats 4000000 in
theorem right_f1 (a b c d : Int) (h1 : 1 ≤ d) (h2 : d ≤ 4096) (h : a ≠ 0) : Calls Tryd.prog 35 #[.agg #[.bool false, .int .i64 a, .int .u8 b, .int .i64 c, .int .i64 d]] w fun r w' => r = .returned (.bool false) ∧ Below w.heap.size w w' := by
  have d1 : decide (d < 1) = false := decide_eq_false (by omega)
  have d2 : decide (4096 < d) = false := decide_eq_false (by omega)
  have d3 : (a == 0) = false := by simp; omega
  have d4 : (a != 0) = true := by simp; omega
  go_enter Tryd.func35, Tryd.ntmps35
  go_wp2
  go_ret
  exact ⟨rfl, (by repeat (first | exact Below.refl _ _ | assumption | (refine below_drewN ?_ _) | (refine Below.drew ?_) | (refine Below.alloc ?_ (by first | omega | (simp; omega) | simp) _) | (refine Below.setCell ?_ (by first | omega | (simp; omega) | simp) _) | (refine below_trans ?_ (by assumption) (by first | omega | (simp; omega) | simp))))⟩
set_option maxRecDepth 100000 in
set_option maxHeartbeats 4000000 in
theorem right_f2 (b c d : Int) (h1 : 1 ≤ d) (h2 : d ≤ 4096) (h : b = 0) : Calls Tryd.prog 35 #[.agg #[.bool false, .int .i64 0, .int .u8 b, .int .i64 c, .int .i64 d]] w fun r w' => r = .returned (.bool false) ∧ Below w.heap.size w w' := by
  have d1 : decide (d < 1) = false := decide_eq_false (by omega)
  have d2 : decide (4096 < d) = false := decide_eq_false (by omega)
  have d5 : (b == 0) = true := by simp; omega
  clear h
  go_enter Tryd.func35, Tryd.ntmps35
  go_wp2
  go_ret
  exact ⟨rfl, (by repeat (first | exact Below.refl _ _ | assumption | (refine below_drewN ?_ _) | (refine Below.drew ?_) | (refine Below.alloc ?_ (by first | omega | (simp; omega) | simp) _) | (refine Below.setCell ?_ (by first | omega | (simp; omega) | simp) _) | (refine below_trans ?_ (by assumption) (by first | omega | (simp; omega) | simp))))⟩
set_option maxRecDepth 100000 in
set_option maxHeartbeats 4000000 in
theorem right_f3 (b c d : Int) (h1 : 1 ≤ d) (h2 : d ≤ 4096) (h : 7 ≤ b) : Calls Tryd.prog 35 #[.agg #[.bool false, .int .i64 0, .int .u8 b, .int .i64 c, .int .i64 d]] w fun r w' => r = .returned (.bool false) ∧ Below w.heap.size w w' := by
  have d1 : decide (d < 1) = false := decide_eq_false (by omega)
  have d2 : decide (4096 < d) = false := decide_eq_false (by omega)
  have d5 : (b == 0) = false := by simp; omega
  have d6 : decide (7 ≤ b) = true := decide_eq_true (by omega)
  go_enter Tryd.func35, Tryd.ntmps35
  go_wp2
  go_ret
  exact ⟨rfl, (by repeat (first | exact Below.refl _ _ | assumption | (refine below_drewN ?_ _) | (refine Below.drew ?_) | (refine Below.alloc ?_ (by first | omega | (simp; omega) | simp) _) | (refine Below.setCell ?_ (by first | omega | (simp; omega) | simp) _) | (refine below_trans ?_ (by assumption) (by first | omega | (simp; omega) | simp))))⟩
set_option maxRecDepth 100000 in
set_option maxHeartbeats 4000000 in
theorem right_fs1 (b c d : Int) (h1 : 1 ≤ d) (h2 : d ≤ 4096) (hb : b = 2) (h : c < 0) : Calls Tryd.prog 35 #[.agg #[.bool false, .int .i64 0, .int .u8 b, .int .i64 c, .int .i64 d]] w fun r w' => r = .returned (.bool false) ∧ Below w.heap.size w w' := by
  have d1 : decide (d < 1) = false := decide_eq_false (by omega)
  have d2 : decide (4096 < d) = false := decide_eq_false (by omega)
  have d5 : (b == 0) = false := by simp; omega
  have d6 : decide (7 ≤ b) = false := decide_eq_false (by omega)
  have d7 : (b == 2) = true := by simp; omega
  have d8 : (b == 3) = false := by simp; omega
  have d9 : decide (0 ≤ c) = false := decide_eq_false (by omega)
  clear hb
  go_enter Tryd.func35, Tryd.ntmps35
  go_wp2
  go_ret
  exact ⟨rfl, (by repeat (first | exact Below.refl _ _ | assumption | (refine below_drewN ?_ _) | (refine Below.drew ?_) | (refine Below.alloc ?_ (by first | omega | (simp; omega) | simp) _) | (refine Below.setCell ?_ (by first | omega | (simp; omega) | simp) _) | (refine below_trans ?_ (by assumption) (by first | omega | (simp; omega) | simp))))⟩
set_option maxRecDepth 100000 in
set_option maxHeartbeats 4000000 in
theorem right_fs2 (b c d : Int) (h1 : 1 ≤ d) (h2 : d ≤ 4096) (hb : b = 2) (h0 : 0 ≤ c) (h : 4 ≤ c) : Calls Tryd.prog 35 #[.agg #[.bool false, .int .i64 0, .int .u8 b, .int .i64 c, .int .i64 d]] w fun r w' => r = .returned (.bool false) ∧ Below w.heap.size w w' := by
  have d1 : decide (d < 1) = false := decide_eq_false (by omega)
  have d2 : decide (4096 < d) = false := decide_eq_false (by omega)
  have d5 : (b == 0) = false := by simp; omega
  have d6 : decide (7 ≤ b) = false := decide_eq_false (by omega)
  have d7 : (b == 2) = true := by simp; omega
  have d8 : (b == 3) = false := by simp; omega
  have d9 : decide (0 ≤ c) = true := decide_eq_true (by omega)
  have d10 : decide (c < 4) = false := decide_eq_false (by omega)
  clear hb
  go_enter Tryd.func35, Tryd.ntmps35
  go_wp2
  go_ret
  exact ⟨rfl, (by repeat (first | exact Below.refl _ _ | assumption | (refine below_drewN ?_ _) | (refine Below.drew ?_) | (refine Below.alloc ?_ (by first | omega | (simp; omega) | simp) _) | (refine Below.setCell ?_ (by first | omega | (simp; omega) | simp) _) | (refine below_trans ?_ (by assumption) (by first | omega | (simp; omega) | simp))))⟩
set_option maxRecDepth 100000 in
set_option maxHeartbeats 4000000 in
theorem right_fs3 (b c d : Int) (h1 : 1 ≤ d) (h2 : d ≤ 4096) (hb : b = 2) (h0 : 0 ≤ c) (h : c < 4) : Calls Tryd.prog 35 #[.agg #[.bool false, .int .i64 0, .int .u8 b, .int .i64 c, .int .i64 d]] w fun r w' => r = .returned (.bool true) ∧ Below w.heap.size w w' := by
  have d1 : decide (d < 1) = false := decide_eq_false (by omega)
  have d2 : decide (4096 < d) = false := decide_eq_false (by omega)
  have d5 : (b == 0) = false := by simp; omega
  have d6 : decide (7 ≤ b) = false := decide_eq_false (by omega)
  have d7 : (b == 2) = true := by simp; omega
  have d8 : (b == 3) = false := by simp; omega
  have d9 : decide (0 ≤ c) = true := decide_eq_true (by omega)
  have d10 : decide (c < 4) = true := decide_eq_true (by omega)
  clear hb
  go_enter Tryd.func35, Tryd.ntmps35
  go_wp2
  go_ret
  exact ⟨rfl, (by repeat (first | exact Below.refl _ _ | assumption | (refine below_drewN ?_ _) | (refine Below.drew ?_) | (refine Below.alloc ?_ (by first | omega | (simp; omega) | simp) _) | (refine Below.setCell ?_ (by first | omega | (simp; omega) | simp) _) | (refine below_trans ?_ (by assumption) (by first | omega | (simp; omega) | simp))))⟩
set_option maxRecDepth 100000 in
set_option maxHeartbeats 4000000 in
theorem right_fw1 (b c d : Int) (h1 : 1 ≤ d) (h2 : d ≤ 4096) (hb : b = 3) (h : c < 0) : Calls Tryd.prog 35 #[.agg #[.bool false, .int .i64 0, .int .u8 b, .int .i64 c, .int .i64 d]] w fun r w' => r = .returned (.bool false) ∧ Below w.heap.size w w' := by
  have d1 : decide (d < 1) = false := decide_eq_false (by omega)
  have d2 : decide (4096 < d) = false := decide_eq_false (by omega)
  have d5 : (b == 0) = false := by simp; omega
  have d6 : decide (7 ≤ b) = false := decide_eq_false (by omega)
  have d7 : (b == 2) = false := by simp; omega
  have d8 : (b == 3) = true := by simp; omega
  have d9 : decide (0 ≤ c) = false := decide_eq_false (by omega)
  clear hb
  go_enter Tryd.func35, Tryd.ntmps35
  go_wp2
  go_ret
  exact ⟨rfl, (by repeat (first | exact Below.refl _ _ | assumption | (refine below_drewN ?_ _) | (refine Below.drew ?_) | (refine Below.alloc ?_ (by first | omega | (simp; omega) | simp) _) | (refine Below.setCell ?_ (by first | omega | (simp; omega) | simp) _) | (refine below_trans ?_ (by assumption) (by first | omega | (simp; omega) | simp))))⟩
set_option maxRecDepth 100000 in
set_option maxHeartbeats 4000000 in
theorem right_fw2 (b c d : Int) (h1 : 1 ≤ d) (h2 : d ≤ 4096) (hb : b = 3) (h0 : 0 ≤ c) (h : 4 ≤ c) : Calls Tryd.prog 35 #[.agg #[.bool false, .int .i64 0, .int .u8 b, .int .i64 c, .int .i64 d]] w fun r w' => r = .returned (.bool false) ∧ Below w.heap.size w w' := by
  have d1 : decide (d < 1) = false := decide_eq_false (by omega)
  have d2 : decide (4096 < d) = false := decide_eq_false (by omega)
  have d5 : (b == 0) = false := by simp; omega
  have d6 : decide (7 ≤ b) = false := decide_eq_false (by omega)
  have d7 : (b == 2) = false := by simp; omega
  have d8 : (b == 3) = true := by simp; omega
  have d9 : decide (0 ≤ c) = true := decide_eq_true (by omega)
  have d10 : decide (c < 4) = false := decide_eq_false (by omega)
  clear hb
  go_enter Tryd.func35, Tryd.ntmps35
  go_wp2
  go_ret
  exact ⟨rfl, (by repeat (first | exact Below.refl _ _ | assumption | (refine below_drewN ?_ _) | (refine Below.drew ?_) | (refine Below.alloc ?_ (by first | omega | (simp; omega) | simp) _) | (refine Below.setCell ?_ (by first | omega | (simp; omega) | simp) _) | (refine below_trans ?_ (by assumption) (by first | omega | (simp; omega) | simp))))⟩
set_option maxRecDepth 100000 in
set_option maxHeartbeats 4000000 in
theorem right_fw3 (b c d : Int) (h1 : 1 ≤ d) (h2 : d ≤ 4096) (hb : b = 3) (h0 : 0 ≤ c) (h : c < 4) : Calls Tryd.prog 35 #[.agg #[.bool false, .int .i64 0, .int .u8 b, .int .i64 c, .int .i64 d]] w fun r w' => r = .returned (.bool true) ∧ Below w.heap.size w w' := by
  have d1 : decide (d < 1) = false := decide_eq_false (by omega)
  have d2 : decide (4096 < d) = false := decide_eq_false (by omega)
  have d5 : (b == 0) = false := by simp; omega
  have d6 : decide (7 ≤ b) = false := decide_eq_false (by omega)
  have d7 : (b == 2) = false := by simp; omega
  have d8 : (b == 3) = true := by simp; omega
  have d9 : decide (0 ≤ c) = true := decide_eq_true (by omega)
  have d10 : decide (c < 4) = true := decide_eq_true (by omega)
  clear hb
  go_enter Tryd.func35, Tryd.ntmps35
  go_wp2
  go_ret
  exact ⟨rfl, (by repeat (first | exact Below.refl _ _ | assumption | (refine below_drewN ?_ _) | (refine Below.drew ?_) | (refine Below.alloc ?_ (by first | omega | (simp; omega) | simp) _) | (refine Below.setCell ?_ (by first | omega | (simp; omega) | simp) _) | (refine below_trans ?_ (by assumption) (by first | omega | (simp; omega) | simp))))⟩
set_option maxRecDepth 100000 in
set_option maxHeartbeats 4000000 in
theorem right_fx1 (b c d : Int) (h1 : 1 ≤ d) (h2 : d ≤ 4096) (hb0 : 0 < b) (hb1 : b < 7) (hb2 : b ≠ 2) (hb3 : b ≠ 3) (h : c = 0) : Calls Tryd.prog 35 #[.agg #[.bool false, .int .i64 0, .int .u8 b, .int .i64 c, .int .i64 d]] w fun r w' => r = .returned (.bool true) ∧ Below w.heap.size w w' := by
  have d1 : decide (d < 1) = false := decide_eq_false (by omega)
  have d2 : decide (4096 < d) = false := decide_eq_false (by omega)
  have d5 : (b == 0) = false := by simp; omega
  have d6 : decide (7 ≤ b) = false := decide_eq_false (by omega)
  have d7 : (b == 2) = false := by simp; omega
  have d8 : (b == 3) = false := by simp; omega
  have d9 : (c == 0) = true := by simp; omega
  clear h
  go_enter Tryd.func35, Tryd.ntmps35
  go_wp2
  go_ret
  exact ⟨rfl, (by repeat (first | exact Below.refl _ _ | assumption | (refine below_drewN ?_ _) | (refine Below.drew ?_) | (refine Below.alloc ?_ (by first | omega | (simp; omega) | simp) _) | (refine Below.setCell ?_ (by first | omega | (simp; omega) | simp) _) | (refine below_trans ?_ (by assumption) (by first | omega | (simp; omega) | simp))))⟩
set_option maxRecDepth 100000 in
set_option maxHeartbeats 4000000 in
theorem right_fx2 (b c d : Int) (h1 : 1 ≤ d) (h2 : d ≤ 4096) (hb0 : 0 < b) (hb1 : b < 7) (hb2 : b ≠ 2) (hb3 : b ≠ 3) (h : c ≠ 0) : Calls Tryd.prog 35 #[.agg #[.bool false, .int .i64 0, .int .u8 b, .int .i64 c, .int .i64 d]] w fun r w' => r = .returned (.bool false) ∧ Below w.heap.size w w' := by
  have d1 : decide (d < 1) = false := decide_eq_false (by omega)
  have d2 : decide (4096 < d) = false := decide_eq_false (by omega)
  have d5 : (b == 0) = false := by simp; omega
  have d6 : decide (7 ≤ b) = false := decide_eq_false (by omega)
  have d7 : (b == 2) = false := by simp; omega
  have d8 : (b == 3) = false := by simp; omega
  have d9 : (c == 0) = false := by simp; omega
  go_enter Tryd.func35, Tryd.ntmps35
  go_wp2
  go_ret
  exact ⟨rfl, (by repeat (first | exact Below.refl _ _ | assumption | (refine below_drewN ?_ _) | (refine Below.drew ?_) | (refine Below.alloc ?_ (by first | omega | (simp; omega) | simp) _) | (refine Below.setCell ?_ (by first | omega | (simp; omega) | simp) _) | (refine below_trans ?_ (by assumption) (by first | omega | (simp; omega) | simp))))⟩
theorem right_any (e : Ev) (hk : 0 ≤ e.k) : Calls Tryd.prog 35 #[evv e] w fun r w' => r = .returned (.bool (okE e)) ∧ Below w.heap.size w w' := by
  obtain ⟨th, a, b, c, d⟩ := e
  unfold evv
  simp only at hk ⊢
  have no : ∀ {P : Prop}, (okE ⟨th, a, b, c, d⟩ = true ↔ P) → ¬ P → okE ⟨th, a, b, c, d⟩ = false := fun h h' => by
    rw [Bool.eq_false_iff]
    exact fun h1 => h' (h.1 h1)
  cases th
  · have F := okE_tsk a b c d
    by_cases h1 : d < 1
    · rw [no F (by omega)]; exact right_lo_false a b c d h1
    by_cases h2 : 4096 < d
    · rw [no F (by omega)]; exact right_hi_false a b c d (by omega) h2
    by_cases h3 : a = 0
    · subst h3
      by_cases h4 : b = 0
      · rw [no F (by omega)]; exact right_f2 b c d (by omega) (by omega) h4
      by_cases h5 : 7 ≤ b
      · rw [no F (by omega)]; exact right_f3 b c d (by omega) (by omega) h5
      by_cases h6 : b = 2
      · by_cases h7 : c < 0
        · rw [no F (by omega)]; exact right_fs1 b c d (by omega) (by omega) h6 h7
        by_cases h8 : 4 ≤ c
        · rw [no F (by omega)]; exact right_fs2 b c d (by omega) (by omega) h6 (by omega) h8
        · rw [F.2 (by omega)]; exact right_fs3 b c d (by omega) (by omega) h6 (by omega) (by omega)
      by_cases h6' : b = 3
      · by_cases h7 : c < 0
        · rw [no F (by omega)]; exact right_fw1 b c d (by omega) (by omega) h6' h7
        by_cases h8 : 4 ≤ c
        · rw [no F (by omega)]; exact right_fw2 b c d (by omega) (by omega) h6' (by omega) h8
        · rw [F.2 (by omega)]; exact right_fw3 b c d (by omega) (by omega) h6' (by omega) (by omega)
      by_cases h9 : c = 0
      · rw [F.2 (by omega)]; exact right_fx1 b c d (by omega) (by omega) (by omega) (by omega) h6 h6' h9
      · rw [no F (by omega)]; exact right_fx2 b c d (by omega) (by omega) (by omega) (by omega) h6 h6' h9
    · rw [no F (by omega)]; exact right_f1 a b c d (by omega) (by omega) h3
  · have F := okE_thr a b c d
    by_cases h1 : d < 1
    · rw [no F (by omega)]; exact right_lo_true a b c d h1
    by_cases h2 : 4096 < d
    · rw [no F (by omega)]; exact right_hi_true a b c d (by omega) h2
    by_cases h3 : a < 0
    · rw [no F (by omega)]; exact right_t1 a b c d (by omega) (by omega) h3
    by_cases h4 : 4 ≤ a
    · rw [no F (by omega)]; exact right_t2 a b c d (by omega) (by omega) (by omega) h4
    by_cases h5 : b = 0 ∧ c = 0
    · rw [F.2 (by omega)]; exact right_t4 a b c d (by omega) (by omega) (by omega) (by omega) h5.1 h5.2
    · rw [no F (by omega)]; exact right_t3 a b c d (by omega) (by omega) (by omega) (by omega) h5
end
end Go.Proofs.YtklbamkafldagaaDoor
