/- Contracts: the smallest functions of package script: single, taskOf; the document's right and like. -/
import Derived.Test.YtklbamkafldagaaDoorSe3
namespace Go.Proofs.YtklbamkafldagaaDoor
open Go.RowKit
set_option linter.unusedVariables false
set_option linter.unusedSimpArgs false

theorem res_ev1 {fn : Func} {p : Tmp} (h : fn.results = #[.cell p 41]) {tmps : Array Value} {w : World} {g : Nat} {s : Ev} (hp : tmps.getD p undef = .pointer (some ⟨g, 0, none⟩)) (c : Ev5 w g 0 s) : (results fn tmps).run Tryd.prog w = .ok (evv s) w := by
  obtain ⟨h0, h1, h2, h3, h4⟩ := c
  simp only [Nat.zero_add] at h0 h1 h2 h3 h4
  have hr : (results fn tmps).run Tryd.prog w = ((asAddr (tmps.getD p undef)).run Tryd.prog w).andThen fun a w₁ => (loadVar 41 a).run Tryd.prog w₁ := by
    simp only [results, h]
    simp [Sem.run_bind, Result.andThen]
  rw [hr, hp]
  simp [go_sem, Result.andThen, h0, h1, h2, h3, h4, asAddr, evv]
theorem res_ev2 {fn : Func} {p u : Tmp} (h : fn.results = #[.cell p 41, .tmp u]) {tmps : Array Value} {w : World} {g : Nat} {s : Ev} (hp : tmps.getD p undef = .pointer (some ⟨g, 0, none⟩)) (c : Ev5 w g 0 s) : (results fn tmps).run Tryd.prog w = .ok (.tuple #[evv s, tmps.getD u undef]) w := by
  obtain ⟨h0, h1, h2, h3, h4⟩ := c
  simp only [Nat.zero_add] at h0 h1 h2 h3 h4
  rw [results_cell_tmp h, hp]
  simp [go_sem, Result.andThen, h0, h1, h2, h3, h4, asAddr, evv]
section
variable {w : World}
theorem single_any (e : Ev) : Calls Tryd.prog 32 #[evv e] w fun r w' => r = .returned (evv (one e)) ∧ Below w.heap.size w w' := by
  obtain ⟨a, b, c, d, n⟩ := e
  unfold evv
  simp only
  go_enter Tryd.func32, Tryd.ntmps32
  go_wp2
  refine bodyPost_ret (res_ev1 rfl rfl (s := ⟨a, b, c, d, 1⟩) ⟨?_, ?_, ?_, ?_, ?_⟩) rfl ⟨rfl, (by repeat (first | exact Below.refl _ _ | assumption | (refine below_drewN ?_ _) | (refine Below.drew ?_) | (refine Below.alloc ?_ (by first | omega | (simp; omega) | simp) _) | (refine Below.setCell ?_ (by first | omega | (simp; omega) | simp) _) | (refine below_trans ?_ (by assumption) (by first | omega | (simp; omega) | simp))))⟩ <;> simp [go_sem]
theorem taskOf_any (k t : Int) : Calls Tryd.prog 44 #[.int .u8 k, .int .i64 t] w fun r w' => r = .returned (evv (tk k t)) ∧ Below w.heap.size w w' := by
  go_enter Tryd.func44, Tryd.ntmps44
  go_wp2
  refine bodyPost_ret (res_ev1 rfl rfl (s := tk k t) ⟨?_, ?_, ?_, ?_, ?_⟩) rfl ⟨rfl, (by repeat (first | exact Below.refl _ _ | assumption | (refine below_drewN ?_ _) | (refine Below.drew ?_) | (refine Below.alloc ?_ (by first | omega | (simp; omega) | simp) _) | (refine Below.setCell ?_ (by first | omega | (simp; omega) | simp) _) | (refine below_trans ?_ (by assumption) (by first | omega | (simp; omega) | simp))))⟩ <;> simp [go_sem, tk]
end
end Go.Proofs.YtklbamkafldagaaDoor
