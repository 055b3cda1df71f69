/- Contracts of the document's package: opName, Name. -/
import Derived.Test.YtggaijdbaplfiaaGreatDoorAs25
namespace Go.Proofs.YtggaijdbaplfiaaGreatDoor
open Go.RowKit
set_option linter.unusedVariables false
set_option linter.unusedSimpArgs false
/-- a word's letter -/
def letO (o : Nat) : List UInt8 := match o with
  | 1 => [97]
  | 2 => [98]
  | 3 => [102]
  | 4 => [115]
  | 6 => [119]
  | 7 => [65]
  | 8 => [66]
  | 9 => [116]
  | _ => []
def hasF (f : Fm) : List UInt8 := f.os.flatMap letO
/-- the form that the document names for a kind: the operation's kind tells only for the first -/
def formD (kd op : Int) : Fm := (fms.find? fun f => f.kd == kd && (kd != 1 || f.op == op)).getD fm0
section
variable {w : World}
set_option maxRecDepth 100000 in
set_option maxHeartbeats 8000000 in
theorem xop_any (op : Int) (h0 : 0 ≤ op) (h1 : op < 256) : Calls Tryz.prog 71 #[.int .u8 op] w fun e w' => e = .returned (.tuple #[.string (bs (formD 1 op).nm), .string (bs (hasF (formD 1 op)))]) ∧ Below w.heap.size w w' := by
  by_cases hop : op < 15
  · have hc : op = 0 ∨ op = 1 ∨ op = 2 ∨ op = 3 ∨ op = 4 ∨ op = 5 ∨ op = 6 ∨ op = 7 ∨ op = 8 ∨ op = 9 ∨ op = 10 ∨ op = 11 ∨ op = 12 ∨ op = 13 ∨ op = 14 := by omega
    clear h0 h1 hop
    rcases hc with rfl | rfl | rfl | rfl | rfl | rfl | rfl | rfl | rfl | rfl | rfl | rfl | rfl | rfl | rfl
    all_goals
      go_enter Tryz.func71, Tryz.ntmps71
      go_wp2
      go_quiet (fail)
      go_wp2
      go_ret2
      exact ⟨rfl, (by repeat (first | exact Below.refl _ _ | assumption | (refine below_drewN ?_ _) | (refine Below.drew ?_) | (refine Below.alloc ?_ (by first | omega | (simp; omega) | simp) _) | (refine Below.setCell ?_ (by first | omega | (simp; omega) | simp) _) | (refine below_trans ?_ (by assumption) (by first | omega | (simp; omega) | simp))))⟩
  · have hn : formD 1 op = fm0 := by
      have hf : (fms.find? fun f => f.kd == 1 && ((1 : Int) != 1 || f.op == op)) = none := by
        rw [List.find?_eq_none]
        intro f hf
        simp only [fms, List.mem_cons, List.not_mem_nil, or_false] at hf
        rcases hf with rfl | rfl | rfl | rfl | rfl | rfl | rfl | rfl | rfl | rfl | rfl | rfl | rfl | rfl | rfl | rfl | rfl | rfl | rfl | rfl <;> simp <;> omega
      unfold formD
      rw [hf]
      rfl
    rw [hn]
    have d1 : decide (op < 15) = false := decide_eq_false hop
    clear hn
    go_enter Tryz.func71, Tryz.ntmps71
    go_wp2
    go_ret2
    exact ⟨rfl, (by repeat (first | exact Below.refl _ _ | assumption | (refine below_drewN ?_ _) | (refine Below.drew ?_) | (refine Below.alloc ?_ (by first | omega | (simp; omega) | simp) _) | (refine Below.setCell ?_ (by first | omega | (simp; omega) | simp) _) | (refine below_trans ?_ (by assumption) (by first | omega | (simp; omega) | simp))))⟩
end
end Go.Proofs.YtggaijdbaplfiaaGreatDoor
