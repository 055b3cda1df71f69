/- Contracts of package asm: bare, list, isReg, most, get, put. -/
import Derived.Test.YtndaccekemjdmaaGreatDoorAs4
import Derived.Test.YtndaccekemjdmaaGreatDoorAs2a
namespace Go.Proofs.YtndaccekemjdmaaGreatDoor
open Go.RowKit
set_option linter.unusedVariables false
set_option linter.unusedSimpArgs false
/-- a form with no more than three words that mean something -/
def WfF (f : Fm) : Prop := f.os.length ≤ 3 ∧ ∀ o ∈ f.os, 1 ≤ o ∧ o ≤ 9
instance (f : Fm) : Decidable (WfF f) := inferInstanceAs (Decidable (_ ∧ _))
theorem fms_wf : ∀ f ∈ fms, WfF f := by decide
theorem fm0_wf : WfF fm0 := by decide
theorem formOf_wf (x : In) : WfF ((formOf x).getD fm0) := by
  cases h : formOf x with
  | none => exact fm0_wf
  | some f => exact fms_wf f (List.mem_of_find?_eq_some h)
theorem fnamed_wf (s : List UInt8) : WfF ((fnamed s).getD fm0) := by
  cases h : fnamed s with
  | none => exact fm0_wf
  | some f => exact fms_wf f (List.mem_of_find?_eq_some h)
/-- operands in memory -/
def opI (os : List Nat) : List Int := os.map fun (o : Nat) => (o : Int)
def ORow (w : World) (A : Option Addr) (os : List Nat) : Prop := IRow w w.heap.size A (opI os)
theorem ORow.later {w w' : World} {A : Option Addr} {os : List Nat} (h : ORow w A os) (hb : Below w.heap.size w w') : ORow w' A os := IRow.later h hb
theorem opI_len (os : List Nat) : (opI os).length = os.length := by simp [opI]
theorem opI_get (os : List Nat) (i : Nat) (h : i < os.length) : (opI os).getD i 0 = ((os.getD i 0 : Nat) : Int) := by simp [opI, h]
theorem irow_ofO {w : World} {B cap n : Nat} {A : Option Addr} {xs : List Int} (h : w.ownsRow B 95 1 (.slice A n cap) n (ivals xs)) (hn : xs.length = n) (hw : ∀ x ∈ xs, I63 x) : IRow w w.heap.size A xs := by
  refine ⟨hw, fun hl => ?_⟩
  obtain ⟨_, ⟨h1, h2⟩ | ⟨g, cap', cur, e, hB, hg, hc, _, hs, ht⟩⟩ := id h
  · omega
  · injection e with e1 e2 e3
    subst e1 e3
    have hlt : g < w.heap.size := heap_lt hg
    refine ⟨g, 0, rfl, hlt, fun i hi => ?_⟩
    rw [Nat.zero_add, cell_of_row w g i cur _ _ hg, ← ivals_at xs i hi, ← ht, List.getElem?_take_of_lt (by omega), Array.getElem?_toList]
section
variable {w : World}
theorem bare_any (f : Fm) : Calls Tryz.prog 51 #[fmv f] w fun e w' => e = .returned (inv (bare f)) ∧ Below w.heap.size w w' := by
  unfold fmv
  go_enter Tryz.func51, Tryz.ntmps51
  go_wp2
  refine bodyPost_ret (res_in1 rfl rfl (s := bare f) ⟨?_, ?_, ?_, ?_, ?_, ?_, ?_, ?_, ?_, ?_, ?_⟩) rfl ⟨rfl, (by repeat (first | exact Below.refl _ _ | assumption | (refine below_drewN ?_ _) | (refine Below.drew ?_) | (refine Below.alloc ?_ (by first | omega | (simp; omega) | simp) _) | (refine Below.setCell ?_ (by first | omega | (simp; omega) | simp) _) | (refine below_trans ?_ (by assumption) (by first | omega | (simp; omega) | simp))))⟩ <;> simp [go_sem, bare, in0]
theorem isReg_any (o : Nat) (h : o ≤ 9) : Calls Tryz.prog 79 #[.int .i64 (o : Nat)] w fun e w' => e = .returned (.bool (isR o)) ∧ w' = w := by
  have hc : o = 0 ∨ o = 1 ∨ o = 2 ∨ o = 3 ∨ o = 4 ∨ o = 5 ∨ o = 6 ∨ o = 7 ∨ o = 8 ∨ o = 9 := by omega
  rcases hc with rfl | rfl | rfl | rfl | rfl | rfl | rfl | rfl | rfl | rfl <;>
  · go_enter Tryz.func79, Tryz.ntmps79
    go_wp2
    go_ret
    exact ⟨rfl, rfl⟩
theorem most_any (o : Nat) (h0 : 1 ≤ o) (h : o ≤ 9) (c : Int) (hc0 : 0 ≤ c) (hc1 : c < 9223372036854775808) : Calls Tryz.prog 54 #[.int .i64 (o : Nat), .int .i64 c] w fun e w' => e = .returned (.int .u64 (mostO o c)) ∧ w' = w := by
  have hw : IntKind.u64.wrap c = c := by unfold IntKind.wrap; simp [IntKind.signed, IntKind.bits]; omega
  have hc : o = 1 ∨ o = 2 ∨ o = 3 ∨ o = 4 ∨ o = 5 ∨ o = 6 ∨ o = 7 ∨ o = 8 ∨ o = 9 := by omega
  rcases hc with rfl | rfl | rfl | rfl | rfl | rfl | rfl | rfl | rfl <;>
  · go_enter Tryz.func54, Tryz.ntmps54
    go_wp2
    go_ret
    exact ⟨rfl, rfl⟩
theorem get_any (o : Nat) (h0 : 1 ≤ o) (h : o ≤ 9) (x : In) : Calls Tryz.prog 53 #[.int .i64 (o : Nat), inv x] w fun e w' => e = .returned (.int .u64 (if o = 5 ∨ o = 6 then getO o x else IntKind.u64.wrap (getO o x))) ∧ Below w.heap.size w w' := by
  obtain ⟨kd, op, oa, ob, fd, n, m, wd, a, b, to⟩ := x
  unfold inv
  simp only
  have hc : o = 1 ∨ o = 2 ∨ o = 3 ∨ o = 4 ∨ o = 5 ∨ o = 6 ∨ o = 7 ∨ o = 8 ∨ o = 9 := by omega
  rcases hc with rfl | rfl | rfl | rfl | rfl | rfl | rfl | rfl | rfl <;>
  · go_enter Tryz.func53, Tryz.ntmps53
    go_wp2
    go_ret
    exact ⟨rfl, (by repeat (first | exact Below.refl _ _ | assumption | (refine below_drewN ?_ _) | (refine Below.drew ?_) | (refine Below.alloc ?_ (by first | omega | (simp; omega) | simp) _) | (refine Below.setCell ?_ (by first | omega | (simp; omega) | simp) _) | (refine below_trans ?_ (by assumption) (by first | omega | (simp; omega) | simp))))⟩
end
end Go.Proofs.YtndaccekemjdmaaGreatDoor
