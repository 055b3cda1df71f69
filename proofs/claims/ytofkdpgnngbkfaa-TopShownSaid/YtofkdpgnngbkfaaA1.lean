/- Contracts of package arena: the check, making, whether words are there, loading; and the document's own answers. -/
import Derived.Test.YtofkdpgnngbkfaaRFill
import Derived.Test.YtofkdpgnngbkfaaSpec
namespace Go.Proofs.Ytofkdpgnngbkfaa
open Go.RowKit
set_option linter.unusedVariables false
set_option linter.unusedSimpArgs false

/-- the most words of an arena -/
def AMax : Nat := 16384
section
variable {A : Option Addr} {ws : List Nat} {w : World} (len cap : Nat)
theorem acheck_ok (h : len ≤ 16384) : Calls Try.prog 13 #[.agg #[.slice A len cap]] w fun e w' => e = .returned (.int .i64 0) ∧ Below w.heap.size w w' := by
  go_enter Try.func13, Try.ntmps13
  go_wp2
  go_ret
  exact ⟨rfl, (by repeat (first | exact Below.refl _ _ | assumption | (refine below_drewN ?_ _) | (refine Below.drew ?_) | (refine Below.alloc ?_ (by first | omega | (simp; omega) | simp) _) | (refine Below.setCell ?_ (by first | omega | (simp; omega) | simp) _) | (refine below_trans ?_ (by assumption) (by first | omega | (simp; omega) | simp))))⟩
theorem acheck_bad (h : ¬ len ≤ 16384) : Calls Try.prog 13 #[.agg #[.slice A len cap]] w fun e w' => e = .returned (.int .i64 2) ∧ Below w.heap.size w w' := by
  have hd : 16384 < len := by omega
  go_enter Try.func13, Try.ntmps13
  go_wp2
  go_ret
  exact ⟨rfl, (by repeat (first | exact Below.refl _ _ | assumption | (refine below_drewN ?_ _) | (refine Below.drew ?_) | (refine Below.alloc ?_ (by first | omega | (simp; omega) | simp) _) | (refine Below.setCell ?_ (by first | omega | (simp; omega) | simp) _) | (refine below_trans ?_ (by assumption) (by first | omega | (simp; omega) | simp))))⟩
theorem racheck_ok (h : len ≤ 16384) : Calls Try.prog 14 #[.agg #[.slice A len cap]] w fun e w' => e = .returned (.int .i64 0) ∧ Below w.heap.size w w' := by
  go_enter Try.func14, Try.ntmps14
  go_wp2
  go_ret
  exact ⟨rfl, (by repeat (first | exact Below.refl _ _ | assumption | (refine below_drewN ?_ _) | (refine Below.drew ?_) | (refine Below.alloc ?_ (by first | omega | (simp; omega) | simp) _) | (refine Below.setCell ?_ (by first | omega | (simp; omega) | simp) _) | (refine below_trans ?_ (by assumption) (by first | omega | (simp; omega) | simp))))⟩
theorem racheck_bad (h : ¬ len ≤ 16384) : Calls Try.prog 14 #[.agg #[.slice A len cap]] w fun e w' => e = .returned (.int .i64 2) ∧ Below w.heap.size w w' := by
  have hd : 16384 < len := by omega
  go_enter Try.func14, Try.ntmps14
  go_wp2
  go_ret
  exact ⟨rfl, (by repeat (first | exact Below.refl _ _ | assumption | (refine below_drewN ?_ _) | (refine Below.drew ?_) | (refine Below.alloc ?_ (by first | omega | (simp; omega) | simp) _) | (refine Below.setCell ?_ (by first | omega | (simp; omega) | simp) _) | (refine below_trans ?_ (by assumption) (by first | omega | (simp; omega) | simp))))⟩

/-- there are n words from a on -/
def There (len : Nat) (a n : Int) : Prop := a ≤ len ∧ n ≤ len - a
theorem fits_any (a n : Int) (b : Bool) (hl : len ≤ 9223372036854775807) (ha : 0 ≤ a) (hn : 0 ≤ n) (hn2 : n ≤ 18446744073709551615) (ha2 : a ≤ 18446744073709551615) (hb : (b = true ∧ There len a n) ∨ (b = false ∧ ¬ There len a n)) :
    Calls Try.prog 21 #[.agg #[.slice A len cap], .int .u64 a, .int .u64 n] w fun e w' => e = .returned (.bool b) ∧ Below w.heap.size w w' := by
  by_cases h1 : a ≤ len
  · by_cases h2 : n ≤ len - a
    · obtain rfl : b = true := by
        rcases hb with hb | hb
        · exact hb.1
        · exact absurd ⟨h1, h2⟩ hb.2
      clear hb
      have hd1 : decide (a ≤ (len : Int)) = true := by simpa using h1
      have hd2 : decide (n ≤ (len : Int) - a) = true := by simpa using h2
      go_enter Try.func21, Try.ntmps21
      go_wp2
      go_ret
      exact ⟨rfl, (by repeat (first | exact Below.refl _ _ | assumption | (refine below_drewN ?_ _) | (refine Below.drew ?_) | (refine Below.alloc ?_ (by first | omega | (simp; omega) | simp) _) | (refine Below.setCell ?_ (by first | omega | (simp; omega) | simp) _) | (refine below_trans ?_ (by assumption) (by first | omega | (simp; omega) | simp))))⟩
    · obtain rfl : b = false := by
        rcases hb with hb | hb
        · exact absurd hb.2.2 h2
        · exact hb.1
      clear hb
      have hd1 : decide (a ≤ (len : Int)) = true := by simpa using h1
      have hd2 : decide (n ≤ (len : Int) - a) = false := by simpa using h2
      go_enter Try.func21, Try.ntmps21
      go_wp2
      go_ret
      exact ⟨rfl, (by repeat (first | exact Below.refl _ _ | assumption | (refine below_drewN ?_ _) | (refine Below.drew ?_) | (refine Below.alloc ?_ (by first | omega | (simp; omega) | simp) _) | (refine Below.setCell ?_ (by first | omega | (simp; omega) | simp) _) | (refine below_trans ?_ (by assumption) (by first | omega | (simp; omega) | simp))))⟩
  · obtain rfl : b = false := by
      rcases hb with hb | hb
      · exact absurd hb.2.1 h1
      · exact hb.1
    clear hb
    have hd1 : decide (a ≤ (len : Int)) = false := by simpa using h1
    go_enter Try.func21, Try.ntmps21
    go_wp2
    go_ret
    exact ⟨rfl, (by repeat (first | exact Below.refl _ _ | assumption | (refine below_drewN ?_ _) | (refine Below.drew ?_) | (refine Below.alloc ?_ (by first | omega | (simp; omega) | simp) _) | (refine Below.setCell ?_ (by first | omega | (simp; omega) | simp) _) | (refine below_trans ?_ (by assumption) (by first | omega | (simp; omega) | simp))))⟩
end
end Go.Proofs.Ytofkdpgnngbkfaa
