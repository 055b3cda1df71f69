/- Contracts of package head and of the document's own answers for it. -/
import Derived.Test.YtndaccekemjdmaaGreatDoorJ1
namespace Go.Proofs.YtndaccekemjdmaaGreatDoor
open Go.RowKit
set_option linter.unusedVariables false
set_option linter.unusedSimpArgs false

section
variable {n : Int} {m : Nat} {w : World}
theorem hcheck_ok (h : Sh n m) :
    Calls Tryz.prog 56 #[.agg #[.int .i64 n, .int .u64 (m : Nat)]] w fun e w' => e = .returned (.int .i64 0) ∧ Below w.heap.size w w' := by
  obtain ⟨h0, h1, h2⟩ := h
  have hd : decide (n < 0) = false := decide_eq_false (by omega)
  have hd2 : decide (48 < n) = false := decide_eq_false (by omega)
  have hd3 : (((m : Nat) : Int) / 2 ^ n.toNat != 0) = false := by rw [shr_form, Nat.shiftRight_eq_div_pow, h2]; rfl
  clear h2
  go_enter Tryz.func56, Tryz.ntmps56
  go_wp2
  go_ret
  exact ⟨rfl, (by repeat (first | exact Below.refl _ _ | assumption | (refine below_drewN ?_ _) | (refine Below.drew ?_) | (refine Below.alloc ?_ (by first | omega | (simp; omega) | simp) _) | (refine Below.setCell ?_ (by first | omega | (simp; omega) | simp) _) | (refine below_trans ?_ (by assumption) (by first | omega | (simp; omega) | simp))))⟩
theorem hcheck_bad (hm : m < W64) (h : ¬ Sh n m) :
    Calls Tryz.prog 56 #[.agg #[.int .i64 n, .int .u64 (m : Nat)]] w fun e w' => e = .returned (.int .i64 2) ∧ Below w.heap.size w w' := by
  by_cases h0 : n < 0
  · have hd : decide (n < 0) = true := decide_eq_true (by omega)
    clear h
    go_enter Tryz.func56, Tryz.ntmps56
    go_wp2
    go_ret
    exact ⟨rfl, (by repeat (first | exact Below.refl _ _ | assumption | (refine below_drewN ?_ _) | (refine Below.drew ?_) | (refine Below.alloc ?_ (by first | omega | (simp; omega) | simp) _) | (refine Below.setCell ?_ (by first | omega | (simp; omega) | simp) _) | (refine below_trans ?_ (by assumption) (by first | omega | (simp; omega) | simp))))⟩
  have hd : decide (n < 0) = false := decide_eq_false (by omega)
  by_cases h1 : 48 < n
  · have hd2 : decide (48 < n) = true := decide_eq_true (by omega)
    clear h
    go_enter Tryz.func56, Tryz.ntmps56
    go_wp2
    go_ret
    exact ⟨rfl, (by repeat (first | exact Below.refl _ _ | assumption | (refine below_drewN ?_ _) | (refine Below.drew ?_) | (refine Below.alloc ?_ (by first | omega | (simp; omega) | simp) _) | (refine Below.setCell ?_ (by first | omega | (simp; omega) | simp) _) | (refine below_trans ?_ (by assumption) (by first | omega | (simp; omega) | simp))))⟩
  have hd2 : decide (48 < n) = false := decide_eq_false (by omega)
  have hd3 : (((m : Nat) : Int) / 2 ^ n.toNat != 0) = true := by
    rw [shr_form, Nat.shiftRight_eq_div_pow, bne_iff_ne]
    intro hz
    exact h ⟨by omega, by omega, hz⟩
  clear h
  go_enter Tryz.func56, Tryz.ntmps56
  go_wp2
  go_ret
  exact ⟨rfl, (by repeat (first | exact Below.refl _ _ | assumption | (refine below_drewN ?_ _) | (refine Below.drew ?_) | (refine Below.alloc ?_ (by first | omega | (simp; omega) | simp) _) | (refine Below.setCell ?_ (by first | omega | (simp; omega) | simp) _) | (refine below_trans ?_ (by assumption) (by first | omega | (simp; omega) | simp))))⟩
theorem xis_any (f : Int) (h0 : 0 ≤ f) (h1 : f < 64) :
    Calls Tryz.prog 82 #[.agg #[.int .i64 n, .int .u64 (m : Nat)], .int .i64 f] w fun e w' => e = .returned (.bool (m.testBit f.toNat)) ∧ Below w.heap.size w w' := by
  have hd := is_form m f.toNat
  go_enter Tryz.func82, Tryz.ntmps82
  go_wp2
  go_ret
  exact ⟨rfl, (by repeat (first | exact Below.refl _ _ | assumption | (refine below_drewN ?_ _) | (refine Below.drew ?_) | (refine Below.alloc ?_ (by first | omega | (simp; omega) | simp) _) | (refine Below.setCell ?_ (by first | omega | (simp; omega) | simp) _) | (refine below_trans ?_ (by assumption) (by first | omega | (simp; omega) | simp))))⟩
theorem xcheck_ok (h : Sh n m) :
    Calls Tryz.prog 62 #[.agg #[.int .i64 n, .int .u64 (m : Nat)]] w fun e w' => e = .returned (.int .i64 0) ∧ Below w.heap.size w w' := by
  have hH := Lib.hid h
  obtain ⟨h0, h1, h2⟩ := h
  have hd : decide (n < 0) = false := decide_eq_false (by omega)
  have hd2 : decide (48 < n) = false := decide_eq_false (by omega)
  clear h2
  go_enter Tryz.func62, Tryz.ntmps62
  go_wp2
  go_loopw [3] (fun i wr => ∃ k : Int, i = .int .i64 k ∧ n ≤ k ∧ k ≤ 64 ∧ Sp wr w.heap.size n m ∧ Below w.heap.size w wr) (fun i _ => (64 - intOf i).toNat)
  case atStart => exact ⟨n, rfl, by omega, by omega, Sp.new _ _ _ _, (by repeat (first | exact Below.refl _ _ | assumption | (refine below_drewN ?_ _) | (refine Below.drew ?_) | (refine Below.alloc ?_ (by first | omega | (simp; omega) | simp) _) | (refine Below.setCell ?_ (by first | omega | (simp; omega) | simp) _) | (refine below_trans ?_ (by assumption) (by first | omega | (simp; omega) | simp))))⟩
  case round =>
    obtain ⟨k, rfl, hk, hk1, hs, hb_wr⟩ := hrel
    have hsr := hb_wr.size
    have hsl := hs.lt
    obtain ⟨c0, c1⟩ := id hs
    by_cases hlt : k < 64
    · have e : decide (k < 64) = true := decide_eq_true hlt
      go_wp2_with (go_at_call 82; refine (xis_any k (by omega) (by omega)).mono ?_; rintro e w1 ⟨rfl, hb_w1⟩; obtain ⟨hc_w1, hf_w1⟩ := bcell hb_w1; have hs_w1 := hb_w1.size; (try simp only [World.size_alloc, World.size_setCell, World.size_drew, World.heap_drewN] at hs_w1); rw [hH.out.bit k.toNat (by omega)])
      go_roundw
      case rel => exact ⟨k + 1, by go_num, by omega, by omega, hs.later hb_w1, (by repeat (first | exact Below.refl _ _ | assumption | (refine below_drewN ?_ _) | (refine Below.drew ?_) | (refine Below.alloc ?_ (by first | omega | (simp; omega) | simp) _) | (refine Below.setCell ?_ (by first | omega | (simp; omega) | simp) _) | (refine below_trans ?_ (by assumption) (by first | omega | (simp; omega) | simp))))⟩
      case measure => simp [intOf]; omega
    · have e : decide (k < 64) = false := decide_eq_false hlt
      go_wp2
      go_ret
      exact ⟨rfl, (by repeat (first | exact Below.refl _ _ | assumption | (refine below_drewN ?_ _) | (refine Below.drew ?_) | (refine Below.alloc ?_ (by first | omega | (simp; omega) | simp) _) | (refine Below.setCell ?_ (by first | omega | (simp; omega) | simp) _) | (refine below_trans ?_ (by assumption) (by first | omega | (simp; omega) | simp))))⟩
theorem xcheck_bad (hm : m < W64) (h : ¬ Sh n m) :
    Calls Tryz.prog 62 #[.agg #[.int .i64 n, .int .u64 (m : Nat)]] w fun e w' => e = .returned (.int .i64 2) ∧ Below w.heap.size w w' := by
  have hH := Lib.hid h
  clear h
  by_cases h0 : n < 0
  · have hd : decide (n < 0) = true := decide_eq_true (by omega)
    go_enter Tryz.func62, Tryz.ntmps62
    go_wp2
    go_ret
    exact ⟨rfl, (by repeat (first | exact Below.refl _ _ | assumption | (refine below_drewN ?_ _) | (refine Below.drew ?_) | (refine Below.alloc ?_ (by first | omega | (simp; omega) | simp) _) | (refine Below.setCell ?_ (by first | omega | (simp; omega) | simp) _) | (refine below_trans ?_ (by assumption) (by first | omega | (simp; omega) | simp))))⟩
  have hd : decide (n < 0) = false := decide_eq_false (by omega)
  by_cases h1 : 48 < n
  · have hd2 : decide (48 < n) = true := decide_eq_true (by omega)
    go_enter Tryz.func62, Tryz.ntmps62
    go_wp2
    go_ret
    exact ⟨rfl, (by repeat (first | exact Below.refl _ _ | assumption | (refine below_drewN ?_ _) | (refine Below.drew ?_) | (refine Below.alloc ?_ (by first | omega | (simp; omega) | simp) _) | (refine Below.setCell ?_ (by first | omega | (simp; omega) | simp) _) | (refine below_trans ?_ (by assumption) (by first | omega | (simp; omega) | simp))))⟩
  have hd2 : decide (48 < n) = false := decide_eq_false (by omega)
  go_enter Tryz.func62, Tryz.ntmps62
  go_wp2
  go_loopw [3] (fun i wr => ∃ k : Int, i = .int .i64 k ∧ n ≤ k ∧ k ≤ 64 ∧ (∀ j : Nat, n.toNat ≤ j → (j : Int) < k → m.testBit j = false) ∧ Sp wr w.heap.size n m ∧ Below w.heap.size w wr) (fun i _ => (64 - intOf i).toNat)
  case atStart => exact ⟨n, rfl, by omega, by omega, fun j _ _ => by omega, Sp.new _ _ _ _, (by repeat (first | exact Below.refl _ _ | assumption | (refine below_drewN ?_ _) | (refine Below.drew ?_) | (refine Below.alloc ?_ (by first | omega | (simp; omega) | simp) _) | (refine Below.setCell ?_ (by first | omega | (simp; omega) | simp) _) | (refine below_trans ?_ (by assumption) (by first | omega | (simp; omega) | simp))))⟩
  case round =>
    obtain ⟨k, rfl, hk, hk1, hb0, hs, hb_wr⟩ := hrel
    have hsr := hb_wr.size
    have hsl := hs.lt
    obtain ⟨c0, c1⟩ := id hs
    have HB := Lib.hid hb0
    clear hb0
    by_cases hlt : k < 64
    · have e : decide (k < 64) = true := decide_eq_true hlt
      rcases hbit : m.testBit k.toNat with _ | _
      · go_wp2_with (go_at_call 82; refine (xis_any k (by omega) (by omega)).mono ?_; rintro e w1 ⟨rfl, hb_w1⟩; obtain ⟨hc_w1, hf_w1⟩ := bcell hb_w1; have hs_w1 := hb_w1.size; (try simp only [World.size_alloc, World.size_setCell, World.size_drew, World.heap_drewN] at hs_w1); rw [hbit])
        go_roundw
        case rel => exact ⟨k + 1, by go_num, by omega, by omega, fun j j0 j1 => by
            by_cases ej : (j : Int) = k
            · rw [show j = k.toNat by omega]; exact hbit
            · exact HB.out j j0 (by omega), hs.later hb_w1, (by repeat (first | exact Below.refl _ _ | assumption | (refine below_drewN ?_ _) | (refine Below.drew ?_) | (refine Below.alloc ?_ (by first | omega | (simp; omega) | simp) _) | (refine Below.setCell ?_ (by first | omega | (simp; omega) | simp) _) | (refine below_trans ?_ (by assumption) (by first | omega | (simp; omega) | simp))))⟩
        case measure => simp [intOf]; omega
      · go_wp2_with (go_at_call 82; refine (xis_any k (by omega) (by omega)).mono ?_; rintro e w1 ⟨rfl, hb_w1⟩; obtain ⟨hc_w1, hf_w1⟩ := bcell hb_w1; have hs_w1 := hb_w1.size; (try simp only [World.size_alloc, World.size_setCell, World.size_drew, World.heap_drewN] at hs_w1); rw [hbit])
        go_ret
        exact ⟨rfl, (by repeat (first | exact Below.refl _ _ | assumption | (refine below_drewN ?_ _) | (refine Below.drew ?_) | (refine Below.alloc ?_ (by first | omega | (simp; omega) | simp) _) | (refine Below.setCell ?_ (by first | omega | (simp; omega) | simp) _) | (refine below_trans ?_ (by assumption) (by first | omega | (simp; omega) | simp))))⟩
    · exact absurd (sh_of_bits hm (by omega) (by omega) fun j j0 j1 => HB.out j j0 (by omega)) hH.out
end
end Go.Proofs.YtndaccekemjdmaaGreatDoor
