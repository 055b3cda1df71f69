/- Contracts of the document's package: kinds. -/
import Derived.Test.YtggaijdbaplfiaaGreatDoorAs46
import Derived.Test.YtggaijdbaplfiaaGreatDoorAM2
namespace Go.Proofs.YtggaijdbaplfiaaGreatDoor
open Go.RowKit
set_option linter.unusedVariables false
set_option linter.unusedSimpArgs false
def brs : List In := fms.map bare
theorem brs_len : brs.length = 20 := rfl
def brA (k : Nat) : In := { in0 with kd := 1, op := (k : Int) + 1 }
def brB (j : Nat) : In := { in0 with kd := (j : Int) }
theorem brs_a : ∀ k, k < 14 → brs.take (k + 1) = brs.take k ++ [brA k] := by decide
theorem brs_b : ∀ j, j < 6 → brs.take (j + 14 + 1) = brs.take (j + 14) ++ [brB (j + 2)] := by decide
theorem flatI_snoc (l : List In) (x : In) : flatI l ++ inc x = flatI (l ++ [x]) := by
  rw [flatI_append]
  simp [flatI]
section
variable {w : World}
set_option maxRecDepth 100000 in
set_option maxHeartbeats 4000000 in
theorem xkinds_any : Calls Tryz.prog 41 #[] w fun e w' => ∃ A cap, e = .returned (.slice A 20 cap) ∧ PRow w' w'.heap.size A brs ∧ Below w.heap.size w w' := by
  have HA := Lib.hid brs_a
  have HB := Lib.hid brs_b
  have HE : Hid (brs.take 20 = brs) := Lib.hid rfl
  go_enter Tryz.func41, Tryz.ntmps41
  go_wp2_with fail
  go_loopw [1, 2] (fun oo kk wr => ∃ (k : Nat) (R : Option Addr) (rc : Nat), oo = .slice R k rc ∧ kk = .int .u8 ((k : Int) + 1) ∧ k ≤ 14 ∧ Hid (wr.ownsRow w.heap.size 37 11 (.slice R k rc) k (flatI (brs.take k))) ∧ Below w.heap.size w wr) (fun oo kk _ => 15 - (intOf kk).toNat)
  case atStart => exact ⟨0, none, 0, rfl, rfl, Nat.zero_le _, Lib.hid (World.ownsRow_nil _ _ _ _), (by repeat (first | exact Below.refl _ _ | assumption | (refine below_drewN ?_ _) | (refine Below.drew ?_) | (refine Below.alloc ?_ (by first | omega | (simp; omega) | simp) _) | (refine Below.setCell ?_ (by first | omega | (simp; omega) | simp) _) | (refine below_trans ?_ (by assumption) (by first | omega | (simp; omega) | simp))))⟩
  case round =>
    obtain ⟨k, R, rc, rfl, rfl, hk, OW, hb_wr⟩ := hrel
    have hsr := hb_wr.size
    by_cases hlt : k < 14
    · have d1 : decide ((k : Int) + 1 < 15) = true := decide_eq_true (by omega)
      have HT : Hid (flatI (brs.take k) ++ inc (brA k) = flatI (brs.take (k + 1))) := Lib.hid (by rw [flatI_snoc, HA.out k hlt])
      go_wp2_with (at_builtin; refine wpList_appendI ?_ (.tmp 8) (.tmp 12) ?_ w.heap.size R rc k (flatI (brs.take k)) ?_ (owns_laterI OW.out (show Below wr.heap.size wr _ from (by repeat (first | exact Below.refl _ _ | assumption | (refine below_drewN ?_ _) | (refine Below.drew ?_) | (refine Below.alloc ?_ (by first | omega | (simp; omega) | simp) _) | (refine Below.setCell ?_ (by first | omega | (simp; omega) | simp) _) | (refine below_trans ?_ (by assumption) (by first | omega | (simp; omega) | simp)))))) (some ⟨wr.heap.size, 0, none⟩) 1 1 (inc (brA k)) ?_ rfl (fun _ => ⟨wr.heap.size, 0, rfl, fl_lies wr (inc (brA k)) 37⟩) (inc_one _) (by omega) (by simp; omega) ?_; rfl; rfl; rfl; rfl; intro A7 cap7 w7 hown7 hg7 hb_w7 hat7; have hs7 := hb_w7.size)
      rw [HT.out] at hown7
      have OW7 := Lib.hid hown7
      have b7 : Below w.heap.size w w7 := below_trans (Below.alloc hb_wr (by omega) _) hb_w7 (by omega)
      clear hown7 hg7 hb_w7 hat7 HT
      go_wp2
      go_roundw
      case rel => exact ⟨k + 1, A7, cap7, rfl, by go_num, by omega, OW7, b7⟩
      case measure => simp [intOf]; omega
    · have HK14 : Hid (k = 14) := Lib.hid (by omega)
      have d1 : decide ((k : Int) + 1 < 15) = false := decide_eq_false (by omega)
      have HS14 : Hid (Value.slice R k rc = .slice R (0 + 14) rc ∧ wr.ownsRow w.heap.size 37 11 (.slice R (0 + 14) rc) (0 + 14) (flatI (brs.take (0 + 14)))) := Lib.hid (by
        have := OW.out
        rw [HK14.out] at this ⊢
        exact ⟨rfl, this⟩)
      clear HA hlt
      go_wp2_with fail
      go_loopw [1, 3] (fun oo kk wr => ∃ (j : Nat) (R : Option Addr) (rc : Nat), oo = .slice R (j + 14) rc ∧ kk = .int .u8 ((j : Int) + 2) ∧ j ≤ 6 ∧ Hid (wr.ownsRow w.heap.size 37 11 (.slice R (j + 14) rc) (j + 14) (flatI (brs.take (j + 14)))) ∧ Below w.heap.size w wr) (fun oo kk _ => 8 - (intOf kk).toNat)
      case atStart => exact ⟨0, R, rc, HS14.out.1, rfl, Nat.zero_le _, Lib.hid HS14.out.2, hb_wr⟩
      case round =>
        clear OW hb_wr hsr HS14
        generalize wr = wA at *
        obtain ⟨j, R, rc, rfl, rfl, hj, OW, hb_wA⟩ := hrel
        have hsr := hb_wA.size
        by_cases hlt : j < 6
        · have d1 : decide ((j : Int) + 2 < 8) = true := decide_eq_true (by omega)
          have HT : Hid (flatI (brs.take (j + 14)) ++ inc (brB (j + 2)) = flatI (brs.take (j + 14 + 1))) := Lib.hid (by rw [flatI_snoc, HB.out j hlt])
          go_wp2_with (at_builtin; refine wpList_appendI ?_ (.tmp 18) (.tmp 21) ?_ w.heap.size R rc (j + 14) (flatI (brs.take (j + 14))) ?_ (owns_laterI OW.out (show Below wA.heap.size wA _ from (by repeat (first | exact Below.refl _ _ | assumption | (refine below_drewN ?_ _) | (refine Below.drew ?_) | (refine Below.alloc ?_ (by first | omega | (simp; omega) | simp) _) | (refine Below.setCell ?_ (by first | omega | (simp; omega) | simp) _) | (refine below_trans ?_ (by assumption) (by first | omega | (simp; omega) | simp)))))) (some ⟨wA.heap.size, 0, none⟩) 1 1 (inc (brB (j + 2))) ?_ rfl (fun _ => ⟨wA.heap.size, 0, rfl, fl_lies wA (inc (brB (j + 2))) 37⟩) (inc_one _) (by omega) (by simp; omega) ?_; rfl; rfl; rfl; rfl; intro A7 cap7 w7 hown7 hg7 hb_w7 hat7; have hs7 := hb_w7.size)
          rw [HT.out] at hown7
          have OW7 := Lib.hid hown7
          have b7 : Below w.heap.size w w7 := below_trans (Below.alloc hb_wA (by omega) _) hb_w7 (by omega)
          clear hown7 hg7 hb_w7 hat7 HT
          go_wp2
          go_roundw
          case rel => exact ⟨j + 1, A7, cap7, by rw [show ((j + 1 : Nat) + 14) = j + 14 + 1 by omega], by go_num, by omega, Lib.hid (by have := OW7.out; rw [show ((j + 1 : Nat) + 14) = j + 14 + 1 by omega]; exact this), b7⟩
          case measure => simp [intOf]; omega
        · obtain rfl : j = 6 := by omega
          have OW6 := OW.out
          rw [show 6 + 14 = 20 from rfl, HE.out] at OW6
          have HP := Lib.hid (PRow.of_owns (A := R) (cap := rc) (l := brs) OW6)
          go_wp2
          go_ret
          exact ⟨R, rc, rfl, HP.out, hb_wA⟩
end
end Go.Proofs.YtggaijdbaplfiaaGreatDoor
