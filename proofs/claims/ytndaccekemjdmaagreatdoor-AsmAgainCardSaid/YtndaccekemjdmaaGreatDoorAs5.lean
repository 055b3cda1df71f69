/- Contracts of package asm: named. -/
import Derived.Test.YtndaccekemjdmaaGreatDoorAs4
namespace Go.Proofs.YtndaccekemjdmaaGreatDoor
open Go.RowKit
set_option linter.unusedVariables false
set_option linter.unusedSimpArgs false
theorem list_bytes (a b : ByteArray) : (a.toList == b.toList) = decide (a.data.toList = b.data.toList) := by
  rw [ByteArray.toList_eq, ByteArray.toList_eq, Bool.eq_iff_iff]
  simp
section
variable {w : World}
set_option maxRecDepth 100000 in
set_option maxHeartbeats 4000000 in
theorem named_any (s : ByteArray) (hL : Lw w) : Calls Tryz.prog 69 #[.string s] w fun e w' => e = .returned (.tuple #[fmv ((fnamed s.data.toList).getD fm0), .bool (fnamed s.data.toList).isSome]) ∧ Below w.heap.size w w' := by
  have HF : Hid (fnamed s.data.toList = (fms.drop 0).find? fun f => f.nm == s.data.toList) := Lib.hid rfl
  generalize fnamed s.data.toList = R at *
  have HR := Lib.hid fun c1 => fm_range (w := w.alloc c1) (hL.later (by repeat (first | exact Below.refl _ _ | assumption | (refine below_drewN ?_ _) | (refine Below.drew ?_) | (refine Below.alloc ?_ (by first | omega | (simp; omega) | simp) _) | (refine Below.setCell ?_ (by first | omega | (simp; omega) | simp) _) | (refine below_trans ?_ (by assumption) (by first | omega | (simp; omega) | simp)))))
  have HZ := Lib.hid fm_size
  have HAT := Lib.hid fm_at
  unfold FV at HAT
  generalize fmCells = cs at *
  go_enter Tryz.func69, Tryz.ntmps69
  go_wp2_with (refine wpList_load_mid rfl 126 _ rfl 0 0 rfl cs _ (HR.out _) Tryz.underlying126 rfl HZ.out ?_)
  go_loopw [7] (fun ii wr => ∃ k : Nat, ii = .int .i64 (k : Nat) ∧ k ≤ 20 ∧ Hid (R = (fms.drop k).find? fun f => f.nm == s.data.toList) ∧ Hid (Fm6 wr w.heap.size fm0) ∧ Hid (∀ o, wr.frozen? ⟨w.heap.size, o, none⟩ = false) ∧ Below w.heap.size w wr) (fun ii _ => 20 - (intOf ii).toNat)
  case atStart => exact ⟨0, rfl, Nat.zero_le _, HF, Lib.hid (by constructor <;> simp [go_sem, fm0, opn, bs]), Lib.hid (fun o => by simp [go_sem]), (by repeat (first | exact Below.refl _ _ | assumption | (refine below_drewN ?_ _) | (refine Below.drew ?_) | (refine Below.alloc ?_ (by first | omega | (simp; omega) | simp) _) | (refine Below.setCell ?_ (by first | omega | (simp; omega) | simp) _) | (refine below_trans ?_ (by assumption) (by first | omega | (simp; omega) | simp))))⟩
  case round =>
    obtain ⟨k, rfl, hk, HK, HB, HFZ, hb_wr⟩ := hrel
    have hsr := hb_wr.size
    have hg1 := HB.out.lt
    by_cases hlt : k < 20
    · have hd := HK.out
      rw [fms_drop k hlt, List.find?_cons] at hd
      have HD := Lib.hid hd
      have HA := Lib.hid fun W => HAT.out W k hlt
      have hk0 : (0 : Int) ≤ (k : Int) := by omega
      have hk1 : (k : Int) < 20 := by omega
      clear hd HAT HK
      generalize nthF k = f at *
      have HA2 := HA.out
      clear HA
      have hfm : fmv f = .agg #[.string (bs f.nm), .int .u8 f.kd, .int .u8 f.op, .int .i64 (opn f 0), .int .i64 (opn f 1), .int .i64 (opn f 2)] := rfl
      rw [hfm] at HA2
      clear hfm
      obtain ⟨b0, b1, b2, b3, b4, b5⟩ := id HB.out
      obtain ⟨z0, z1, z2, z3, z4, z5⟩ := (⟨HFZ.out 0, HFZ.out 1, HFZ.out 2, HFZ.out 3, HFZ.out 4, HFZ.out 5⟩ : _ ∧ _ ∧ _ ∧ _ ∧ _ ∧ _)
      have W6 : Below wr.heap.size wr (wr.alloc (.cells #[.string (bs f.nm), .int .u8 f.kd, .int .u8 f.op, .int .i64 (opn f 0), .int .i64 (opn f 1), .int .i64 (opn f 2)] 99)) := Below.alloc (Below.refl _ _) (Nat.le_refl _) _
      have HW6 := Lib.hid W6
      clear W6
      by_cases h1 : f.nm = s.data.toList
      · have e1 : ((bs f.nm).toList == s.toList) = true := by rw [list_bytes, bs_data]; simpa using h1
        have e0 : (f.nm == s.data.toList) = true := by simpa using h1
        have hR := HD.out
        rw [e0] at hR
        have HR9 : Hid (R = some f) := Lib.hid hR
        clear hR HD h1 HFZ e0
        go_wp2
        rw [HR9.out]
        exact bodyPost_ret (res_fm2 rfl rfl ((Fm6.set6 f HB.out).later (Below.alloc (Below.refl _ _) (Nat.le_refl _) _))) rfl ⟨rfl, Below.alloc (below_set6 f hb_wr (by omega)) (by simp; omega) _⟩
      · have e1 : ((bs f.nm).toList == s.toList) = false := by rw [list_bytes, bs_data]; simpa using h1
        have e0 : (f.nm == s.data.toList) = false := by simpa using h1
        have hR := HD.out
        rw [e0] at hR
        have HR9 := Lib.hid hR
        clear hR HD h1 e0
        go_wp2
        go_roundw
        case rel => exact ⟨k + 1, by go_num, by omega, HR9, Lib.hid (HB.out.later HW6.out), Lib.hid (fz_later HFZ.out HW6.out hg1), below_trans hb_wr HW6.out (by omega)⟩
        case measure => simp [intOf]; omega
    · obtain rfl : k = 20 := by omega
      have HR9 : Hid (R = none) := Lib.hid HK.out
      obtain ⟨b0, b1, b2, b3, b4, b5⟩ := id HB.out
      obtain ⟨z0, z1, z2, z3, z4, z5⟩ := (⟨HFZ.out 0, HFZ.out 1, HFZ.out 2, HFZ.out 3, HFZ.out 4, HFZ.out 5⟩ : _ ∧ _ ∧ _ ∧ _ ∧ _ ∧ _)
      clear HK HFZ
      go_wp2
      rw [HR9.out]
      exact bodyPost_ret (res_fm2 rfl rfl (Fm6.zero6 HB.out)) rfl ⟨rfl, below_zero6 hb_wr (by omega)⟩
end
end Go.Proofs.YtndaccekemjdmaaGreatDoor
