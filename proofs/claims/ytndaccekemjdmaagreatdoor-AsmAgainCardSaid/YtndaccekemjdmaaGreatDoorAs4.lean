/- Contracts of package asm: formOf, named. -/
import Derived.Test.YtndaccekemjdmaaGreatDoorAs3
namespace Go.Proofs.YtndaccekemjdmaaGreatDoor
open Go.RowKit
set_option linter.unusedVariables false
set_option linter.unusedSimpArgs false
section
variable {w : World}
set_option maxRecDepth 100000 in
set_option maxHeartbeats 4000000 in
theorem formOf_any (x : In) (hL : Lw w) : Calls Tryz.prog 50 #[inv x] w fun e w' => e = .returned (.tuple #[fmv ((formOf x).getD fm0), .bool (formOf x).isSome]) ∧ Below w.heap.size w w' := by
  have HF : Hid (formOf x = (fms.drop 0).find? fun f => f.kd == x.kd && f.op == x.op) := Lib.hid rfl
  have hNew := In11.new w x 37
  obtain ⟨kd, op, x2, x3, x4, x5, x6, x7, x8, x9, x10⟩ := x
  generalize formOf ⟨kd, op, x2, x3, x4, x5, x6, x7, x8, x9, x10⟩ = R at *
  have HR := Lib.hid fun c1 c2 => fm_range (w := (w.alloc c1).alloc c2) (hL.later (by repeat (first | exact Below.refl _ _ | assumption | (refine below_drewN ?_ _) | (refine Below.drew ?_) | (refine Below.alloc ?_ (by first | omega | (simp; omega) | simp) _) | (refine Below.setCell ?_ (by first | omega | (simp; omega) | simp) _) | (refine below_trans ?_ (by assumption) (by first | omega | (simp; omega) | simp)))))
  have HZ := Lib.hid fm_size
  have HAT := Lib.hid fm_at
  unfold FV at HAT
  generalize fmCells = cs at *
  have HN := Lib.hid hNew
  clear hNew
  unfold inv
  simp only
  go_enter Tryz.func50, Tryz.ntmps50
  go_wp2_with (refine wpList_load_mid rfl 126 _ rfl 0 0 rfl cs _ (HR.out _ _) Tryz.underlying126 rfl HZ.out ?_)
  go_loopw [7] (fun ii wr => ∃ k : Nat, ii = .int .i64 (k : Nat) ∧ k ≤ 20 ∧ Hid (R = (fms.drop k).find? fun f => f.kd == kd && f.op == op) ∧ wr.cell? ⟨w.heap.size, 0, none⟩ = some (.int .u8 kd) ∧ wr.cell? ⟨w.heap.size, 1, none⟩ = some (.int .u8 op) ∧ Hid (Fm6 wr (w.heap.size + 1) fm0) ∧ Hid (∀ o, wr.frozen? ⟨w.heap.size + 1, o, none⟩ = false) ∧ Below w.heap.size w wr) (fun ii _ => 20 - (intOf ii).toNat)
  case atStart => exact ⟨0, rfl, Nat.zero_le _, HF, by simp [go_sem], by simp [go_sem], Lib.hid (by constructor <;> simp [go_sem, fm0, opn, bs]), Lib.hid (fun o => by simp [go_sem]), (by repeat (first | exact Below.refl _ _ | assumption | (refine below_drewN ?_ _) | (refine Below.drew ?_) | (refine Below.alloc ?_ (by first | omega | (simp; omega) | simp) _) | (refine Below.setCell ?_ (by first | omega | (simp; omega) | simp) _) | (refine below_trans ?_ (by assumption) (by first | omega | (simp; omega) | simp))))⟩
  case round =>
    obtain ⟨k, rfl, hk, HK, c0, c1, HB, HFZ, hb_wr⟩ := hrel
    have hsr := hb_wr.size
    have hg1 := HB.out.lt
    have hs0 : w.heap.size < wr.heap.size := by omega
    by_cases hlt : k < 20
    · have hd := HK.out
      rw [fms_drop k hlt, List.find?_cons] at hd
      have HD := Lib.hid hd
      have HA := Lib.hid fun W => HAT.out W k hlt
      have hk0 : (0 : Int) ≤ (k : Int) := by omega
      have hk1 : (k : Int) < 20 := by omega
      clear hd HAT HK
      generalize nthF k = f at *
      have HA2 := HA.out
      clear HA
      have hfm : fmv f = .agg #[.string (bs f.nm), .int .u8 f.kd, .int .u8 f.op, .int .i64 (opn f 0), .int .i64 (opn f 1), .int .i64 (opn f 2)] := rfl
      rw [hfm] at HA2
      clear hfm
      obtain ⟨b0, b1, b2, b3, b4, b5⟩ := id HB.out
      obtain ⟨z0, z1, z2, z3, z4, z5⟩ := (⟨HFZ.out 0, HFZ.out 1, HFZ.out 2, HFZ.out 3, HFZ.out 4, HFZ.out 5⟩ : _ ∧ _ ∧ _ ∧ _ ∧ _ ∧ _)
      have W6 : Below wr.heap.size wr (wr.alloc (.cells #[.string (bs f.nm), .int .u8 f.kd, .int .u8 f.op, .int .i64 (opn f 0), .int .i64 (opn f 1), .int .i64 (opn f 2)] 99)) := Below.alloc (Below.refl _ _) (Nat.le_refl _) _
      have HW6 := Lib.hid W6
      have hc6 : Hid (∀ o, (wr.alloc (.cells #[.string (bs f.nm), .int .u8 f.kd, .int .u8 f.op, .int .i64 (opn f 0), .int .i64 (opn f 1), .int .i64 (opn f 2)] 99)).cell? ⟨w.heap.size, o, none⟩ = wr.cell? ⟨w.heap.size, o, none⟩) := Lib.hid fun o => (bcell W6).1 _ _ hs0
      clear W6
      by_cases h1 : f.kd = kd
      · have e1 : (f.kd == kd) = true := by simpa using h1
        by_cases h2 : f.op = op
        · have e2 : (f.op == op) = true := by simpa using h2
          have hR := HD.out
          rw [e1, e2] at hR
          have HR9 : Hid (R = some f) := Lib.hid hR
          clear hR HD h1 h2 HFZ
          go_wp2
          rw [HR9.out]
          exact bodyPost_ret (res_fm2 rfl rfl ((Fm6.set6 f HB.out).later (Below.alloc (Below.refl _ _) (Nat.le_refl _) _))) rfl ⟨rfl, Below.alloc (below_set6 f hb_wr (by omega)) (by simp; omega) _⟩
        · have e2 : (f.op == op) = false := by simpa using h2
          have hR := HD.out
          rw [e1, e2] at hR
          have HR9 := Lib.hid hR
          clear hR HD h1 h2
          go_wp2
          go_roundw
          case rel => exact ⟨k + 1, by go_num, by omega, HR9, (hc6.out _).trans c0, (hc6.out _).trans c1, Lib.hid (HB.out.later HW6.out), Lib.hid (fz_later HFZ.out HW6.out hg1), below_trans hb_wr HW6.out (by omega)⟩
          case measure => simp [intOf]; omega
      · have e1 : (f.kd == kd) = false := by simpa using h1
        have hR := HD.out
        rw [e1] at hR
        have HR9 := Lib.hid hR
        clear hR HD h1
        go_wp2
        go_roundw
        case rel => exact ⟨k + 1, by go_num, by omega, HR9, (hc6.out _).trans c0, (hc6.out _).trans c1, Lib.hid (HB.out.later HW6.out), Lib.hid (fz_later HFZ.out HW6.out hg1), below_trans hb_wr HW6.out (by omega)⟩
        case measure => simp [intOf]; omega
    · obtain rfl : k = 20 := by omega
      have HR9 : Hid (R = none) := Lib.hid HK.out
      obtain ⟨b0, b1, b2, b3, b4, b5⟩ := id HB.out
      obtain ⟨z0, z1, z2, z3, z4, z5⟩ := (⟨HFZ.out 0, HFZ.out 1, HFZ.out 2, HFZ.out 3, HFZ.out 4, HFZ.out 5⟩ : _ ∧ _ ∧ _ ∧ _ ∧ _ ∧ _)
      clear HK HFZ
      go_wp2
      rw [HR9.out]
      exact bodyPost_ret (res_fm2 rfl rfl (Fm6.zero6 HB.out)) rfl ⟨rfl, below_zero6 hb_wr (by omega)⟩
end
end Go.Proofs.YtndaccekemjdmaaGreatDoor
