/- Contracts: a run of bits that are 0 is searched. -/
import Derived.Test.YtcokfdgbgeeabaaDoorLoops
namespace Go.Proofs.YtcokfdgbgeeabaaDoor
open Go.RowKit
set_option linter.unusedVariables false
set_option linter.unusedSimpArgs false

def NotTo (ws : List Nat) (c : Int) (k : Nat) : Prop := ∀ j : Nat, j ≤ k → (zs ws j : Int) ≠ c
theorem notTo_zero {ws : List Nat} {c : Int} (h : 1 ≤ c) : NotTo ws c 0 := fun j g => by
  obtain rfl : j = 0 := by omega
  show (0 : Int) ≠ c
  omega
section
variable {n : Int} {A : Option Addr} {ws : List Nat} {w : World} (cap : Nat) (c : Int)
theorem run_bad (hr : Row w w.heap.size A ws) (h : ¬ Right n ws) :
    Calls Tryd.prog 30 #[.agg #[.int .i64 n, .slice A ws.length cap], .int .i64 c] w fun e w' => e = .returned (.tuple #[.int .i64 0, .int .i64 2]) ∧ Below w.heap.size w w' := by
  have hR := Lib.hid h
  clear h
  go_enter Tryd.func30, Tryd.ntmps30
  go_wp2_with (go_at_call 37; refine (view_bad _ (hr.later (by repeat (first | exact Below.refl _ _ | assumption | (refine below_drewN ?_ _) | (refine Below.drew ?_) | (refine Below.alloc ?_ (by first | omega | (simp; omega) | simp) _) | (refine Below.setCell ?_ (by first | omega | (simp; omega) | simp) _) | (refine below_trans ?_ (by assumption) (by first | omega | (simp; omega) | simp))))) hR.out).mono ?_; rintro e w1 ⟨rfl, hb_w1⟩; obtain ⟨hc_w1, hf_w1⟩ := bcell hb_w1; have hz_w1_w_0 : w.heap.size < w1.heap.size := (by have hzz := hb_w1.size; (try simp only [World.size_alloc, World.size_setCell, World.size_drew, World.heap_drewN] at hzz); omega))
  go_ret2
  exact ⟨rfl, (by repeat (first | exact Below.refl _ _ | assumption | (refine below_drewN ?_ _) | (refine Below.drew ?_) | (refine Below.alloc ?_ (by first | omega | (simp; omega) | simp) _) | (refine Below.setCell ?_ (by first | omega | (simp; omega) | simp) _) | (refine below_trans ?_ (by assumption) (by first | omega | (simp; omega) | simp))))⟩
theorem run_out (hr : Row w w.heap.size A ws) (h : Right n ws) (hi : c < 1) :
    Calls Tryd.prog 30 #[.agg #[.int .i64 n, .slice A ws.length cap], .int .i64 c] w fun e w' => e = .returned (.tuple #[.int .i64 0, .int .i64 1]) ∧ Below w.heap.size w w' := by
  have hR := Lib.hid h
  clear h
  have hd : decide (c < 1) = true := by simpa using hi
  go_enter Tryd.func30, Tryd.ntmps30
  go_wp2_with (go_at_call 37; refine (view_ok _ (hr.later (by repeat (first | exact Below.refl _ _ | assumption | (refine below_drewN ?_ _) | (refine Below.drew ?_) | (refine Below.alloc ?_ (by first | omega | (simp; omega) | simp) _) | (refine Below.setCell ?_ (by first | omega | (simp; omega) | simp) _) | (refine below_trans ?_ (by assumption) (by first | omega | (simp; omega) | simp))))) hR.out).mono ?_; rintro e w1 ⟨rfl, hb_w1⟩; obtain ⟨hc_w1, hf_w1⟩ := bcell hb_w1; have hz_w1_w_0 : w.heap.size < w1.heap.size := (by have hzz := hb_w1.size; (try simp only [World.size_alloc, World.size_setCell, World.size_drew, World.heap_drewN] at hzz); omega))
  go_ret2
  exact ⟨rfl, (by repeat (first | exact Below.refl _ _ | assumption | (refine below_drewN ?_ _) | (refine Below.drew ?_) | (refine Below.alloc ?_ (by first | omega | (simp; omega) | simp) _) | (refine Below.setCell ?_ (by first | omega | (simp; omega) | simp) _) | (refine below_trans ?_ (by assumption) (by first | omega | (simp; omega) | simp))))⟩
theorem bits_run_in (hr : Row w w.heap.size A ws) (h : Right n ws) (h0 : 1 ≤ c) (h63 : c ≤ 9223372036854775807) :
    Calls Tryd.prog 30 #[.agg #[.int .i64 n, .slice A ws.length cap], .int .i64 c] w fun e w' => Told (RunP ws c n) e ∧ Below w.heap.size w w' := by
  have hn := h.1
  have hn2 := h.2.1
  have hl := h.long
  have hl2 := right_len h
  have hR := Lib.hid h
  clear h
  have hd : decide (c < 1) = false := by simpa using h0
  go_enter Tryd.func30, Tryd.ntmps30
  go_wp2_with (go_at_call 37; refine (view_ok _ (hr.later (by repeat (first | exact Below.refl _ _ | assumption | (refine below_drewN ?_ _) | (refine Below.drew ?_) | (refine Below.alloc ?_ (by first | omega | (simp; omega) | simp) _) | (refine Below.setCell ?_ (by first | omega | (simp; omega) | simp) _) | (refine below_trans ?_ (by assumption) (by first | omega | (simp; omega) | simp))))) hR.out).mono ?_; rintro e w1 ⟨rfl, hb_w1⟩; obtain ⟨hc_w1, hf_w1⟩ := bcell hb_w1; have hz_w1_w_0 : w.heap.size < w1.heap.size := (by have hzz := hb_w1.size; (try simp only [World.size_alloc, World.size_setCell, World.size_drew, World.heap_drewN] at hzz); omega))
  go_loopw [8, 23] (fun z i wr => ∃ (k m : Nat), i = .int .i64 k ∧ (k : Int) ≤ n ∧ z = .int .i64 (zs ws k : Nat) ∧ NotTo ws c k ∧ wr = (w1.alloc (.cells #[.int .i64 n, .slice A ws.length cap] 61)).drewN m) (fun _ i _ => n.toNat - (intOf i).toNat)
  case atStart => exact ⟨0, 0, rfl, hn, rfl, notTo_zero h0, rfl⟩
  case round =>
    obtain ⟨k, m, rfl, hk, rfl, hN, rfl⟩ := hrel
    have hzl := zs_le ws k
    have HZ : Hid (zs ws (k + 1) = if tb ws k then 0 else zs ws k + 1) := Lib.hid rfl
    by_cases hlt : (k : Int) < n
    · go_wp2_with (go_at_call 38; refine (at_row k _ cap (hr.later (by repeat (first | exact Below.refl _ _ | assumption | (refine below_drewN ?_ _) | (refine Below.drew ?_) | (refine Below.alloc ?_ (by first | omega | (simp; omega) | simp) _) | (refine Below.setCell ?_ (by first | omega | (simp; omega) | simp) _) | (refine below_trans ?_ (by assumption) (by first | omega | (simp; omega) | simp))))) (by omega) (by omega) hl2 (by simp [go_sem])).mono ?_; rintro e w2 ⟨rfl, n2, rfl⟩; simp only [Int.toNat_natCast])
      · have ht : tb ws k = true := by assumption
        go_roundw
        case rel => exact ⟨k + 1, _, by go_num, by omega, by rw [HZ.out, ht]; rfl, fun j g => by
            by_cases e : j = k + 1
            · rw [e, HZ.out, ht]; show (0 : Int) ≠ c; omega
            · exact hN j (by omega), rfl⟩
        case measure => simp [intOf]; omega
      · have ht : tb ws k = false := by assumption
        have hq : (((zs ws k : Nat) : Int) + 1 == c) = true := by assumption
        have hq' := eq_of_beq hq
        go_ret2
        exact ⟨⟨_, 0, rfl, .inl ⟨rfl, k, hlt, by rw [HZ.out, ht]; simp; omega, hN, rfl⟩⟩, (by repeat (first | exact Below.refl _ _ | assumption | (refine below_drewN ?_ _) | (refine Below.drew ?_) | (refine Below.alloc ?_ (by first | omega | (simp; omega) | simp) _) | (refine Below.setCell ?_ (by first | omega | (simp; omega) | simp) _) | (refine below_trans ?_ (by assumption) (by first | omega | (simp; omega) | simp))))⟩
      · have ht : tb ws k = false := by assumption
        have hq : (((zs ws k : Nat) : Int) + 1 == c) = false := by assumption
        go_roundw
        case rel => exact ⟨k + 1, _, by go_num, by omega, by rw [HZ.out, ht]; go_num, fun j g => by
            by_cases e : j = k + 1
            · rw [e, HZ.out, ht]; have := beq_eq_false_iff_ne.1 hq; simp; omega
            · exact hN j (by omega), rfl⟩
        case measure => simp [intOf]; omega
    · go_wp2
      go_ret2
      exact ⟨⟨0, 3, rfl, .inr ⟨rfl, rfl, fun j g1 => hN j (by omega)⟩⟩, (by repeat (first | exact Below.refl _ _ | assumption | (refine below_drewN ?_ _) | (refine Below.drew ?_) | (refine Below.alloc ?_ (by first | omega | (simp; omega) | simp) _) | (refine Below.setCell ?_ (by first | omega | (simp; omega) | simp) _) | (refine below_trans ?_ (by assumption) (by first | omega | (simp; omega) | simp))))⟩
end
end Go.Proofs.YtcokfdgbgeeabaaDoor
