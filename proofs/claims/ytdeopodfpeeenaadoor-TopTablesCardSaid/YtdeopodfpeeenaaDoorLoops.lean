/- Contracts: bits are counted. -/
import Derived.Test.YtdeopodfpeeenaaDoorRFill
import Derived.Test.YtdeopodfpeeenaaDoorSpec
namespace Go.Proofs.YtdeopodfpeeenaaDoor
open Go.RowKit
set_option linter.unusedVariables false
set_option linter.unusedSimpArgs false

theorem at_row {A : Option Addr} {ws : List Nat} {w : World} (i : Int) (vb cap : Nat) (hr : Row w w.heap.size A ws) (h0 : 0 ≤ i) (h1 : i < 64 * ws.length) (hl : ws.length ≤ 64) (hc : w.cell? ⟨vb, 1, none⟩ = some (.slice A ws.length cap)) :
    Calls Tryd.prog 28 #[.pointer (some ⟨vb, 0, none⟩), .int .i64 i] w fun e w' => e = .returned (.bool (tb ws i.toNat)) ∧ ∃ n, w' = w.drewN n := by
  obtain ⟨b, off, rfl, hb, hcc⟩ := hr.at_ (by omega)
  have := at_any i vb b off ws.length cap _ w h0 h1 hl (hr.words.at_ _) hc (hcc (i / 64).toNat (by omega))
  unfold tb
  rw [show i.toNat / 64 = (i / 64).toNat by omega, show i.toNat % 64 = (i % 64).toNat by omega]
  exact this

section
variable {n : Int} {A : Option Addr} {ws : List Nat} {w : World} (cap : Nat)
theorem count_bad (hr : Row w w.heap.size A ws) (h : ¬ Right n ws) :
    Calls Tryd.prog 14 #[.agg #[.int .i64 n, .slice A ws.length cap]] w fun e w' => e = .returned (.tuple #[.int .i64 0, .int .i64 2]) ∧ Below w.heap.size w w' := by
  have hR := Lib.hid h
  clear h
  go_enter Tryd.func14, Tryd.ntmps14
  go_wp2_with (go_at_call 27; refine (view_bad _ (hr.later (by repeat (first | exact Below.refl _ _ | assumption | (refine below_drewN ?_ _) | (refine Below.drew ?_) | (refine Below.alloc ?_ (by first | omega | (simp; omega) | simp) _) | (refine Below.setCell ?_ (by first | omega | (simp; omega) | simp) _) | (refine below_trans ?_ (by assumption) (by first | omega | (simp; omega) | simp))))) hR.out).mono ?_; rintro e w1 ⟨rfl, hb_w1⟩; obtain ⟨hc_w1, hf_w1⟩ := bcell hb_w1; have hz_w1_w_0 : w.heap.size < w1.heap.size := (by have hzz := hb_w1.size; (try simp only [World.size_alloc, World.size_setCell, World.size_drew, World.heap_drewN] at hzz); omega))
  go_ret2
  exact ⟨rfl, (by repeat (first | exact Below.refl _ _ | assumption | (refine below_drewN ?_ _) | (refine Below.drew ?_) | (refine Below.alloc ?_ (by first | omega | (simp; omega) | simp) _) | (refine Below.setCell ?_ (by first | omega | (simp; omega) | simp) _) | (refine below_trans ?_ (by assumption) (by first | omega | (simp; omega) | simp))))⟩
theorem count_ok (hr : Row w w.heap.size A ws) (h : Right n ws) :
    Calls Tryd.prog 14 #[.agg #[.int .i64 n, .slice A ws.length cap]] w fun e w' => e = .returned (.tuple #[.int .i64 (countTo ws n.toNat : Nat), .int .i64 0]) ∧ Below w.heap.size w w' := by
  have hn := h.1
  have hn2 := h.2.1
  have hl := h.long
  have hl2 := right_len h
  have hR := Lib.hid h
  clear h
  go_enter Tryd.func14, Tryd.ntmps14
  go_wp2_with (go_at_call 27; refine (view_ok _ (hr.later (by repeat (first | exact Below.refl _ _ | assumption | (refine below_drewN ?_ _) | (refine Below.drew ?_) | (refine Below.alloc ?_ (by first | omega | (simp; omega) | simp) _) | (refine Below.setCell ?_ (by first | omega | (simp; omega) | simp) _) | (refine below_trans ?_ (by assumption) (by first | omega | (simp; omega) | simp))))) hR.out).mono ?_; rintro e w1 ⟨rfl, hb_w1⟩; obtain ⟨hc_w1, hf_w1⟩ := bcell hb_w1; have hz_w1_w_0 : w.heap.size < w1.heap.size := (by have hzz := hb_w1.size; (try simp only [World.size_alloc, World.size_setCell, World.size_drew, World.heap_drewN] at hzz); omega))
  go_loopw [6, 19] (fun c i wr => ∃ k m : Nat, i = .int .i64 k ∧ (k : Int) ≤ n ∧ c = .int .i64 (countTo ws k : Nat) ∧ wr = (w1.alloc (.cells #[.int .i64 n, .slice A ws.length cap] 68)).drewN m) (fun _ i _ => n.toNat - (intOf i).toNat)
  case atStart => exact ⟨0, 0, rfl, hn, rfl, rfl⟩
  case round =>
    obtain ⟨k, m, rfl, hk, rfl, rfl⟩ := hrel
    have hcl := countTo_le ws k
    by_cases hlt : (k : Int) < n
    · have HC : Hid (countTo ws (k + 1) = countTo ws k + if tb ws k then 1 else 0) := Lib.hid rfl
      go_wp2_with (go_at_call 28; refine (at_row k _ cap (hr.later (by repeat (first | exact Below.refl _ _ | assumption | (refine below_drewN ?_ _) | (refine Below.drew ?_) | (refine Below.alloc ?_ (by first | omega | (simp; omega) | simp) _) | (refine Below.setCell ?_ (by first | omega | (simp; omega) | simp) _) | (refine below_trans ?_ (by assumption) (by first | omega | (simp; omega) | simp))))) (by omega) (by omega) hl2 (by simp [go_sem])).mono ?_; rintro e w2 ⟨rfl, n2, rfl⟩; simp only [Int.toNat_natCast])
      · have ht : tb ws k = true := by assumption
        go_roundw
        case rel => exact ⟨k + 1, _, by go_num, by omega, by rw [HC.out, ht]; go_num, rfl⟩
        case measure => simp [intOf]; omega
      · have ht : tb ws k = false := by assumption
        go_roundw
        case rel => exact ⟨k + 1, _, by go_num, by omega, by rw [HC.out, ht]; rfl, rfl⟩
        case measure => simp [intOf]; omega
    · have hkn : n.toNat = k := by omega
      go_wp2
      go_ret2
      exact ⟨rfl, (by repeat (first | exact Below.refl _ _ | assumption | (refine below_drewN ?_ _) | (refine Below.drew ?_) | (refine Below.alloc ?_ (by first | omega | (simp; omega) | simp) _) | (refine Below.setCell ?_ (by first | omega | (simp; omega) | simp) _) | (refine below_trans ?_ (by assumption) (by first | omega | (simp; omega) | simp))))⟩
/-- what First and Run answer: as P says -/
def Told (P : Int → Int → Prop) (e : Ending) : Prop := ∃ i why : Int, e = .returned (.tuple #[.int .i64 i, .int .i64 why]) ∧ P i why
def NoneTo (ws : List Nat) (v : Bool) (a k : Int) : Prop := ∀ j : Nat, a ≤ j → (j : Int) < k → tb ws j ≠ v
variable (a : Int) (v : Bool)
end
end Go.Proofs.YtdeopodfpeeenaaDoor
