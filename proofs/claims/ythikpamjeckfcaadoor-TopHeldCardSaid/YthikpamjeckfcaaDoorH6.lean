/- The walk of the law TopHeld, for every number of pages. -/
import Derived.Test.YthikpamjeckfcaaDoorH3
namespace Go.Proofs.YthikpamjeckfcaaDoor
open Go.RowKit
set_option linter.unusedVariables false
set_option linter.unusedSimpArgs false

set_option maxRecDepth 100000 in
set_option maxHeartbeats 2000000 in
theorem topHeld_out (n : Int) (C D : Option Addr) (lc ld cc cd : Nat) (w : World) (h : ¬ (0 ≤ n ∧ n ≤ 4096)) :
    Calls Tryd.prog 3 #[.int .i64 n, .slice C lc cc, .slice D ld cd] w fun e w' => e = .returned (.bool true) ∧ Below w.heap.size w w' := by
  by_cases h0 : n < 0
  · have d1 : decide (n < 0) = true := decide_eq_true h0
    go_enter Tryd.func3, Tryd.ntmps3
    go_wp2_with fail
    go_at_call 5
    refine (begins_any _).mono ?_
    rintro e w1 ⟨rfl, hb_w1⟩
    obtain ⟨hc_w1, hf_w1⟩ := bcell hb_w1; have hs_w1 := hb_w1.size; (try simp only [World.size_alloc, World.size_setCell, World.size_drew, World.heap_drewN] at hs_w1)
    go_wp2_with fail
    go_at_call 6
    refine (pmake_bad n _ h).mono ?_
    rintro e w2 ⟨A2, cap2, rfl, ho2, hb_w2⟩
    obtain ⟨hc_w2, hf_w2⟩ := bcell hb_w2; have hs_w2 := hb_w2.size; (try simp only [World.size_alloc, World.size_setCell, World.size_drew, World.heap_drewN] at hs_w2)
    go_wp2
    go_ret
    exact ⟨rfl, (by repeat (first | exact Below.refl _ _ | assumption | (refine below_drewN ?_ _) | (refine Below.drew ?_) | (refine Below.alloc ?_ (by first | omega | (simp; omega) | simp) _) | (refine Below.setCell ?_ (by first | omega | (simp; omega) | simp) _) | (refine below_trans ?_ (by assumption) (by first | omega | (simp; omega) | simp))))⟩
  · have d1 : decide (n < 0) = false := decide_eq_false h0
    have d2 : decide (4096 < n) = true := decide_eq_true (by omega)
    go_enter Tryd.func3, Tryd.ntmps3
    go_wp2_with fail
    go_at_call 5
    refine (begins_any _).mono ?_
    rintro e w1 ⟨rfl, hb_w1⟩
    obtain ⟨hc_w1, hf_w1⟩ := bcell hb_w1; have hs_w1 := hb_w1.size; (try simp only [World.size_alloc, World.size_setCell, World.size_drew, World.heap_drewN] at hs_w1)
    go_wp2_with fail
    go_at_call 6
    refine (pmake_bad n _ h).mono ?_
    rintro e w2 ⟨A2, cap2, rfl, ho2, hb_w2⟩
    obtain ⟨hc_w2, hf_w2⟩ := bcell hb_w2; have hs_w2 := hb_w2.size; (try simp only [World.size_alloc, World.size_setCell, World.size_drew, World.heap_drewN] at hs_w2)
    go_wp2
    go_ret
    exact ⟨rfl, (by repeat (first | exact Below.refl _ _ | assumption | (refine below_drewN ?_ _) | (refine Below.drew ?_) | (refine Below.alloc ?_ (by first | omega | (simp; omega) | simp) _) | (refine Below.setCell ?_ (by first | omega | (simp; omega) | simp) _) | (refine below_trans ?_ (by assumption) (by first | omega | (simp; omega) | simp))))⟩
theorem topHeld_walk (n : Int) (C D : Option Addr) (cc cd : Nat) (xs : List Int) (od : List Nat) (w : World) (hs : Sizes w) (hq : IRow w w.heap.size C xs) (hxl : xs.length ≤ 17592186044416) (ho : URow w w.heap.size D od) (hol : od.length ≤ 140737488355328) :
    Calls Tryd.prog 3 #[.int .i64 n, .slice C xs.length cc, .slice D od.length cd] w fun e w' => e = .returned (.bool true) ∧ Below w.heap.size w w' := by
  by_cases h : 0 ≤ n ∧ n ≤ 4096
  · obtain ⟨n, rfl⟩ := Int.eq_ofNat_of_zero_le h.1
    exact topHeld_main n C D cc cd xs od w hs hq hxl ho hol (by omega)
  · exact topHeld_out n C D _ _ cc cd w h
end Go.Proofs.YthikpamjeckfcaaDoor
