/- What the laws of arena ask first: answers that the document gives. -/
import Derived.Test.YtofkdpgnngbkfaaC1
namespace Go.Proofs.Ytofkdpgnngbkfaa
open Go.RowKit
set_option linter.unusedVariables false
set_option linter.unusedSimpArgs false

theorem words_lit {ws : List Nat} (h : ws.all (fun x => decide (x < W64)) = true) : Words ws := fun x hx => by simpa using List.all_eq_true.1 h x hx
theorem w_make (W : World) : Calls Try.prog 9 #[.int .i64 3] W fun e w' => FreshA W [0, 0, 0] 0 e w' := amake_ok 3 W (by decide) (by decide)
theorem w_store (W : World) (A : Option Addr) (cap : Nat) (hr : Row W W.heap.size A [0, 0, 0]) : Calls Try.prog 17 #[.agg #[.slice A 3 cap], .int .u64 2, .int .u64 7] W fun e w' => FreshA W [0, 0, 7] 0 e w' :=
  store_any cap 2 7 hr (by decide) (by decide) (by decide)
theorem w_load2 (W : World) (A : Option Addr) (cap : Nat) (hr : Row W W.heap.size A [0, 0, 7]) : Calls Try.prog 5 #[.agg #[.slice A 3 cap], .int .u64 2] W fun e w' => e = .returned (.tuple #[.int .u64 7, .int .i64 0]) ∧ Below W.heap.size W w' :=
  load_any cap 2 hr (by decide)
theorem w_load3 (W : World) (A : Option Addr) (cap : Nat) (hr : Row W W.heap.size A [0, 0, 7]) : Calls Try.prog 5 #[.agg #[.slice A 3 cap], .int .u64 3] W fun e w' => e = .returned (.tuple #[.int .u64 0, .int .i64 1]) ∧ Below W.heap.size W w' :=
  load_any cap 3 hr (by decide)
theorem w_sum (W : World) (A B : Option Addr) (cap cap' : Nat) (hr : Row W W.heap.size A [0, 0, 7]) (hp : Row W W.heap.size B [2, 2, 0]) : Calls Try.prog 7 #[.agg #[.slice A 3 cap], .slice B 3 cap'] W fun e w' => e = .returned (.tuple #[.int .u64 14, .int .i64 0]) ∧ Below W.heap.size W w' :=
  (sum_ok cap cap' hr hp (by decide) (by decide)).mono fun e w' ⟨h, hb⟩ => ⟨by
    rcases h with ⟨_, h⟩ | ⟨h, _⟩
    · exact h
    · exact absurd (fun j hj => by
        match j, hj with
        | 0, _ => decide
        | 1, _ => decide
        | 2, _ => decide) h, hb⟩

theorem row_lit (W : World) (ws : List Nat) (hw : Words ws) : Row (W.alloc (.cells (vals ws).toArray 25)) (W.alloc (.cells (vals ws).toArray 25)).heap.size (some ⟨W.heap.size, 0, none⟩) ws := (Own.of_block (heap_alloc_new _ _) (Nat.le_refl _) hw).row
theorem m_clear (W : World) (A : Option Addr) (cap : Nat) (hr : Row W W.heap.size A [1, 1, 2, 0]) : Calls Try.prog 20 #[.agg #[.slice A 4 cap], .int .u64 0, .int .u64 2] W fun e w' => FreshA W [0, 0, 2, 0] 0 e w' :=
  clear_any cap 0 2 hr (by decide) (by decide) (by decide)
theorem words_any (w : World) : Calls Try.prog 11 #[] w fun e w' => e = .returned (.bool true) ∧ Below w.heap.size w w' := by
  go_enter Try.func11, Try.ntmps11
  go_wp2_with fail
  go_at_call 9
  refine (w_make _).mono ?_
  rintro e w1 ⟨A1, cap1, rfl, ho1, hb_w1⟩
  obtain ⟨hc_w1, hf_w1⟩ := bcell hb_w1; have hs_w1 := hb_w1.size; (try simp only [World.size_alloc, World.size_setCell, World.size_drew, World.heap_drewN] at hs_w1)
  go_wp2_with fail
  go_at_call 17
  refine (w_store _ _ _ (ho1.1.row.later (by repeat (first | exact Below.refl _ _ | assumption | (refine below_drewN ?_ _) | (refine Below.drew ?_) | (refine Below.alloc ?_ (by first | omega | (simp; omega) | simp) _) | (refine Below.setCell ?_ (by first | omega | (simp; omega) | simp) _) | (refine below_trans ?_ (by assumption) (by first | omega | (simp; omega) | simp)))))).mono ?_
  rintro e w2 ⟨A2, cap2, rfl, ho2, hb_w2⟩
  obtain ⟨hc_w2, hf_w2⟩ := bcell hb_w2; have hz_w2_w1_0 : w1.heap.size < w2.heap.size := (by have hzz := hb_w2.size; (try simp only [World.size_alloc, World.size_setCell, World.size_drew, World.heap_drewN] at hzz); omega); have hs_w2 := hb_w2.size; (try simp only [World.size_alloc, World.size_setCell, World.size_drew, World.heap_drewN] at hs_w2)
  go_wp2_with fail
  go_at_call 5
  refine (w_load2 _ _ _ (ho2.1.row.later (by repeat (first | exact Below.refl _ _ | assumption | (refine below_drewN ?_ _) | (refine Below.drew ?_) | (refine Below.alloc ?_ (by first | omega | (simp; omega) | simp) _) | (refine Below.setCell ?_ (by first | omega | (simp; omega) | simp) _) | (refine below_trans ?_ (by assumption) (by first | omega | (simp; omega) | simp)))))).mono ?_
  rintro e w3 ⟨rfl, hb_w3⟩
  obtain ⟨hc_w3, hf_w3⟩ := bcell hb_w3; have hz_w3_w1_0 : w1.heap.size < w3.heap.size := (by have hzz := hb_w3.size; (try simp only [World.size_alloc, World.size_setCell, World.size_drew, World.heap_drewN] at hzz); omega); have hz_w3_w2_0 : w2.heap.size < w3.heap.size := (by have hzz := hb_w3.size; (try simp only [World.size_alloc, World.size_setCell, World.size_drew, World.heap_drewN] at hzz); omega); have hs_w3 := hb_w3.size; (try simp only [World.size_alloc, World.size_setCell, World.size_drew, World.heap_drewN] at hs_w3)
  go_wp2_with fail
  go_at_call 5
  refine (w_load3 _ _ _ (ho2.1.row.later (by repeat (first | exact Below.refl _ _ | assumption | (refine below_drewN ?_ _) | (refine Below.drew ?_) | (refine Below.alloc ?_ (by first | omega | (simp; omega) | simp) _) | (refine Below.setCell ?_ (by first | omega | (simp; omega) | simp) _) | (refine below_trans ?_ (by assumption) (by first | omega | (simp; omega) | simp)))))).mono ?_
  rintro e w4 ⟨rfl, hb_w4⟩
  obtain ⟨hc_w4, hf_w4⟩ := bcell hb_w4; have hz_w4_w1_0 : w1.heap.size < w4.heap.size := (by have hzz := hb_w4.size; (try simp only [World.size_alloc, World.size_setCell, World.size_drew, World.heap_drewN] at hzz); omega); have hz_w4_w2_0 : w2.heap.size < w4.heap.size := (by have hzz := hb_w4.size; (try simp only [World.size_alloc, World.size_setCell, World.size_drew, World.heap_drewN] at hzz); omega); have hs_w4 := hb_w4.size; (try simp only [World.size_alloc, World.size_setCell, World.size_drew, World.heap_drewN] at hs_w4)
  go_wp2_with fail
  go_at_call 7
  refine (w_sum _ _ _ _ _ (ho2.1.row.later (by repeat (first | exact Below.refl _ _ | assumption | (refine below_drewN ?_ _) | (refine Below.drew ?_) | (refine Below.alloc ?_ (by first | omega | (simp; omega) | simp) _) | (refine Below.setCell ?_ (by first | omega | (simp; omega) | simp) _) | (refine below_trans ?_ (by assumption) (by first | omega | (simp; omega) | simp))))) (row_lit w4 [2, 2, 0] (words_lit (by decide)))).mono ?_
  rintro e w5 ⟨rfl, hb_w5⟩
  obtain ⟨hc_w5, hf_w5⟩ := bcell hb_w5; have hz_w5_w1_0 : w1.heap.size < w5.heap.size := (by have hzz := hb_w5.size; (try simp only [World.size_alloc, World.size_setCell, World.size_drew, World.heap_drewN] at hzz); omega); have hz_w5_w2_0 : w2.heap.size < w5.heap.size := (by have hzz := hb_w5.size; (try simp only [World.size_alloc, World.size_setCell, World.size_drew, World.heap_drewN] at hzz); omega); have hs_w5 := hb_w5.size; (try simp only [World.size_alloc, World.size_setCell, World.size_drew, World.heap_drewN] at hs_w5)
  go_wp2
  go_ret
  exact ⟨rfl, (by repeat (first | exact Below.refl _ _ | assumption | (refine below_drewN ?_ _) | (refine Below.drew ?_) | (refine Below.alloc ?_ (by first | omega | (simp; omega) | simp) _) | (refine Below.setCell ?_ (by first | omega | (simp; omega) | simp) _) | (refine below_trans ?_ (by assumption) (by first | omega | (simp; omega) | simp))))⟩
end Go.Proofs.Ytofkdpgnngbkfaa
