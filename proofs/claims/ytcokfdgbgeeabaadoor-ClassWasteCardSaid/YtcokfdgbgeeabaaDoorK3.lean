/- The walks of the laws ClassDoes, ClassFits, ClassOrder. -/
import Derived.Test.YtcokfdgbgeeabaaDoorK2
namespace Go.Proofs.YtcokfdgbgeeabaaDoor
open Go.RowKit
set_option linter.unusedVariables false
set_option linter.unusedSimpArgs false

abbrev Tells (f : Nat) (args : Array Value) (r y : Int) : Prop := ∀ w : World, Sizes w → Calls Tryd.prog f args w fun e w' => e = .returned (.tuple #[.int .i64 r, .int .i64 y]) ∧ w = w'
theorem cof_both (x : Int) : ∃ r y : Int, Tells 8 #[.int .i64 x] r y ∧ Tells 9 #[.int .i64 x] r y := by
  by_cases h : In x
  · exact ⟨_, _, fun w hs => cof_in hs x h.1 h.2, fun w _ => rcof_in x h.1 h.2⟩
  · exact ⟨_, _, fun w _ => cof_out x h, fun w _ => rcof_out x h⟩
theorem csize_both (c : Int) : ∃ r y : Int, Tells 10 #[.int .i64 c] r y ∧ Tells 11 #[.int .i64 c] r y := by
  by_cases h : 0 ≤ c ∧ c < 4
  · exact ⟨_, _, fun w hs => csize_in hs c h.1 h.2, fun w _ => rcsize_in c h.1 h.2⟩
  · exact ⟨_, _, fun w _ => csize_out c h, fun w _ => rcsize_out c h⟩
theorem cslots_both (c : Int) : ∃ r y : Int, Tells 12 #[.int .i64 c] r y ∧ Tells 13 #[.int .i64 c] r y := by
  by_cases h : 0 ≤ c ∧ c < 4
  · exact ⟨_, _, fun w hs => cslots_in hs c h.1 h.2, fun w _ => rcslots_in c h.1 h.2⟩
  · exact ⟨_, _, fun w _ => cslots_out c h, fun w _ => rcslots_out c h⟩
theorem cpages_both (x : Int) : ∃ r y : Int, Tells 14 #[.int .i64 x] r y ∧ Tells 15 #[.int .i64 x] r y := by
  by_cases h : In x
  · exact ⟨_, _, fun w hs => cpages_in hs x h.1 h.2, fun w _ => rcpages_in x h.1 h.2⟩
  · exact ⟨_, _, fun w _ => cpages_out x h, fun w _ => rcpages_out x h⟩
theorem cwaste_both (xs : List Int) (hl : xs.length ≤ 17592186044416) : ∃ r y : Int,
    (∀ (w : World) (A : Option Addr) (cap : Nat), Sizes w → IRow w w.heap.size A xs → Calls Tryd.prog 16 #[.slice A xs.length cap] w fun e w' => e = .returned (.tuple #[.int .i64 r, .int .i64 y]) ∧ w = w') ∧
    (∀ (w : World) (A : Option Addr) (cap : Nat), IRow w w.heap.size A xs → Calls Tryd.prog 17 #[.slice A xs.length cap] w fun e w' => e = .returned (.tuple #[.int .i64 r, .int .i64 y]) ∧ w = w') := by
  by_cases h : AllW xs xs.length
  · exact ⟨_, _, fun w A cap hs hr => (cwaste_any cap hs hr hl).mono fun e w' hh => ⟨hh.1.good h, hh.2⟩, fun w A cap hr => (rcwaste_any cap hr hl).mono fun e w' hh => ⟨hh.1.good h, hh.2⟩⟩
  · exact ⟨_, _, fun w A cap hs hr => (cwaste_any cap hs hr hl).mono fun e w' hh => ⟨hh.1.bad h, hh.2⟩, fun w A cap hr => (rcwaste_any cap hr hl).mono fun e w' hh => ⟨hh.1.bad h, hh.2⟩⟩

set_option maxHeartbeats 1000000 in
theorem classDoes_walk (x c : Int) (A : Option Addr) (cap : Nat) (xs : List Int) (w : World) (hs : Sizes w) (hr : IRow w w.heap.size A xs) (hl : xs.length ≤ 17592186044416) :
    Calls Tryd.prog 3 #[.int .i64 x, .int .i64 c, .slice A xs.length cap] w fun e w' => e = .returned (.bool true) ∧ Below w.heap.size w w' := by
  obtain ⟨r1, y1, a1, b1⟩ := cof_both x
  obtain ⟨r2, y2, a2, b2⟩ := csize_both c
  obtain ⟨r3, y3, a3, b3⟩ := cslots_both c
  obtain ⟨r4, y4, a4, b4⟩ := cpages_both x
  obtain ⟨r5, y5, a5, b5⟩ := cwaste_both xs hl
  have A1 := Lib.hid a1
  have B1 := Lib.hid b1
  have e1 : (r1 == r1) = true := by simp
  have f1 : (y1 == y1) = true := by simp
  have A2 := Lib.hid a2
  have B2 := Lib.hid b2
  have e2 : (r2 == r2) = true := by simp
  have f2 : (y2 == y2) = true := by simp
  have A3 := Lib.hid a3
  have B3 := Lib.hid b3
  have e3 : (r3 == r3) = true := by simp
  have f3 : (y3 == y3) = true := by simp
  have A4 := Lib.hid a4
  have B4 := Lib.hid b4
  have e4 : (r4 == r4) = true := by simp
  have f4 : (y4 == y4) = true := by simp
  have A5 := Lib.hid a5
  have B5 := Lib.hid b5
  have e5 : (r5 == r5) = true := by simp
  have f5 : (y5 == y5) = true := by simp
  clear a1 b1 a2 b2 a3 b3 a4 b4 a5 b5
  go_enter Tryd.func3, Tryd.ntmps3
  go_wp2_with fail
  go_at_call 8
  refine (A1.out _ hs).mono ?_
  rintro e w0 ⟨rfl, rfl⟩
  go_wp2_with fail
  go_at_call 9
  refine (B1.out _ hs).mono ?_
  rintro e w0 ⟨rfl, rfl⟩
  go_wp2_with fail
  go_at_call 10
  refine (A2.out _ hs).mono ?_
  rintro e w0 ⟨rfl, rfl⟩
  go_wp2_with fail
  go_at_call 11
  refine (B2.out _ hs).mono ?_
  rintro e w0 ⟨rfl, rfl⟩
  go_wp2_with fail
  go_at_call 12
  refine (A3.out _ hs).mono ?_
  rintro e w0 ⟨rfl, rfl⟩
  go_wp2_with fail
  go_at_call 13
  refine (B3.out _ hs).mono ?_
  rintro e w0 ⟨rfl, rfl⟩
  go_wp2_with fail
  go_at_call 14
  refine (A4.out _ hs).mono ?_
  rintro e w0 ⟨rfl, rfl⟩
  go_wp2_with fail
  go_at_call 15
  refine (B4.out _ hs).mono ?_
  rintro e w0 ⟨rfl, rfl⟩
  go_wp2_with fail
  go_at_call 16
  refine (A5.out _ _ _ hs hr).mono ?_
  rintro e w0 ⟨rfl, rfl⟩
  go_wp2_with fail
  go_at_call 17
  refine (B5.out _ _ _ hr).mono ?_
  rintro e w0 ⟨rfl, rfl⟩
  go_wp2_with fail
  go_at_call 18
  refine (clives_any _ hs).mono ?_
  rintro e w1 ⟨rfl, hb_w1⟩
  go_wp2
  go_ret
  exact ⟨rfl, (by repeat (first | exact Below.refl _ _ | assumption | (refine below_drewN ?_ _) | (refine Below.drew ?_) | (refine Below.alloc ?_ (by first | omega | (simp; omega) | simp) _) | (refine Below.setCell ?_ (by first | omega | (simp; omega) | simp) _) | (refine below_trans ?_ (by assumption) (by first | omega | (simp; omega) | simp))))⟩

set_option maxHeartbeats 1000000 in
theorem classFits_walk (x : Int) (w : World) (hs : Sizes w) :
    Calls Tryd.prog 4 #[.int .i64 x] w fun e w' => e = .returned (.bool true) ∧ Below w.heap.size w w' := by
  by_cases hin : In x
  · obtain ⟨h0, h1⟩ := hin
    rcases clsOf_case x h0 with ⟨g, hc⟩ | ⟨g', g, hc⟩ | ⟨g', g, hc⟩ | ⟨g', g, hc⟩ | ⟨g', hc⟩
    · have HC := Lib.hid hc
      have HP : Hid (pgOf x = 1) := Lib.hid (if_pos (by omega))
      have d1 : decide (x ≤ 2) = true := decide_eq_true g
      clear hc
      go_enter Tryd.func4, Tryd.ntmps4
      go_wp2_with fail
      go_at_call 18
      refine (clives_any _ hs).mono ?_
      rintro e w1 ⟨rfl, hb_w1⟩
      obtain ⟨hc_w1, hf_w1⟩ := bcell hb_w1; have hs_w1 := hb_w1.size; (try simp only [World.size_alloc, World.size_setCell, World.size_drew, World.heap_drewN] at hs_w1)
      have S1 := hs.later hb_w1
      go_wp2_with fail
      go_at_call 8
      refine (cof_in S1 x h0 h1).mono ?_
      rintro e w0 ⟨rfl, rfl⟩
      rw [HC.out]
      go_wp2_with fail
      go_at_call 14
      refine (cpages_in S1 x h0 h1).mono ?_
      rintro e w0 ⟨rfl, rfl⟩
      rw [HP.out]
      go_wp2_with fail
      go_at_call 10
      refine (csize_in S1 0 (by omega) (by omega)).mono ?_
      rintro e w0 ⟨rfl, rfl⟩
      rw [show szOf 0 = 2 by decide]
      go_wp2_with fail
      go_at_call 12
      refine (cslots_in S1 0 (by omega) (by omega)).mono ?_
      rintro e w0 ⟨rfl, rfl⟩
      rw [show 16 / szOf 0 = 8 by decide]
      go_wp2_with fail
      go_at_call 10
      refine (csize_out (-1) (by omega)).mono ?_
      rintro e w0 ⟨rfl, rfl⟩
      go_wp2
      go_ret
      exact ⟨rfl, (by repeat (first | exact Below.refl _ _ | assumption | (refine below_drewN ?_ _) | (refine Below.drew ?_) | (refine Below.alloc ?_ (by first | omega | (simp; omega) | simp) _) | (refine Below.setCell ?_ (by first | omega | (simp; omega) | simp) _) | (refine below_trans ?_ (by assumption) (by first | omega | (simp; omega) | simp))))⟩
    · have HC := Lib.hid hc
      have HP : Hid (pgOf x = 1) := Lib.hid (if_pos (by omega))
      have d1 : decide (x ≤ 4) = true := decide_eq_true g
      have d2 : decide (2 < x) = true := decide_eq_true g'
      clear hc
      go_enter Tryd.func4, Tryd.ntmps4
      go_wp2_with fail
      go_at_call 18
      refine (clives_any _ hs).mono ?_
      rintro e w1 ⟨rfl, hb_w1⟩
      obtain ⟨hc_w1, hf_w1⟩ := bcell hb_w1; have hs_w1 := hb_w1.size; (try simp only [World.size_alloc, World.size_setCell, World.size_drew, World.heap_drewN] at hs_w1)
      have S1 := hs.later hb_w1
      go_wp2_with fail
      go_at_call 8
      refine (cof_in S1 x h0 h1).mono ?_
      rintro e w0 ⟨rfl, rfl⟩
      rw [HC.out]
      go_wp2_with fail
      go_at_call 14
      refine (cpages_in S1 x h0 h1).mono ?_
      rintro e w0 ⟨rfl, rfl⟩
      rw [HP.out]
      go_wp2_with fail
      go_at_call 10
      refine (csize_in S1 1 (by omega) (by omega)).mono ?_
      rintro e w0 ⟨rfl, rfl⟩
      rw [show szOf 1 = 4 by decide]
      go_wp2_with fail
      go_at_call 12
      refine (cslots_in S1 1 (by omega) (by omega)).mono ?_
      rintro e w0 ⟨rfl, rfl⟩
      rw [show 16 / szOf 1 = 4 by decide]
      go_wp2_with fail
      go_at_call 10
      refine (csize_in S1 0 (by omega) (by omega)).mono ?_
      rintro e w0 ⟨rfl, rfl⟩
      rw [show szOf 0 = 2 by decide]
      go_wp2
      go_ret
      exact ⟨rfl, (by repeat (first | exact Below.refl _ _ | assumption | (refine below_drewN ?_ _) | (refine Below.drew ?_) | (refine Below.alloc ?_ (by first | omega | (simp; omega) | simp) _) | (refine Below.setCell ?_ (by first | omega | (simp; omega) | simp) _) | (refine below_trans ?_ (by assumption) (by first | omega | (simp; omega) | simp))))⟩
    · have HC := Lib.hid hc
      have HP : Hid (pgOf x = 1) := Lib.hid (if_pos (by omega))
      have d1 : decide (x ≤ 8) = true := decide_eq_true g
      have d2 : decide (4 < x) = true := decide_eq_true g'
      clear hc
      go_enter Tryd.func4, Tryd.ntmps4
      go_wp2_with fail
      go_at_call 18
      refine (clives_any _ hs).mono ?_
      rintro e w1 ⟨rfl, hb_w1⟩
      obtain ⟨hc_w1, hf_w1⟩ := bcell hb_w1; have hs_w1 := hb_w1.size; (try simp only [World.size_alloc, World.size_setCell, World.size_drew, World.heap_drewN] at hs_w1)
      have S1 := hs.later hb_w1
      go_wp2_with fail
      go_at_call 8
      refine (cof_in S1 x h0 h1).mono ?_
      rintro e w0 ⟨rfl, rfl⟩
      rw [HC.out]
      go_wp2_with fail
      go_at_call 14
      refine (cpages_in S1 x h0 h1).mono ?_
      rintro e w0 ⟨rfl, rfl⟩
      rw [HP.out]
      go_wp2_with fail
      go_at_call 10
      refine (csize_in S1 2 (by omega) (by omega)).mono ?_
      rintro e w0 ⟨rfl, rfl⟩
      rw [show szOf 2 = 8 by decide]
      go_wp2_with fail
      go_at_call 12
      refine (cslots_in S1 2 (by omega) (by omega)).mono ?_
      rintro e w0 ⟨rfl, rfl⟩
      rw [show 16 / szOf 2 = 2 by decide]
      go_wp2_with fail
      go_at_call 10
      refine (csize_in S1 1 (by omega) (by omega)).mono ?_
      rintro e w0 ⟨rfl, rfl⟩
      rw [show szOf 1 = 4 by decide]
      go_wp2
      go_ret
      exact ⟨rfl, (by repeat (first | exact Below.refl _ _ | assumption | (refine below_drewN ?_ _) | (refine Below.drew ?_) | (refine Below.alloc ?_ (by first | omega | (simp; omega) | simp) _) | (refine Below.setCell ?_ (by first | omega | (simp; omega) | simp) _) | (refine below_trans ?_ (by assumption) (by first | omega | (simp; omega) | simp))))⟩
    · have HC := Lib.hid hc
      have HP : Hid (pgOf x = 1) := Lib.hid (if_pos (by omega))
      have d1 : decide (x ≤ 16) = true := decide_eq_true g
      have d2 : decide (8 < x) = true := decide_eq_true g'
      clear hc
      go_enter Tryd.func4, Tryd.ntmps4
      go_wp2_with fail
      go_at_call 18
      refine (clives_any _ hs).mono ?_
      rintro e w1 ⟨rfl, hb_w1⟩
      obtain ⟨hc_w1, hf_w1⟩ := bcell hb_w1; have hs_w1 := hb_w1.size; (try simp only [World.size_alloc, World.size_setCell, World.size_drew, World.heap_drewN] at hs_w1)
      have S1 := hs.later hb_w1
      go_wp2_with fail
      go_at_call 8
      refine (cof_in S1 x h0 h1).mono ?_
      rintro e w0 ⟨rfl, rfl⟩
      rw [HC.out]
      go_wp2_with fail
      go_at_call 14
      refine (cpages_in S1 x h0 h1).mono ?_
      rintro e w0 ⟨rfl, rfl⟩
      rw [HP.out]
      go_wp2_with fail
      go_at_call 10
      refine (csize_in S1 3 (by omega) (by omega)).mono ?_
      rintro e w0 ⟨rfl, rfl⟩
      rw [show szOf 3 = 16 by decide]
      go_wp2_with fail
      go_at_call 12
      refine (cslots_in S1 3 (by omega) (by omega)).mono ?_
      rintro e w0 ⟨rfl, rfl⟩
      rw [show 16 / szOf 3 = 1 by decide]
      go_wp2_with fail
      go_at_call 10
      refine (csize_in S1 2 (by omega) (by omega)).mono ?_
      rintro e w0 ⟨rfl, rfl⟩
      rw [show szOf 2 = 8 by decide]
      go_wp2
      go_ret
      exact ⟨rfl, (by repeat (first | exact Below.refl _ _ | assumption | (refine below_drewN ?_ _) | (refine Below.drew ?_) | (refine Below.alloc ?_ (by first | omega | (simp; omega) | simp) _) | (refine Below.setCell ?_ (by first | omega | (simp; omega) | simp) _) | (refine below_trans ?_ (by assumption) (by first | omega | (simp; omega) | simp))))⟩
    · have HC := Lib.hid hc
      obtain ⟨p, HP⟩ : ∃ p : Int, Hid (pgOf x = p) := ⟨_, rfl⟩
      have hp : p = (x + 15) / 16 := by rw [← HP.out]; exact if_neg (by omega)
      have hp2 : 1 < p ∧ p ≤ 4 := by omega
      have d1 : decide (x ≤ p * 16) = true := decide_eq_true (by omega)
      have d2 : decide ((p - 1) * 16 < x) = true := decide_eq_true (by omega)
      have d3 : decide (1 < p) = true := decide_eq_true (by omega)
      clear hc hp
      go_enter Tryd.func4, Tryd.ntmps4
      go_wp2_with fail
      go_at_call 18
      refine (clives_any _ hs).mono ?_
      rintro e w1 ⟨rfl, hb_w1⟩
      obtain ⟨hc_w1, hf_w1⟩ := bcell hb_w1; have hs_w1 := hb_w1.size; (try simp only [World.size_alloc, World.size_setCell, World.size_drew, World.heap_drewN] at hs_w1)
      have S1 := hs.later hb_w1
      go_wp2_with fail
      go_at_call 8
      refine (cof_in S1 x h0 h1).mono ?_
      rintro e w0 ⟨rfl, rfl⟩
      rw [HC.out]
      go_wp2_with fail
      go_at_call 14
      refine (cpages_in S1 x h0 h1).mono ?_
      rintro e w0 ⟨rfl, rfl⟩
      rw [HP.out]
      go_wp2
      go_ret
      exact ⟨rfl, (by repeat (first | exact Below.refl _ _ | assumption | (refine below_drewN ?_ _) | (refine Below.drew ?_) | (refine Below.alloc ?_ (by first | omega | (simp; omega) | simp) _) | (refine Below.setCell ?_ (by first | omega | (simp; omega) | simp) _) | (refine below_trans ?_ (by assumption) (by first | omega | (simp; omega) | simp))))⟩
  · have HI := Lib.hid hin
    by_cases hx : x < 1
    · have d1 : decide (x < 1) = true := decide_eq_true hx
      clear hin
      go_enter Tryd.func4, Tryd.ntmps4
      go_wp2_with fail
      go_at_call 18
      refine (clives_any _ hs).mono ?_
      rintro e w1 ⟨rfl, hb_w1⟩
      obtain ⟨hc_w1, hf_w1⟩ := bcell hb_w1; have hs_w1 := hb_w1.size; (try simp only [World.size_alloc, World.size_setCell, World.size_drew, World.heap_drewN] at hs_w1)
      go_wp2_with fail
      go_at_call 8
      refine (cof_out x HI.out).mono ?_
      rintro e w0 ⟨rfl, rfl⟩
      go_wp2
      go_ret
      exact ⟨rfl, (by repeat (first | exact Below.refl _ _ | assumption | (refine below_drewN ?_ _) | (refine Below.drew ?_) | (refine Below.alloc ?_ (by first | omega | (simp; omega) | simp) _) | (refine Below.setCell ?_ (by first | omega | (simp; omega) | simp) _) | (refine below_trans ?_ (by assumption) (by first | omega | (simp; omega) | simp))))⟩
    · have d1 : decide (x < 1) = false := decide_eq_false hx
      have d2 : decide (49 < x) = true := decide_eq_true (by unfold In at hin; omega)
      clear hin
      go_enter Tryd.func4, Tryd.ntmps4
      go_wp2_with fail
      go_at_call 18
      refine (clives_any _ hs).mono ?_
      rintro e w1 ⟨rfl, hb_w1⟩
      obtain ⟨hc_w1, hf_w1⟩ := bcell hb_w1; have hs_w1 := hb_w1.size; (try simp only [World.size_alloc, World.size_setCell, World.size_drew, World.heap_drewN] at hs_w1)
      go_wp2_with fail
      go_at_call 8
      refine (cof_out x HI.out).mono ?_
      rintro e w0 ⟨rfl, rfl⟩
      go_wp2
      go_ret
      exact ⟨rfl, (by repeat (first | exact Below.refl _ _ | assumption | (refine below_drewN ?_ _) | (refine Below.drew ?_) | (refine Below.alloc ?_ (by first | omega | (simp; omega) | simp) _) | (refine Below.setCell ?_ (by first | omega | (simp; omega) | simp) _) | (refine below_trans ?_ (by assumption) (by first | omega | (simp; omega) | simp))))⟩

/-- what is told of some words -/
theorem cboth_any (x : Int) : ∃ r p y : Int, Tells 8 #[.int .i64 x] r y ∧ Tells 14 #[.int .i64 x] p y ∧ ((In x ∧ y = 0 ∧ r = clsOf x ∧ p = pgOf x) ∨ (¬ In x ∧ y = 1)) := by
  by_cases h : In x
  · exact ⟨_, _, 0, fun w hs => cof_in hs x h.1 h.2, fun w hs => cpages_in hs x h.1 h.2, .inl ⟨h, rfl, rfl, rfl⟩⟩
  · exact ⟨0, 0, 1, fun w _ => cof_out x h, fun w _ => cpages_out x h, .inr ⟨h, rfl⟩⟩
theorem pgOf_mono (a b : Int) (h : a ≤ b) (h1 : 1 ≤ a) : pgOf a ≤ pgOf b := by
  unfold pgOf
  repeat' split
  all_goals omega
set_option maxHeartbeats 1000000 in
theorem classOrder_walk (a b : Int) (w : World) (hs : Sizes w) :
    Calls Tryd.prog 6 #[.int .i64 a, .int .i64 b] w fun e w' => e = .returned (.bool true) ∧ Below w.heap.size w w' := by
  obtain ⟨r1, p1, y1, o1, q1, c1⟩ := cboth_any a
  obtain ⟨r2, p2, y2, o2, q2, c2⟩ := cboth_any b
  have O1 := Lib.hid o1
  have Q1 := Lib.hid q1
  have O2 := Lib.hid o2
  have Q2 := Lib.hid q2
  have e1 : (y1 == y1) = true := by simp
  have e2 : (y2 == y2) = true := by simp
  clear o1 q1 o2 q2
  by_cases hab : b < a
  · have d1 : decide (b < a) = true := decide_eq_true hab
    clear c1 c2
    go_enter Tryd.func6, Tryd.ntmps6
    go_wp2_with fail
    go_at_call 18
    refine (clives_any _ hs).mono ?_
    rintro e w1 ⟨rfl, hb_w1⟩
    obtain ⟨hc_w1, hf_w1⟩ := bcell hb_w1; have hs_w1 := hb_w1.size; (try simp only [World.size_alloc, World.size_setCell, World.size_drew, World.heap_drewN] at hs_w1)
    have S1 := hs.later hb_w1
    go_wp2_with fail
    go_at_call 8
    refine (O1.out _ S1).mono ?_
    rintro e w0 ⟨rfl, rfl⟩
    go_wp2_with fail
    go_at_call 8
    refine (O2.out _ S1).mono ?_
    rintro e w0 ⟨rfl, rfl⟩
    go_wp2_with fail
    go_at_call 14
    refine (Q1.out _ S1).mono ?_
    rintro e w0 ⟨rfl, rfl⟩
    go_wp2_with fail
    go_at_call 14
    refine (Q2.out _ S1).mono ?_
    rintro e w0 ⟨rfl, rfl⟩
    go_wp2
    go_ret
    exact ⟨rfl, (by repeat (first | exact Below.refl _ _ | assumption | (refine below_drewN ?_ _) | (refine Below.drew ?_) | (refine Below.alloc ?_ (by first | omega | (simp; omega) | simp) _) | (refine Below.setCell ?_ (by first | omega | (simp; omega) | simp) _) | (refine below_trans ?_ (by assumption) (by first | omega | (simp; omega) | simp))))⟩
  have d1 : decide (b < a) = false := decide_eq_false hab
  rcases c1 with ⟨i1, rfl, g1, g1'⟩ | ⟨_, rfl⟩
  · rcases c2 with ⟨i2, rfl, g2, g2'⟩ | ⟨_, rfl⟩
    · have hp : decide (p1 ≤ p2) = true := decide_eq_true (by rw [g1', g2']; exact pgOf_mono a b (by omega) i1.1)
      have hca := clsOf_case a i1.1
      have hcb := clsOf_case b i2.1
      rw [← g1] at hca
      rw [← g2] at hcb
      have hcase : ((r1 == -1) = true ∧ (r2 == -1) = true) ∨ ((r1 == -1) = false ∧ decide (0 ≤ r1) = true ∧ (r2 == -1) = true) ∨ ((r1 == -1) = false ∧ decide (0 ≤ r1) = true ∧ (r2 == -1) = false ∧ decide (r1 ≤ r2) = true) := by
        simp only [beq_iff_eq, beq_eq_false_iff_ne, decide_eq_true_eq]
        omega
      clear hca hcb g1 g2 g1' g2' i1 i2
      rcases hcase with ⟨k1, k2⟩ | ⟨k1, k2, k3⟩ | ⟨k1, k2, k3, k4⟩
      all_goals
        go_enter Tryd.func6, Tryd.ntmps6
        go_wp2_with fail
        go_at_call 18
        refine (clives_any _ hs).mono ?_
        rintro e w1 ⟨rfl, hb_w1⟩
        obtain ⟨hc_w1, hf_w1⟩ := bcell hb_w1; have hs_w1 := hb_w1.size; (try simp only [World.size_alloc, World.size_setCell, World.size_drew, World.heap_drewN] at hs_w1)
        have S1 := hs.later hb_w1
        go_wp2_with fail
        go_at_call 8
        refine (O1.out _ S1).mono ?_
        rintro e w0 ⟨rfl, rfl⟩
        go_wp2_with fail
        go_at_call 8
        refine (O2.out _ S1).mono ?_
        rintro e w0 ⟨rfl, rfl⟩
        go_wp2_with fail
        go_at_call 14
        refine (Q1.out _ S1).mono ?_
        rintro e w0 ⟨rfl, rfl⟩
        go_wp2_with fail
        go_at_call 14
        refine (Q2.out _ S1).mono ?_
        rintro e w0 ⟨rfl, rfl⟩
        go_wp2
        go_ret
        exact ⟨rfl, (by repeat (first | exact Below.refl _ _ | assumption | (refine below_drewN ?_ _) | (refine Below.drew ?_) | (refine Below.alloc ?_ (by first | omega | (simp; omega) | simp) _) | (refine Below.setCell ?_ (by first | omega | (simp; omega) | simp) _) | (refine below_trans ?_ (by assumption) (by first | omega | (simp; omega) | simp))))⟩
    · go_enter Tryd.func6, Tryd.ntmps6
      go_wp2_with fail
      go_at_call 18
      refine (clives_any _ hs).mono ?_
      rintro e w1 ⟨rfl, hb_w1⟩
      obtain ⟨hc_w1, hf_w1⟩ := bcell hb_w1; have hs_w1 := hb_w1.size; (try simp only [World.size_alloc, World.size_setCell, World.size_drew, World.heap_drewN] at hs_w1)
      have S1 := hs.later hb_w1
      go_wp2_with fail
      go_at_call 8
      refine (O1.out _ S1).mono ?_
      rintro e w0 ⟨rfl, rfl⟩
      go_wp2_with fail
      go_at_call 8
      refine (O2.out _ S1).mono ?_
      rintro e w0 ⟨rfl, rfl⟩
      go_wp2_with fail
      go_at_call 14
      refine (Q1.out _ S1).mono ?_
      rintro e w0 ⟨rfl, rfl⟩
      go_wp2_with fail
      go_at_call 14
      refine (Q2.out _ S1).mono ?_
      rintro e w0 ⟨rfl, rfl⟩
      go_wp2
      go_ret
      exact ⟨rfl, (by repeat (first | exact Below.refl _ _ | assumption | (refine below_drewN ?_ _) | (refine Below.drew ?_) | (refine Below.alloc ?_ (by first | omega | (simp; omega) | simp) _) | (refine Below.setCell ?_ (by first | omega | (simp; omega) | simp) _) | (refine below_trans ?_ (by assumption) (by first | omega | (simp; omega) | simp))))⟩
  · go_enter Tryd.func6, Tryd.ntmps6
    go_wp2_with fail
    go_at_call 18
    refine (clives_any _ hs).mono ?_
    rintro e w1 ⟨rfl, hb_w1⟩
    obtain ⟨hc_w1, hf_w1⟩ := bcell hb_w1; have hs_w1 := hb_w1.size; (try simp only [World.size_alloc, World.size_setCell, World.size_drew, World.heap_drewN] at hs_w1)
    have S1 := hs.later hb_w1
    go_wp2_with fail
    go_at_call 8
    refine (O1.out _ S1).mono ?_
    rintro e w0 ⟨rfl, rfl⟩
    go_wp2_with fail
    go_at_call 8
    refine (O2.out _ S1).mono ?_
    rintro e w0 ⟨rfl, rfl⟩
    go_wp2_with fail
    go_at_call 14
    refine (Q1.out _ S1).mono ?_
    rintro e w0 ⟨rfl, rfl⟩
    go_wp2_with fail
    go_at_call 14
    refine (Q2.out _ S1).mono ?_
    rintro e w0 ⟨rfl, rfl⟩
    go_wp2
    go_ret
    exact ⟨rfl, (by repeat (first | exact Below.refl _ _ | assumption | (refine below_drewN ?_ _) | (refine Below.drew ?_) | (refine Below.alloc ?_ (by first | omega | (simp; omega) | simp) _) | (refine Below.setCell ?_ (by first | omega | (simp; omega) | simp) _) | (refine below_trans ?_ (by assumption) (by first | omega | (simp; omega) | simp))))⟩
end Go.Proofs.YtcokfdgbgeeabaaDoor
