/- The walk of ScriptBack. -/
import Derived.Test.YtklbamkafldagaaDoorSe21
namespace Go.Proofs.YtklbamkafldagaaDoor
open Go.RowKit
set_option linter.unusedVariables false
set_option linter.unusedSimpArgs false
section
variable {w : World}
theorem parse_ok (m : List Ev) (s : ByteArray) (h : readT s.data.toList = (m, 0, 0)) (hL : Lw w) : Calls Tryd.prog 8 #[.string s] w fun e w' => ∃ A cap, e = .returned (.tuple #[.slice A m.length cap, .int .i64 0, .int .i64 0]) ∧ OwnsE w' w.heap.size (.slice A m.length cap) m ∧ Below w.heap.size w w' := by
  have h1 := scriptParse_any (w := w) s hL
  rw [h] at h1
  exact h1
theorem parse_no (k : Nat) (y : Int) (s : ByteArray) (h : readT s.data.toList = ([], k, y)) (hL : Lw w) : Calls Tryd.prog 8 #[.string s] w fun e w' => ∃ A cap, e = .returned (.tuple #[.slice A 0 cap, .int .i64 (k : Nat), .int .i64 y]) ∧ Below w.heap.size w w' := by
  have h1 := scriptParse_any (w := w) s hL
  rw [h] at h1
  refine Calls.mono h1 ?_
  rintro e w' ⟨A, cap, rfl, _, hb⟩
  exact ⟨A, cap, rfl, hb⟩
theorem parse_far (s : ByteArray) (h : readT s.data.toList = ([], 0, 1)) (hL : Lw w) : Calls Tryd.prog 8 #[.string s] w fun e w' => ∃ A cap, e = .returned (.tuple #[.slice A 0 cap, .int .i64 0, .int .i64 1]) ∧ Below w.heap.size w w' := parse_no 0 1 s h hL
theorem print_ok {A : Option Addr} {l : List Ev} (cap : Nat) (hok : OkL l) (hr : ERow w w.heap.size A l) (hl : l.length ≤ 17592186044416) (hL : Lw w) : Calls Tryd.prog 12 #[.slice A l.length cap] w fun e w' => e = .returned (.tuple #[.string (bs (printL l)), .int .i64 0]) ∧ Below w.heap.size w w' := by
  refine Calls.mono (print_any cap hr hl hL) ?_
  rintro e w' ⟨⟨_, rfl⟩ | ⟨h, _⟩, hb⟩
  · exact ⟨rfl, hb⟩
  · exact absurd hok h
theorem print_no {A : Option Addr} {l : List Ev} (cap : Nat) (hok : ¬ OkL l) (hr : ERow w w.heap.size A l) (hl : l.length ≤ 17592186044416) (hL : Lw w) : Calls Tryd.prog 12 #[.slice A l.length cap] w fun e w' => e = .returned (.tuple #[.string (bs []), .int .i64 2]) ∧ Below w.heap.size w w' := by
  refine Calls.mono (print_any cap hr hl hL) ?_
  rintro e w' ⟨⟨h, _⟩ | ⟨_, rfl⟩, hb⟩
  · exact absurd h hok
  · exact ⟨rfl, hb⟩
theorem small_print {l : List Ev} (h : OkL l) : l.length ≤ 17592186044416 := by have := h.1; omega
/-- what a text's events' own text reads as -/
theorem readT_long {l : List UInt8} (h : 65536 < l.length) : readT l = ([], 0, 1) := by unfold readT; rw [if_pos h]
set_option maxRecDepth 100000 in
set_option maxHeartbeats 8000000 in
theorem back_no_ok (A : Option Addr) (cap : Nat) (l : List Ev) (text : ByteArray) (hL : Lw w) (hr : ERow w w.heap.size A l) (hl : l.length ≤ 17592186044416) (hok : ¬ OkL l) (m : List Ev) (hR : readT text.data.toList = (m, 0, 0)) (hm : OkL m) (hlm : (printL m).length ≤ 65536) :
    Calls Tryd.prog 5 #[.slice A l.length cap, .string text] w fun r w' => r = .returned (.bool true) ∧ Below w.heap.size w w' := by
  have HLV := Lib.hid fun (w : World) hL => lives_any (w := w) hL
  have HQ := Lib.hid fun (w : World) hL => parse_ok (w := w) m text hR hL
  have HRM := Lib.hid fun (W : World) (A : Option Addr) (cap B : Nat) (h : OwnsE W B (.slice A m.length cap) m) => ERow.of_owns h
  have HR := Lib.hid fun (w : World) (A : Option Addr) (cap : Nat) hr hL => print_ok (w := w) (A := A) (l := m) cap hm hr (small_print hm) hL
  have HT := Lib.hid fun (w : World) hL => parse_ok (w := w) m (bs (printL m)) (by rw [bs_data]; exact readT_print hm (by omega)) hL
  have HSQ := Lib.hid fun (w : World) (F G : Option Addr) (fc gc : Nat) hr hq => same_any (w := w) (A := F) (C := G) (l := m) (m := m) fc gc hr hq (small_print hm) (small_print hm) true (by simp)
  have d8 : decide (65536 < ((bs (printL m)).size : Int)) = false := decide_eq_false (by rw [bs_size]; omega)
  have d9 : decide (65536 < (bs (printL m)).size) = false := decide_eq_false (by rw [bs_size]; omega)
  clear hm hlm
  generalize bs (printL m) = PM at *
  have HP := Lib.hid fun (w : World) hr hL => print_no (w := w) (A := A) (l := l) cap hok hr hl hL
  clear hok
  generalize bs [] = PL at *
  go_enter Tryd.func5, Tryd.ntmps5
  go_wp2_with fail
  go_at_call 10
  refine (HLV.out _ (hL.later (by repeat (first | exact Below.refl _ _ | assumption | (refine below_drewN ?_ _) | (refine Below.drew ?_) | (refine Below.alloc ?_ (by first | omega | (simp; omega) | simp) _) | (refine Below.setCell ?_ (by first | omega | (simp; omega) | simp) _) | (refine below_trans ?_ (by assumption) (by first | omega | (simp; omega) | simp)))))).mono ?_
  rintro e w1 ⟨rfl, hb_w1⟩
  obtain ⟨hc_w1, hf_w1⟩ := bcell hb_w1; have hs_w1 := hb_w1.size; (try simp only [World.size_alloc, World.size_setCell, World.size_drew, World.heap_drewN] at hs_w1)
  go_wp2_with fail
  go_at_call 12
  refine (HP.out _ (hr.later (by repeat (first | exact Below.refl _ _ | assumption | (refine below_drewN ?_ _) | (refine Below.drew ?_) | (refine Below.alloc ?_ (by first | omega | (simp; omega) | simp) _) | (refine Below.setCell ?_ (by first | omega | (simp; omega) | simp) _) | (refine below_trans ?_ (by assumption) (by first | omega | (simp; omega) | simp))))) (hL.later (by repeat (first | exact Below.refl _ _ | assumption | (refine below_drewN ?_ _) | (refine Below.drew ?_) | (refine Below.alloc ?_ (by first | omega | (simp; omega) | simp) _) | (refine Below.setCell ?_ (by first | omega | (simp; omega) | simp) _) | (refine below_trans ?_ (by assumption) (by first | omega | (simp; omega) | simp)))))).mono ?_
  rintro e w2 ⟨rfl, hb_w2⟩
  obtain ⟨hc_w2, hf_w2⟩ := bcell hb_w2; have hs_w2 := hb_w2.size; (try simp only [World.size_alloc, World.size_setCell, World.size_drew, World.heap_drewN] at hs_w2)
  go_wp2_with fail
  go_at_call 8
  refine (HQ.out _ (hL.later (by repeat (first | exact Below.refl _ _ | assumption | (refine below_drewN ?_ _) | (refine Below.drew ?_) | (refine Below.alloc ?_ (by first | omega | (simp; omega) | simp) _) | (refine Below.setCell ?_ (by first | omega | (simp; omega) | simp) _) | (refine below_trans ?_ (by assumption) (by first | omega | (simp; omega) | simp)))))).mono ?_
  rintro e w3 ⟨Q, qc, rfl, oQ, hb_w3⟩
  obtain ⟨hc_w3, hf_w3⟩ := bcell hb_w3; have hs_w3 := hb_w3.size; (try simp only [World.size_alloc, World.size_setCell, World.size_drew, World.heap_drewN] at hs_w3)
  have rQ := Lib.hid (HRM.out _ _ _ _ oQ)
  clear oQ
  go_wp2_with fail
  go_at_call 12
  refine (HR.out _ _ _ rQ.out (hL.later (by repeat (first | exact Below.refl _ _ | assumption | (refine below_drewN ?_ _) | (refine Below.drew ?_) | (refine Below.alloc ?_ (by first | omega | (simp; omega) | simp) _) | (refine Below.setCell ?_ (by first | omega | (simp; omega) | simp) _) | (refine below_trans ?_ (by assumption) (by first | omega | (simp; omega) | simp)))))).mono ?_
  rintro e w4 ⟨rfl, hb_w4⟩
  obtain ⟨hc_w4, hf_w4⟩ := bcell hb_w4; have hs_w4 := hb_w4.size; (try simp only [World.size_alloc, World.size_setCell, World.size_drew, World.heap_drewN] at hs_w4)
  go_wp2_with fail
  go_at_call 8
  refine (HT.out _ (hL.later (by repeat (first | exact Below.refl _ _ | assumption | (refine below_drewN ?_ _) | (refine Below.drew ?_) | (refine Below.alloc ?_ (by first | omega | (simp; omega) | simp) _) | (refine Below.setCell ?_ (by first | omega | (simp; omega) | simp) _) | (refine below_trans ?_ (by assumption) (by first | omega | (simp; omega) | simp)))))).mono ?_
  rintro e w5 ⟨Z, zc, rfl, oZ, hb_w5⟩
  obtain ⟨hc_w5, hf_w5⟩ := bcell hb_w5; have hs_w5 := hb_w5.size; (try simp only [World.size_alloc, World.size_setCell, World.size_drew, World.heap_drewN] at hs_w5)
  have rZ := Lib.hid (HRM.out _ _ _ _ oZ)
  clear oZ
  go_wp2_with fail
  go_at_call 11
  refine (HSQ.out _ _ _ _ _ (rQ.out.later (by repeat (first | exact Below.refl _ _ | assumption | (refine below_drewN ?_ _) | (refine Below.drew ?_) | (refine Below.alloc ?_ (by first | omega | (simp; omega) | simp) _) | (refine Below.setCell ?_ (by first | omega | (simp; omega) | simp) _) | (refine below_trans ?_ (by assumption) (by first | omega | (simp; omega) | simp))))) rZ.out).mono ?_
  rintro e w6 ⟨rfl, hb_w6⟩
  obtain ⟨hc_w6, hf_w6⟩ := bcell hb_w6; have hs_w6 := hb_w6.size; (try simp only [World.size_alloc, World.size_setCell, World.size_drew, World.heap_drewN] at hs_w6)
  go_wp2
  go_ret
  exact ⟨rfl, (by repeat (first | exact Below.refl _ _ | assumption | (refine below_drewN ?_ _) | (refine Below.drew ?_) | (refine Below.alloc ?_ (by first | omega | (simp; omega) | simp) _) | (refine Below.setCell ?_ (by first | omega | (simp; omega) | simp) _) | (refine below_trans ?_ (by assumption) (by first | omega | (simp; omega) | simp))))⟩
set_option maxRecDepth 100000 in
set_option maxHeartbeats 8000000 in
theorem back_no_long (A : Option Addr) (cap : Nat) (l : List Ev) (text : ByteArray) (hL : Lw w) (hr : ERow w w.heap.size A l) (hl : l.length ≤ 17592186044416) (hok : ¬ OkL l) (m : List Ev) (hR : readT text.data.toList = (m, 0, 0)) (hm : OkL m) (hlm : 65536 < (printL m).length) :
    Calls Tryd.prog 5 #[.slice A l.length cap, .string text] w fun r w' => r = .returned (.bool true) ∧ Below w.heap.size w w' := by
  have HLV := Lib.hid fun (w : World) hL => lives_any (w := w) hL
  have HQ := Lib.hid fun (w : World) hL => parse_ok (w := w) m text hR hL
  have HRM := Lib.hid fun (W : World) (A : Option Addr) (cap B : Nat) (h : OwnsE W B (.slice A m.length cap) m) => ERow.of_owns h
  have HR := Lib.hid fun (w : World) (A : Option Addr) (cap : Nat) hr hL => print_ok (w := w) (A := A) (l := m) cap hm hr (small_print hm) hL
  have HT := Lib.hid fun (w : World) hL => parse_far (w := w) (bs (printL m)) (by rw [bs_data]; exact readT_long hlm) hL
  have d8 : decide (65536 < ((bs (printL m)).size : Int)) = true := decide_eq_true (by rw [bs_size]; omega)
  have d9 : decide (65536 < (bs (printL m)).size) = true := decide_eq_true (by rw [bs_size]; omega)
  clear hm hlm
  generalize bs (printL m) = PM at *
  have HP := Lib.hid fun (w : World) hr hL => print_no (w := w) (A := A) (l := l) cap hok hr hl hL
  clear hok
  generalize bs [] = PL at *
  go_enter Tryd.func5, Tryd.ntmps5
  go_wp2_with fail
  go_at_call 10
  refine (HLV.out _ (hL.later (by repeat (first | exact Below.refl _ _ | assumption | (refine below_drewN ?_ _) | (refine Below.drew ?_) | (refine Below.alloc ?_ (by first | omega | (simp; omega) | simp) _) | (refine Below.setCell ?_ (by first | omega | (simp; omega) | simp) _) | (refine below_trans ?_ (by assumption) (by first | omega | (simp; omega) | simp)))))).mono ?_
  rintro e w1 ⟨rfl, hb_w1⟩
  obtain ⟨hc_w1, hf_w1⟩ := bcell hb_w1; have hs_w1 := hb_w1.size; (try simp only [World.size_alloc, World.size_setCell, World.size_drew, World.heap_drewN] at hs_w1)
  go_wp2_with fail
  go_at_call 12
  refine (HP.out _ (hr.later (by repeat (first | exact Below.refl _ _ | assumption | (refine below_drewN ?_ _) | (refine Below.drew ?_) | (refine Below.alloc ?_ (by first | omega | (simp; omega) | simp) _) | (refine Below.setCell ?_ (by first | omega | (simp; omega) | simp) _) | (refine below_trans ?_ (by assumption) (by first | omega | (simp; omega) | simp))))) (hL.later (by repeat (first | exact Below.refl _ _ | assumption | (refine below_drewN ?_ _) | (refine Below.drew ?_) | (refine Below.alloc ?_ (by first | omega | (simp; omega) | simp) _) | (refine Below.setCell ?_ (by first | omega | (simp; omega) | simp) _) | (refine below_trans ?_ (by assumption) (by first | omega | (simp; omega) | simp)))))).mono ?_
  rintro e w2 ⟨rfl, hb_w2⟩
  obtain ⟨hc_w2, hf_w2⟩ := bcell hb_w2; have hs_w2 := hb_w2.size; (try simp only [World.size_alloc, World.size_setCell, World.size_drew, World.heap_drewN] at hs_w2)
  go_wp2_with fail
  go_at_call 8
  refine (HQ.out _ (hL.later (by repeat (first | exact Below.refl _ _ | assumption | (refine below_drewN ?_ _) | (refine Below.drew ?_) | (refine Below.alloc ?_ (by first | omega | (simp; omega) | simp) _) | (refine Below.setCell ?_ (by first | omega | (simp; omega) | simp) _) | (refine below_trans ?_ (by assumption) (by first | omega | (simp; omega) | simp)))))).mono ?_
  rintro e w3 ⟨Q, qc, rfl, oQ, hb_w3⟩
  obtain ⟨hc_w3, hf_w3⟩ := bcell hb_w3; have hs_w3 := hb_w3.size; (try simp only [World.size_alloc, World.size_setCell, World.size_drew, World.heap_drewN] at hs_w3)
  have rQ := Lib.hid (HRM.out _ _ _ _ oQ)
  clear oQ
  go_wp2_with fail
  go_at_call 12
  refine (HR.out _ _ _ rQ.out (hL.later (by repeat (first | exact Below.refl _ _ | assumption | (refine below_drewN ?_ _) | (refine Below.drew ?_) | (refine Below.alloc ?_ (by first | omega | (simp; omega) | simp) _) | (refine Below.setCell ?_ (by first | omega | (simp; omega) | simp) _) | (refine below_trans ?_ (by assumption) (by first | omega | (simp; omega) | simp)))))).mono ?_
  rintro e w4 ⟨rfl, hb_w4⟩
  obtain ⟨hc_w4, hf_w4⟩ := bcell hb_w4; have hs_w4 := hb_w4.size; (try simp only [World.size_alloc, World.size_setCell, World.size_drew, World.heap_drewN] at hs_w4)
  go_wp2_with fail
  go_at_call 8
  refine (HT.out _ (hL.later (by repeat (first | exact Below.refl _ _ | assumption | (refine below_drewN ?_ _) | (refine Below.drew ?_) | (refine Below.alloc ?_ (by first | omega | (simp; omega) | simp) _) | (refine Below.setCell ?_ (by first | omega | (simp; omega) | simp) _) | (refine below_trans ?_ (by assumption) (by first | omega | (simp; omega) | simp)))))).mono ?_
  rintro e w5 ⟨Z, zc, rfl, hb_w5⟩
  obtain ⟨hc_w5, hf_w5⟩ := bcell hb_w5; have hs_w5 := hb_w5.size; (try simp only [World.size_alloc, World.size_setCell, World.size_drew, World.heap_drewN] at hs_w5)
  go_wp2
  go_ret
  exact ⟨rfl, (by repeat (first | exact Below.refl _ _ | assumption | (refine below_drewN ?_ _) | (refine Below.drew ?_) | (refine Below.alloc ?_ (by first | omega | (simp; omega) | simp) _) | (refine Below.setCell ?_ (by first | omega | (simp; omega) | simp) _) | (refine below_trans ?_ (by assumption) (by first | omega | (simp; omega) | simp))))⟩
set_option maxRecDepth 100000 in
set_option maxHeartbeats 8000000 in
theorem back_no_form (A : Option Addr) (cap : Nat) (l : List Ev) (text : ByteArray) (hL : Lw w) (hr : ERow w w.heap.size A l) (hl : l.length ≤ 17592186044416) (hok : ¬ OkL l) (k : Nat) (hR : readT text.data.toList = ([], k + 1, 2)) :
    Calls Tryd.prog 5 #[.slice A l.length cap, .string text] w fun r w' => r = .returned (.bool true) ∧ Below w.heap.size w w' := by
  have HLV := Lib.hid fun (w : World) hL => lives_any (w := w) hL
  have HQ := Lib.hid fun (w : World) hL => parse_no (w := w) (k + 1) 2 text hR hL
  have d8 : decide (0 < (((k + 1 : Nat)) : Int)) = true := decide_eq_true (by omega)
  have d9 : decide (0 < k + 1) = true := decide_eq_true (by omega)
  generalize k + 1 = kk at *
  have HP := Lib.hid fun (w : World) hr hL => print_no (w := w) (A := A) (l := l) cap hok hr hl hL
  clear hok
  generalize bs [] = PL at *
  go_enter Tryd.func5, Tryd.ntmps5
  go_wp2_with fail
  go_at_call 10
  refine (HLV.out _ (hL.later (by repeat (first | exact Below.refl _ _ | assumption | (refine below_drewN ?_ _) | (refine Below.drew ?_) | (refine Below.alloc ?_ (by first | omega | (simp; omega) | simp) _) | (refine Below.setCell ?_ (by first | omega | (simp; omega) | simp) _) | (refine below_trans ?_ (by assumption) (by first | omega | (simp; omega) | simp)))))).mono ?_
  rintro e w1 ⟨rfl, hb_w1⟩
  obtain ⟨hc_w1, hf_w1⟩ := bcell hb_w1; have hs_w1 := hb_w1.size; (try simp only [World.size_alloc, World.size_setCell, World.size_drew, World.heap_drewN] at hs_w1)
  go_wp2_with fail
  go_at_call 12
  refine (HP.out _ (hr.later (by repeat (first | exact Below.refl _ _ | assumption | (refine below_drewN ?_ _) | (refine Below.drew ?_) | (refine Below.alloc ?_ (by first | omega | (simp; omega) | simp) _) | (refine Below.setCell ?_ (by first | omega | (simp; omega) | simp) _) | (refine below_trans ?_ (by assumption) (by first | omega | (simp; omega) | simp))))) (hL.later (by repeat (first | exact Below.refl _ _ | assumption | (refine below_drewN ?_ _) | (refine Below.drew ?_) | (refine Below.alloc ?_ (by first | omega | (simp; omega) | simp) _) | (refine Below.setCell ?_ (by first | omega | (simp; omega) | simp) _) | (refine below_trans ?_ (by assumption) (by first | omega | (simp; omega) | simp)))))).mono ?_
  rintro e w2 ⟨rfl, hb_w2⟩
  obtain ⟨hc_w2, hf_w2⟩ := bcell hb_w2; have hs_w2 := hb_w2.size; (try simp only [World.size_alloc, World.size_setCell, World.size_drew, World.heap_drewN] at hs_w2)
  go_wp2_with fail
  go_at_call 8
  refine (HQ.out _ (hL.later (by repeat (first | exact Below.refl _ _ | assumption | (refine below_drewN ?_ _) | (refine Below.drew ?_) | (refine Below.alloc ?_ (by first | omega | (simp; omega) | simp) _) | (refine Below.setCell ?_ (by first | omega | (simp; omega) | simp) _) | (refine below_trans ?_ (by assumption) (by first | omega | (simp; omega) | simp)))))).mono ?_
  rintro e w3 ⟨Q, qc, rfl, hb_w3⟩
  obtain ⟨hc_w3, hf_w3⟩ := bcell hb_w3; have hs_w3 := hb_w3.size; (try simp only [World.size_alloc, World.size_setCell, World.size_drew, World.heap_drewN] at hs_w3)
  go_wp2
  go_ret
  exact ⟨rfl, (by repeat (first | exact Below.refl _ _ | assumption | (refine below_drewN ?_ _) | (refine Below.drew ?_) | (refine Below.alloc ?_ (by first | omega | (simp; omega) | simp) _) | (refine Below.setCell ?_ (by first | omega | (simp; omega) | simp) _) | (refine below_trans ?_ (by assumption) (by first | omega | (simp; omega) | simp))))⟩
set_option maxRecDepth 100000 in
set_option maxHeartbeats 8000000 in
theorem back_no_full (A : Option Addr) (cap : Nat) (l : List Ev) (text : ByteArray) (hL : Lw w) (hr : ERow w w.heap.size A l) (hl : l.length ≤ 17592186044416) (hok : ¬ OkL l) (k : Nat) (hR : readT text.data.toList = ([], k + 1, 6)) :
    Calls Tryd.prog 5 #[.slice A l.length cap, .string text] w fun r w' => r = .returned (.bool true) ∧ Below w.heap.size w w' := by
  have HLV := Lib.hid fun (w : World) hL => lives_any (w := w) hL
  have HQ := Lib.hid fun (w : World) hL => parse_no (w := w) (k + 1) 6 text hR hL
  have d8 : decide (0 < (((k + 1 : Nat)) : Int)) = true := decide_eq_true (by omega)
  have d9 : decide (0 < k + 1) = true := decide_eq_true (by omega)
  generalize k + 1 = kk at *
  have HP := Lib.hid fun (w : World) hr hL => print_no (w := w) (A := A) (l := l) cap hok hr hl hL
  clear hok
  generalize bs [] = PL at *
  go_enter Tryd.func5, Tryd.ntmps5
  go_wp2_with fail
  go_at_call 10
  refine (HLV.out _ (hL.later (by repeat (first | exact Below.refl _ _ | assumption | (refine below_drewN ?_ _) | (refine Below.drew ?_) | (refine Below.alloc ?_ (by first | omega | (simp; omega) | simp) _) | (refine Below.setCell ?_ (by first | omega | (simp; omega) | simp) _) | (refine below_trans ?_ (by assumption) (by first | omega | (simp; omega) | simp)))))).mono ?_
  rintro e w1 ⟨rfl, hb_w1⟩
  obtain ⟨hc_w1, hf_w1⟩ := bcell hb_w1; have hs_w1 := hb_w1.size; (try simp only [World.size_alloc, World.size_setCell, World.size_drew, World.heap_drewN] at hs_w1)
  go_wp2_with fail
  go_at_call 12
  refine (HP.out _ (hr.later (by repeat (first | exact Below.refl _ _ | assumption | (refine below_drewN ?_ _) | (refine Below.drew ?_) | (refine Below.alloc ?_ (by first | omega | (simp; omega) | simp) _) | (refine Below.setCell ?_ (by first | omega | (simp; omega) | simp) _) | (refine below_trans ?_ (by assumption) (by first | omega | (simp; omega) | simp))))) (hL.later (by repeat (first | exact Below.refl _ _ | assumption | (refine below_drewN ?_ _) | (refine Below.drew ?_) | (refine Below.alloc ?_ (by first | omega | (simp; omega) | simp) _) | (refine Below.setCell ?_ (by first | omega | (simp; omega) | simp) _) | (refine below_trans ?_ (by assumption) (by first | omega | (simp; omega) | simp)))))).mono ?_
  rintro e w2 ⟨rfl, hb_w2⟩
  obtain ⟨hc_w2, hf_w2⟩ := bcell hb_w2; have hs_w2 := hb_w2.size; (try simp only [World.size_alloc, World.size_setCell, World.size_drew, World.heap_drewN] at hs_w2)
  go_wp2_with fail
  go_at_call 8
  refine (HQ.out _ (hL.later (by repeat (first | exact Below.refl _ _ | assumption | (refine below_drewN ?_ _) | (refine Below.drew ?_) | (refine Below.alloc ?_ (by first | omega | (simp; omega) | simp) _) | (refine Below.setCell ?_ (by first | omega | (simp; omega) | simp) _) | (refine below_trans ?_ (by assumption) (by first | omega | (simp; omega) | simp)))))).mono ?_
  rintro e w3 ⟨Q, qc, rfl, hb_w3⟩
  obtain ⟨hc_w3, hf_w3⟩ := bcell hb_w3; have hs_w3 := hb_w3.size; (try simp only [World.size_alloc, World.size_setCell, World.size_drew, World.heap_drewN] at hs_w3)
  go_wp2
  go_ret
  exact ⟨rfl, (by repeat (first | exact Below.refl _ _ | assumption | (refine below_drewN ?_ _) | (refine Below.drew ?_) | (refine Below.alloc ?_ (by first | omega | (simp; omega) | simp) _) | (refine Below.setCell ?_ (by first | omega | (simp; omega) | simp) _) | (refine below_trans ?_ (by assumption) (by first | omega | (simp; omega) | simp))))⟩
set_option maxRecDepth 100000 in
set_option maxHeartbeats 8000000 in
theorem back_no_range (A : Option Addr) (cap : Nat) (l : List Ev) (text : ByteArray) (hL : Lw w) (hr : ERow w w.heap.size A l) (hl : l.length ≤ 17592186044416) (hok : ¬ OkL l) (hR : readT text.data.toList = ([], 0, 1)) :
    Calls Tryd.prog 5 #[.slice A l.length cap, .string text] w fun r w' => r = .returned (.bool true) ∧ Below w.heap.size w w' := by
  have HLV := Lib.hid fun (w : World) hL => lives_any (w := w) hL
  have HQ := Lib.hid fun (w : World) hL => parse_far (w := w) text hR hL
  have HP := Lib.hid fun (w : World) hr hL => print_no (w := w) (A := A) (l := l) cap hok hr hl hL
  clear hok
  generalize bs [] = PL at *
  go_enter Tryd.func5, Tryd.ntmps5
  go_wp2_with fail
  go_at_call 10
  refine (HLV.out _ (hL.later (by repeat (first | exact Below.refl _ _ | assumption | (refine below_drewN ?_ _) | (refine Below.drew ?_) | (refine Below.alloc ?_ (by first | omega | (simp; omega) | simp) _) | (refine Below.setCell ?_ (by first | omega | (simp; omega) | simp) _) | (refine below_trans ?_ (by assumption) (by first | omega | (simp; omega) | simp)))))).mono ?_
  rintro e w1 ⟨rfl, hb_w1⟩
  obtain ⟨hc_w1, hf_w1⟩ := bcell hb_w1; have hs_w1 := hb_w1.size; (try simp only [World.size_alloc, World.size_setCell, World.size_drew, World.heap_drewN] at hs_w1)
  go_wp2_with fail
  go_at_call 12
  refine (HP.out _ (hr.later (by repeat (first | exact Below.refl _ _ | assumption | (refine below_drewN ?_ _) | (refine Below.drew ?_) | (refine Below.alloc ?_ (by first | omega | (simp; omega) | simp) _) | (refine Below.setCell ?_ (by first | omega | (simp; omega) | simp) _) | (refine below_trans ?_ (by assumption) (by first | omega | (simp; omega) | simp))))) (hL.later (by repeat (first | exact Below.refl _ _ | assumption | (refine below_drewN ?_ _) | (refine Below.drew ?_) | (refine Below.alloc ?_ (by first | omega | (simp; omega) | simp) _) | (refine Below.setCell ?_ (by first | omega | (simp; omega) | simp) _) | (refine below_trans ?_ (by assumption) (by first | omega | (simp; omega) | simp)))))).mono ?_
  rintro e w2 ⟨rfl, hb_w2⟩
  obtain ⟨hc_w2, hf_w2⟩ := bcell hb_w2; have hs_w2 := hb_w2.size; (try simp only [World.size_alloc, World.size_setCell, World.size_drew, World.heap_drewN] at hs_w2)
  go_wp2_with fail
  go_at_call 8
  refine (HQ.out _ (hL.later (by repeat (first | exact Below.refl _ _ | assumption | (refine below_drewN ?_ _) | (refine Below.drew ?_) | (refine Below.alloc ?_ (by first | omega | (simp; omega) | simp) _) | (refine Below.setCell ?_ (by first | omega | (simp; omega) | simp) _) | (refine below_trans ?_ (by assumption) (by first | omega | (simp; omega) | simp)))))).mono ?_
  rintro e w3 ⟨Q, qc, rfl, hb_w3⟩
  obtain ⟨hc_w3, hf_w3⟩ := bcell hb_w3; have hs_w3 := hb_w3.size; (try simp only [World.size_alloc, World.size_setCell, World.size_drew, World.heap_drewN] at hs_w3)
  go_wp2
  go_ret
  exact ⟨rfl, (by repeat (first | exact Below.refl _ _ | assumption | (refine below_drewN ?_ _) | (refine Below.drew ?_) | (refine Below.alloc ?_ (by first | omega | (simp; omega) | simp) _) | (refine Below.setCell ?_ (by first | omega | (simp; omega) | simp) _) | (refine below_trans ?_ (by assumption) (by first | omega | (simp; omega) | simp))))⟩
set_option maxRecDepth 100000 in
set_option maxHeartbeats 8000000 in
theorem back_long_ok (A : Option Addr) (cap : Nat) (l : List Ev) (text : ByteArray) (hL : Lw w) (hr : ERow w w.heap.size A l) (hl : l.length ≤ 17592186044416) (hok : OkL l) (hll : 65536 < (printL l).length) (m : List Ev) (hR : readT text.data.toList = (m, 0, 0)) (hm : OkL m) (hlm : (printL m).length ≤ 65536) :
    Calls Tryd.prog 5 #[.slice A l.length cap, .string text] w fun r w' => r = .returned (.bool true) ∧ Below w.heap.size w w' := by
  have HLV := Lib.hid fun (w : World) hL => lives_any (w := w) hL
  have HQ := Lib.hid fun (w : World) hL => parse_ok (w := w) m text hR hL
  have HRM := Lib.hid fun (W : World) (A : Option Addr) (cap B : Nat) (h : OwnsE W B (.slice A m.length cap) m) => ERow.of_owns h
  have HR := Lib.hid fun (w : World) (A : Option Addr) (cap : Nat) hr hL => print_ok (w := w) (A := A) (l := m) cap hm hr (small_print hm) hL
  have HT := Lib.hid fun (w : World) hL => parse_ok (w := w) m (bs (printL m)) (by rw [bs_data]; exact readT_print hm (by omega)) hL
  have HSQ := Lib.hid fun (w : World) (F G : Option Addr) (fc gc : Nat) hr hq => same_any (w := w) (A := F) (C := G) (l := m) (m := m) fc gc hr hq (small_print hm) (small_print hm) true (by simp)
  have d8 : decide (65536 < ((bs (printL m)).size : Int)) = false := decide_eq_false (by rw [bs_size]; omega)
  have d9 : decide (65536 < (bs (printL m)).size) = false := decide_eq_false (by rw [bs_size]; omega)
  clear hm hlm
  generalize bs (printL m) = PM at *
  have HP := Lib.hid fun (w : World) hr hL => print_ok (w := w) (A := A) (l := l) cap hok hr hl hL
  have d1 : decide (((bs (printL l)).size : Int) ≤ 65536) = false := decide_eq_false (by rw [bs_size]; omega)
  have d2 : decide ((bs (printL l)).size ≤ 65536) = false := decide_eq_false (by rw [bs_size]; omega)
  clear hok hll
  generalize bs (printL l) = PL at *
  go_enter Tryd.func5, Tryd.ntmps5
  go_wp2_with fail
  go_at_call 10
  refine (HLV.out _ (hL.later (by repeat (first | exact Below.refl _ _ | assumption | (refine below_drewN ?_ _) | (refine Below.drew ?_) | (refine Below.alloc ?_ (by first | omega | (simp; omega) | simp) _) | (refine Below.setCell ?_ (by first | omega | (simp; omega) | simp) _) | (refine below_trans ?_ (by assumption) (by first | omega | (simp; omega) | simp)))))).mono ?_
  rintro e w1 ⟨rfl, hb_w1⟩
  obtain ⟨hc_w1, hf_w1⟩ := bcell hb_w1; have hs_w1 := hb_w1.size; (try simp only [World.size_alloc, World.size_setCell, World.size_drew, World.heap_drewN] at hs_w1)
  go_wp2_with fail
  go_at_call 12
  refine (HP.out _ (hr.later (by repeat (first | exact Below.refl _ _ | assumption | (refine below_drewN ?_ _) | (refine Below.drew ?_) | (refine Below.alloc ?_ (by first | omega | (simp; omega) | simp) _) | (refine Below.setCell ?_ (by first | omega | (simp; omega) | simp) _) | (refine below_trans ?_ (by assumption) (by first | omega | (simp; omega) | simp))))) (hL.later (by repeat (first | exact Below.refl _ _ | assumption | (refine below_drewN ?_ _) | (refine Below.drew ?_) | (refine Below.alloc ?_ (by first | omega | (simp; omega) | simp) _) | (refine Below.setCell ?_ (by first | omega | (simp; omega) | simp) _) | (refine below_trans ?_ (by assumption) (by first | omega | (simp; omega) | simp)))))).mono ?_
  rintro e w2 ⟨rfl, hb_w2⟩
  obtain ⟨hc_w2, hf_w2⟩ := bcell hb_w2; have hs_w2 := hb_w2.size; (try simp only [World.size_alloc, World.size_setCell, World.size_drew, World.heap_drewN] at hs_w2)
  go_wp2_with fail
  go_at_call 8
  refine (HQ.out _ (hL.later (by repeat (first | exact Below.refl _ _ | assumption | (refine below_drewN ?_ _) | (refine Below.drew ?_) | (refine Below.alloc ?_ (by first | omega | (simp; omega) | simp) _) | (refine Below.setCell ?_ (by first | omega | (simp; omega) | simp) _) | (refine below_trans ?_ (by assumption) (by first | omega | (simp; omega) | simp)))))).mono ?_
  rintro e w3 ⟨Q, qc, rfl, oQ, hb_w3⟩
  obtain ⟨hc_w3, hf_w3⟩ := bcell hb_w3; have hs_w3 := hb_w3.size; (try simp only [World.size_alloc, World.size_setCell, World.size_drew, World.heap_drewN] at hs_w3)
  have rQ := Lib.hid (HRM.out _ _ _ _ oQ)
  clear oQ
  go_wp2_with fail
  go_at_call 12
  refine (HR.out _ _ _ rQ.out (hL.later (by repeat (first | exact Below.refl _ _ | assumption | (refine below_drewN ?_ _) | (refine Below.drew ?_) | (refine Below.alloc ?_ (by first | omega | (simp; omega) | simp) _) | (refine Below.setCell ?_ (by first | omega | (simp; omega) | simp) _) | (refine below_trans ?_ (by assumption) (by first | omega | (simp; omega) | simp)))))).mono ?_
  rintro e w4 ⟨rfl, hb_w4⟩
  obtain ⟨hc_w4, hf_w4⟩ := bcell hb_w4; have hs_w4 := hb_w4.size; (try simp only [World.size_alloc, World.size_setCell, World.size_drew, World.heap_drewN] at hs_w4)
  go_wp2_with fail
  go_at_call 8
  refine (HT.out _ (hL.later (by repeat (first | exact Below.refl _ _ | assumption | (refine below_drewN ?_ _) | (refine Below.drew ?_) | (refine Below.alloc ?_ (by first | omega | (simp; omega) | simp) _) | (refine Below.setCell ?_ (by first | omega | (simp; omega) | simp) _) | (refine below_trans ?_ (by assumption) (by first | omega | (simp; omega) | simp)))))).mono ?_
  rintro e w5 ⟨Z, zc, rfl, oZ, hb_w5⟩
  obtain ⟨hc_w5, hf_w5⟩ := bcell hb_w5; have hs_w5 := hb_w5.size; (try simp only [World.size_alloc, World.size_setCell, World.size_drew, World.heap_drewN] at hs_w5)
  have rZ := Lib.hid (HRM.out _ _ _ _ oZ)
  clear oZ
  go_wp2_with fail
  go_at_call 11
  refine (HSQ.out _ _ _ _ _ (rQ.out.later (by repeat (first | exact Below.refl _ _ | assumption | (refine below_drewN ?_ _) | (refine Below.drew ?_) | (refine Below.alloc ?_ (by first | omega | (simp; omega) | simp) _) | (refine Below.setCell ?_ (by first | omega | (simp; omega) | simp) _) | (refine below_trans ?_ (by assumption) (by first | omega | (simp; omega) | simp))))) rZ.out).mono ?_
  rintro e w6 ⟨rfl, hb_w6⟩
  obtain ⟨hc_w6, hf_w6⟩ := bcell hb_w6; have hs_w6 := hb_w6.size; (try simp only [World.size_alloc, World.size_setCell, World.size_drew, World.heap_drewN] at hs_w6)
  go_wp2
  go_ret
  exact ⟨rfl, (by repeat (first | exact Below.refl _ _ | assumption | (refine below_drewN ?_ _) | (refine Below.drew ?_) | (refine Below.alloc ?_ (by first | omega | (simp; omega) | simp) _) | (refine Below.setCell ?_ (by first | omega | (simp; omega) | simp) _) | (refine below_trans ?_ (by assumption) (by first | omega | (simp; omega) | simp))))⟩
set_option maxRecDepth 100000 in
set_option maxHeartbeats 8000000 in
theorem back_long_long (A : Option Addr) (cap : Nat) (l : List Ev) (text : ByteArray) (hL : Lw w) (hr : ERow w w.heap.size A l) (hl : l.length ≤ 17592186044416) (hok : OkL l) (hll : 65536 < (printL l).length) (m : List Ev) (hR : readT text.data.toList = (m, 0, 0)) (hm : OkL m) (hlm : 65536 < (printL m).length) :
    Calls Tryd.prog 5 #[.slice A l.length cap, .string text] w fun r w' => r = .returned (.bool true) ∧ Below w.heap.size w w' := by
  have HLV := Lib.hid fun (w : World) hL => lives_any (w := w) hL
  have HQ := Lib.hid fun (w : World) hL => parse_ok (w := w) m text hR hL
  have HRM := Lib.hid fun (W : World) (A : Option Addr) (cap B : Nat) (h : OwnsE W B (.slice A m.length cap) m) => ERow.of_owns h
  have HR := Lib.hid fun (w : World) (A : Option Addr) (cap : Nat) hr hL => print_ok (w := w) (A := A) (l := m) cap hm hr (small_print hm) hL
  have HT := Lib.hid fun (w : World) hL => parse_far (w := w) (bs (printL m)) (by rw [bs_data]; exact readT_long hlm) hL
  have d8 : decide (65536 < ((bs (printL m)).size : Int)) = true := decide_eq_true (by rw [bs_size]; omega)
  have d9 : decide (65536 < (bs (printL m)).size) = true := decide_eq_true (by rw [bs_size]; omega)
  clear hm hlm
  generalize bs (printL m) = PM at *
  have HP := Lib.hid fun (w : World) hr hL => print_ok (w := w) (A := A) (l := l) cap hok hr hl hL
  have d1 : decide (((bs (printL l)).size : Int) ≤ 65536) = false := decide_eq_false (by rw [bs_size]; omega)
  have d2 : decide ((bs (printL l)).size ≤ 65536) = false := decide_eq_false (by rw [bs_size]; omega)
  clear hok hll
  generalize bs (printL l) = PL at *
  go_enter Tryd.func5, Tryd.ntmps5
  go_wp2_with fail
  go_at_call 10
  refine (HLV.out _ (hL.later (by repeat (first | exact Below.refl _ _ | assumption | (refine below_drewN ?_ _) | (refine Below.drew ?_) | (refine Below.alloc ?_ (by first | omega | (simp; omega) | simp) _) | (refine Below.setCell ?_ (by first | omega | (simp; omega) | simp) _) | (refine below_trans ?_ (by assumption) (by first | omega | (simp; omega) | simp)))))).mono ?_
  rintro e w1 ⟨rfl, hb_w1⟩
  obtain ⟨hc_w1, hf_w1⟩ := bcell hb_w1; have hs_w1 := hb_w1.size; (try simp only [World.size_alloc, World.size_setCell, World.size_drew, World.heap_drewN] at hs_w1)
  go_wp2_with fail
  go_at_call 12
  refine (HP.out _ (hr.later (by repeat (first | exact Below.refl _ _ | assumption | (refine below_drewN ?_ _) | (refine Below.drew ?_) | (refine Below.alloc ?_ (by first | omega | (simp; omega) | simp) _) | (refine Below.setCell ?_ (by first | omega | (simp; omega) | simp) _) | (refine below_trans ?_ (by assumption) (by first | omega | (simp; omega) | simp))))) (hL.later (by repeat (first | exact Below.refl _ _ | assumption | (refine below_drewN ?_ _) | (refine Below.drew ?_) | (refine Below.alloc ?_ (by first | omega | (simp; omega) | simp) _) | (refine Below.setCell ?_ (by first | omega | (simp; omega) | simp) _) | (refine below_trans ?_ (by assumption) (by first | omega | (simp; omega) | simp)))))).mono ?_
  rintro e w2 ⟨rfl, hb_w2⟩
  obtain ⟨hc_w2, hf_w2⟩ := bcell hb_w2; have hs_w2 := hb_w2.size; (try simp only [World.size_alloc, World.size_setCell, World.size_drew, World.heap_drewN] at hs_w2)
  go_wp2_with fail
  go_at_call 8
  refine (HQ.out _ (hL.later (by repeat (first | exact Below.refl _ _ | assumption | (refine below_drewN ?_ _) | (refine Below.drew ?_) | (refine Below.alloc ?_ (by first | omega | (simp; omega) | simp) _) | (refine Below.setCell ?_ (by first | omega | (simp; omega) | simp) _) | (refine below_trans ?_ (by assumption) (by first | omega | (simp; omega) | simp)))))).mono ?_
  rintro e w3 ⟨Q, qc, rfl, oQ, hb_w3⟩
  obtain ⟨hc_w3, hf_w3⟩ := bcell hb_w3; have hs_w3 := hb_w3.size; (try simp only [World.size_alloc, World.size_setCell, World.size_drew, World.heap_drewN] at hs_w3)
  have rQ := Lib.hid (HRM.out _ _ _ _ oQ)
  clear oQ
  go_wp2_with fail
  go_at_call 12
  refine (HR.out _ _ _ rQ.out (hL.later (by repeat (first | exact Below.refl _ _ | assumption | (refine below_drewN ?_ _) | (refine Below.drew ?_) | (refine Below.alloc ?_ (by first | omega | (simp; omega) | simp) _) | (refine Below.setCell ?_ (by first | omega | (simp; omega) | simp) _) | (refine below_trans ?_ (by assumption) (by first | omega | (simp; omega) | simp)))))).mono ?_
  rintro e w4 ⟨rfl, hb_w4⟩
  obtain ⟨hc_w4, hf_w4⟩ := bcell hb_w4; have hs_w4 := hb_w4.size; (try simp only [World.size_alloc, World.size_setCell, World.size_drew, World.heap_drewN] at hs_w4)
  go_wp2_with fail
  go_at_call 8
  refine (HT.out _ (hL.later (by repeat (first | exact Below.refl _ _ | assumption | (refine below_drewN ?_ _) | (refine Below.drew ?_) | (refine Below.alloc ?_ (by first | omega | (simp; omega) | simp) _) | (refine Below.setCell ?_ (by first | omega | (simp; omega) | simp) _) | (refine below_trans ?_ (by assumption) (by first | omega | (simp; omega) | simp)))))).mono ?_
  rintro e w5 ⟨Z, zc, rfl, hb_w5⟩
  obtain ⟨hc_w5, hf_w5⟩ := bcell hb_w5; have hs_w5 := hb_w5.size; (try simp only [World.size_alloc, World.size_setCell, World.size_drew, World.heap_drewN] at hs_w5)
  go_wp2
  go_ret
  exact ⟨rfl, (by repeat (first | exact Below.refl _ _ | assumption | (refine below_drewN ?_ _) | (refine Below.drew ?_) | (refine Below.alloc ?_ (by first | omega | (simp; omega) | simp) _) | (refine Below.setCell ?_ (by first | omega | (simp; omega) | simp) _) | (refine below_trans ?_ (by assumption) (by first | omega | (simp; omega) | simp))))⟩
set_option maxRecDepth 100000 in
set_option maxHeartbeats 8000000 in
theorem back_long_form (A : Option Addr) (cap : Nat) (l : List Ev) (text : ByteArray) (hL : Lw w) (hr : ERow w w.heap.size A l) (hl : l.length ≤ 17592186044416) (hok : OkL l) (hll : 65536 < (printL l).length) (k : Nat) (hR : readT text.data.toList = ([], k + 1, 2)) :
    Calls Tryd.prog 5 #[.slice A l.length cap, .string text] w fun r w' => r = .returned (.bool true) ∧ Below w.heap.size w w' := by
  have HLV := Lib.hid fun (w : World) hL => lives_any (w := w) hL
  have HQ := Lib.hid fun (w : World) hL => parse_no (w := w) (k + 1) 2 text hR hL
  have d8 : decide (0 < (((k + 1 : Nat)) : Int)) = true := decide_eq_true (by omega)
  have d9 : decide (0 < k + 1) = true := decide_eq_true (by omega)
  generalize k + 1 = kk at *
  have HP := Lib.hid fun (w : World) hr hL => print_ok (w := w) (A := A) (l := l) cap hok hr hl hL
  have d1 : decide (((bs (printL l)).size : Int) ≤ 65536) = false := decide_eq_false (by rw [bs_size]; omega)
  have d2 : decide ((bs (printL l)).size ≤ 65536) = false := decide_eq_false (by rw [bs_size]; omega)
  clear hok hll
  generalize bs (printL l) = PL at *
  go_enter Tryd.func5, Tryd.ntmps5
  go_wp2_with fail
  go_at_call 10
  refine (HLV.out _ (hL.later (by repeat (first | exact Below.refl _ _ | assumption | (refine below_drewN ?_ _) | (refine Below.drew ?_) | (refine Below.alloc ?_ (by first | omega | (simp; omega) | simp) _) | (refine Below.setCell ?_ (by first | omega | (simp; omega) | simp) _) | (refine below_trans ?_ (by assumption) (by first | omega | (simp; omega) | simp)))))).mono ?_
  rintro e w1 ⟨rfl, hb_w1⟩
  obtain ⟨hc_w1, hf_w1⟩ := bcell hb_w1; have hs_w1 := hb_w1.size; (try simp only [World.size_alloc, World.size_setCell, World.size_drew, World.heap_drewN] at hs_w1)
  go_wp2_with fail
  go_at_call 12
  refine (HP.out _ (hr.later (by repeat (first | exact Below.refl _ _ | assumption | (refine below_drewN ?_ _) | (refine Below.drew ?_) | (refine Below.alloc ?_ (by first | omega | (simp; omega) | simp) _) | (refine Below.setCell ?_ (by first | omega | (simp; omega) | simp) _) | (refine below_trans ?_ (by assumption) (by first | omega | (simp; omega) | simp))))) (hL.later (by repeat (first | exact Below.refl _ _ | assumption | (refine below_drewN ?_ _) | (refine Below.drew ?_) | (refine Below.alloc ?_ (by first | omega | (simp; omega) | simp) _) | (refine Below.setCell ?_ (by first | omega | (simp; omega) | simp) _) | (refine below_trans ?_ (by assumption) (by first | omega | (simp; omega) | simp)))))).mono ?_
  rintro e w2 ⟨rfl, hb_w2⟩
  obtain ⟨hc_w2, hf_w2⟩ := bcell hb_w2; have hs_w2 := hb_w2.size; (try simp only [World.size_alloc, World.size_setCell, World.size_drew, World.heap_drewN] at hs_w2)
  go_wp2_with fail
  go_at_call 8
  refine (HQ.out _ (hL.later (by repeat (first | exact Below.refl _ _ | assumption | (refine below_drewN ?_ _) | (refine Below.drew ?_) | (refine Below.alloc ?_ (by first | omega | (simp; omega) | simp) _) | (refine Below.setCell ?_ (by first | omega | (simp; omega) | simp) _) | (refine below_trans ?_ (by assumption) (by first | omega | (simp; omega) | simp)))))).mono ?_
  rintro e w3 ⟨Q, qc, rfl, hb_w3⟩
  obtain ⟨hc_w3, hf_w3⟩ := bcell hb_w3; have hs_w3 := hb_w3.size; (try simp only [World.size_alloc, World.size_setCell, World.size_drew, World.heap_drewN] at hs_w3)
  go_wp2
  go_ret
  exact ⟨rfl, (by repeat (first | exact Below.refl _ _ | assumption | (refine below_drewN ?_ _) | (refine Below.drew ?_) | (refine Below.alloc ?_ (by first | omega | (simp; omega) | simp) _) | (refine Below.setCell ?_ (by first | omega | (simp; omega) | simp) _) | (refine below_trans ?_ (by assumption) (by first | omega | (simp; omega) | simp))))⟩
set_option maxRecDepth 100000 in
set_option maxHeartbeats 8000000 in
theorem back_long_full (A : Option Addr) (cap : Nat) (l : List Ev) (text : ByteArray) (hL : Lw w) (hr : ERow w w.heap.size A l) (hl : l.length ≤ 17592186044416) (hok : OkL l) (hll : 65536 < (printL l).length) (k : Nat) (hR : readT text.data.toList = ([], k + 1, 6)) :
    Calls Tryd.prog 5 #[.slice A l.length cap, .string text] w fun r w' => r = .returned (.bool true) ∧ Below w.heap.size w w' := by
  have HLV := Lib.hid fun (w : World) hL => lives_any (w := w) hL
  have HQ := Lib.hid fun (w : World) hL => parse_no (w := w) (k + 1) 6 text hR hL
  have d8 : decide (0 < (((k + 1 : Nat)) : Int)) = true := decide_eq_true (by omega)
  have d9 : decide (0 < k + 1) = true := decide_eq_true (by omega)
  generalize k + 1 = kk at *
  have HP := Lib.hid fun (w : World) hr hL => print_ok (w := w) (A := A) (l := l) cap hok hr hl hL
  have d1 : decide (((bs (printL l)).size : Int) ≤ 65536) = false := decide_eq_false (by rw [bs_size]; omega)
  have d2 : decide ((bs (printL l)).size ≤ 65536) = false := decide_eq_false (by rw [bs_size]; omega)
  clear hok hll
  generalize bs (printL l) = PL at *
  go_enter Tryd.func5, Tryd.ntmps5
  go_wp2_with fail
  go_at_call 10
  refine (HLV.out _ (hL.later (by repeat (first | exact Below.refl _ _ | assumption | (refine below_drewN ?_ _) | (refine Below.drew ?_) | (refine Below.alloc ?_ (by first | omega | (simp; omega) | simp) _) | (refine Below.setCell ?_ (by first | omega | (simp; omega) | simp) _) | (refine below_trans ?_ (by assumption) (by first | omega | (simp; omega) | simp)))))).mono ?_
  rintro e w1 ⟨rfl, hb_w1⟩
  obtain ⟨hc_w1, hf_w1⟩ := bcell hb_w1; have hs_w1 := hb_w1.size; (try simp only [World.size_alloc, World.size_setCell, World.size_drew, World.heap_drewN] at hs_w1)
  go_wp2_with fail
  go_at_call 12
  refine (HP.out _ (hr.later (by repeat (first | exact Below.refl _ _ | assumption | (refine below_drewN ?_ _) | (refine Below.drew ?_) | (refine Below.alloc ?_ (by first | omega | (simp; omega) | simp) _) | (refine Below.setCell ?_ (by first | omega | (simp; omega) | simp) _) | (refine below_trans ?_ (by assumption) (by first | omega | (simp; omega) | simp))))) (hL.later (by repeat (first | exact Below.refl _ _ | assumption | (refine below_drewN ?_ _) | (refine Below.drew ?_) | (refine Below.alloc ?_ (by first | omega | (simp; omega) | simp) _) | (refine Below.setCell ?_ (by first | omega | (simp; omega) | simp) _) | (refine below_trans ?_ (by assumption) (by first | omega | (simp; omega) | simp)))))).mono ?_
  rintro e w2 ⟨rfl, hb_w2⟩
  obtain ⟨hc_w2, hf_w2⟩ := bcell hb_w2; have hs_w2 := hb_w2.size; (try simp only [World.size_alloc, World.size_setCell, World.size_drew, World.heap_drewN] at hs_w2)
  go_wp2_with fail
  go_at_call 8
  refine (HQ.out _ (hL.later (by repeat (first | exact Below.refl _ _ | assumption | (refine below_drewN ?_ _) | (refine Below.drew ?_) | (refine Below.alloc ?_ (by first | omega | (simp; omega) | simp) _) | (refine Below.setCell ?_ (by first | omega | (simp; omega) | simp) _) | (refine below_trans ?_ (by assumption) (by first | omega | (simp; omega) | simp)))))).mono ?_
  rintro e w3 ⟨Q, qc, rfl, hb_w3⟩
  obtain ⟨hc_w3, hf_w3⟩ := bcell hb_w3; have hs_w3 := hb_w3.size; (try simp only [World.size_alloc, World.size_setCell, World.size_drew, World.heap_drewN] at hs_w3)
  go_wp2
  go_ret
  exact ⟨rfl, (by repeat (first | exact Below.refl _ _ | assumption | (refine below_drewN ?_ _) | (refine Below.drew ?_) | (refine Below.alloc ?_ (by first | omega | (simp; omega) | simp) _) | (refine Below.setCell ?_ (by first | omega | (simp; omega) | simp) _) | (refine below_trans ?_ (by assumption) (by first | omega | (simp; omega) | simp))))⟩
set_option maxRecDepth 100000 in
set_option maxHeartbeats 8000000 in
theorem back_long_range (A : Option Addr) (cap : Nat) (l : List Ev) (text : ByteArray) (hL : Lw w) (hr : ERow w w.heap.size A l) (hl : l.length ≤ 17592186044416) (hok : OkL l) (hll : 65536 < (printL l).length) (hR : readT text.data.toList = ([], 0, 1)) :
    Calls Tryd.prog 5 #[.slice A l.length cap, .string text] w fun r w' => r = .returned (.bool true) ∧ Below w.heap.size w w' := by
  have HLV := Lib.hid fun (w : World) hL => lives_any (w := w) hL
  have HQ := Lib.hid fun (w : World) hL => parse_far (w := w) text hR hL
  have HP := Lib.hid fun (w : World) hr hL => print_ok (w := w) (A := A) (l := l) cap hok hr hl hL
  have d1 : decide (((bs (printL l)).size : Int) ≤ 65536) = false := decide_eq_false (by rw [bs_size]; omega)
  have d2 : decide ((bs (printL l)).size ≤ 65536) = false := decide_eq_false (by rw [bs_size]; omega)
  clear hok hll
  generalize bs (printL l) = PL at *
  go_enter Tryd.func5, Tryd.ntmps5
  go_wp2_with fail
  go_at_call 10
  refine (HLV.out _ (hL.later (by repeat (first | exact Below.refl _ _ | assumption | (refine below_drewN ?_ _) | (refine Below.drew ?_) | (refine Below.alloc ?_ (by first | omega | (simp; omega) | simp) _) | (refine Below.setCell ?_ (by first | omega | (simp; omega) | simp) _) | (refine below_trans ?_ (by assumption) (by first | omega | (simp; omega) | simp)))))).mono ?_
  rintro e w1 ⟨rfl, hb_w1⟩
  obtain ⟨hc_w1, hf_w1⟩ := bcell hb_w1; have hs_w1 := hb_w1.size; (try simp only [World.size_alloc, World.size_setCell, World.size_drew, World.heap_drewN] at hs_w1)
  go_wp2_with fail
  go_at_call 12
  refine (HP.out _ (hr.later (by repeat (first | exact Below.refl _ _ | assumption | (refine below_drewN ?_ _) | (refine Below.drew ?_) | (refine Below.alloc ?_ (by first | omega | (simp; omega) | simp) _) | (refine Below.setCell ?_ (by first | omega | (simp; omega) | simp) _) | (refine below_trans ?_ (by assumption) (by first | omega | (simp; omega) | simp))))) (hL.later (by repeat (first | exact Below.refl _ _ | assumption | (refine below_drewN ?_ _) | (refine Below.drew ?_) | (refine Below.alloc ?_ (by first | omega | (simp; omega) | simp) _) | (refine Below.setCell ?_ (by first | omega | (simp; omega) | simp) _) | (refine below_trans ?_ (by assumption) (by first | omega | (simp; omega) | simp)))))).mono ?_
  rintro e w2 ⟨rfl, hb_w2⟩
  obtain ⟨hc_w2, hf_w2⟩ := bcell hb_w2; have hs_w2 := hb_w2.size; (try simp only [World.size_alloc, World.size_setCell, World.size_drew, World.heap_drewN] at hs_w2)
  go_wp2_with fail
  go_at_call 8
  refine (HQ.out _ (hL.later (by repeat (first | exact Below.refl _ _ | assumption | (refine below_drewN ?_ _) | (refine Below.drew ?_) | (refine Below.alloc ?_ (by first | omega | (simp; omega) | simp) _) | (refine Below.setCell ?_ (by first | omega | (simp; omega) | simp) _) | (refine below_trans ?_ (by assumption) (by first | omega | (simp; omega) | simp)))))).mono ?_
  rintro e w3 ⟨Q, qc, rfl, hb_w3⟩
  obtain ⟨hc_w3, hf_w3⟩ := bcell hb_w3; have hs_w3 := hb_w3.size; (try simp only [World.size_alloc, World.size_setCell, World.size_drew, World.heap_drewN] at hs_w3)
  go_wp2
  go_ret
  exact ⟨rfl, (by repeat (first | exact Below.refl _ _ | assumption | (refine below_drewN ?_ _) | (refine Below.drew ?_) | (refine Below.alloc ?_ (by first | omega | (simp; omega) | simp) _) | (refine Below.setCell ?_ (by first | omega | (simp; omega) | simp) _) | (refine below_trans ?_ (by assumption) (by first | omega | (simp; omega) | simp))))⟩
set_option maxRecDepth 100000 in
set_option maxHeartbeats 8000000 in
theorem back_short_ok (A : Option Addr) (cap : Nat) (l : List Ev) (text : ByteArray) (hL : Lw w) (hr : ERow w w.heap.size A l) (hl : l.length ≤ 17592186044416) (hok : OkL l) (hll : (printL l).length ≤ 65536) (m : List Ev) (hR : readT text.data.toList = (m, 0, 0)) (hm : OkL m) (hlm : (printL m).length ≤ 65536) :
    Calls Tryd.prog 5 #[.slice A l.length cap, .string text] w fun r w' => r = .returned (.bool true) ∧ Below w.heap.size w w' := by
  have HLV := Lib.hid fun (w : World) hL => lives_any (w := w) hL
  have HQ := Lib.hid fun (w : World) hL => parse_ok (w := w) m text hR hL
  have HRM := Lib.hid fun (W : World) (A : Option Addr) (cap B : Nat) (h : OwnsE W B (.slice A m.length cap) m) => ERow.of_owns h
  have HR := Lib.hid fun (w : World) (A : Option Addr) (cap : Nat) hr hL => print_ok (w := w) (A := A) (l := m) cap hm hr (small_print hm) hL
  have HT := Lib.hid fun (w : World) hL => parse_ok (w := w) m (bs (printL m)) (by rw [bs_data]; exact readT_print hm (by omega)) hL
  have HSQ := Lib.hid fun (w : World) (F G : Option Addr) (fc gc : Nat) hr hq => same_any (w := w) (A := F) (C := G) (l := m) (m := m) fc gc hr hq (small_print hm) (small_print hm) true (by simp)
  have d8 : decide (65536 < ((bs (printL m)).size : Int)) = false := decide_eq_false (by rw [bs_size]; omega)
  have d9 : decide (65536 < (bs (printL m)).size) = false := decide_eq_false (by rw [bs_size]; omega)
  clear hm hlm
  generalize bs (printL m) = PM at *
  have HP := Lib.hid fun (w : World) hr hL => print_ok (w := w) (A := A) (l := l) cap hok hr hl hL
  have d1 : decide (((bs (printL l)).size : Int) ≤ 65536) = true := decide_eq_true (by rw [bs_size]; omega)
  have d2 : decide ((bs (printL l)).size ≤ 65536) = true := decide_eq_true (by rw [bs_size]; omega)
  have HP2 := Lib.hid fun (w : World) hL => parse_ok (w := w) l (bs (printL l)) (by rw [bs_data]; exact readT_print hok (by omega)) hL
  have HRL := Lib.hid fun (W : World) (A : Option Addr) (cap B : Nat) (h : OwnsE W B (.slice A l.length cap) l) => ERow.of_owns h
  have HSM := Lib.hid fun (w : World) (G : Option Addr) (gc : Nat) hr hq => same_any (w := w) (A := A) (C := G) (l := l) (m := l) cap gc hr hq hl hl true (by simp)
  clear hok hll
  generalize bs (printL l) = PL at *
  go_enter Tryd.func5, Tryd.ntmps5
  go_wp2_with fail
  go_at_call 10
  refine (HLV.out _ (hL.later (by repeat (first | exact Below.refl _ _ | assumption | (refine below_drewN ?_ _) | (refine Below.drew ?_) | (refine Below.alloc ?_ (by first | omega | (simp; omega) | simp) _) | (refine Below.setCell ?_ (by first | omega | (simp; omega) | simp) _) | (refine below_trans ?_ (by assumption) (by first | omega | (simp; omega) | simp)))))).mono ?_
  rintro e w1 ⟨rfl, hb_w1⟩
  obtain ⟨hc_w1, hf_w1⟩ := bcell hb_w1; have hs_w1 := hb_w1.size; (try simp only [World.size_alloc, World.size_setCell, World.size_drew, World.heap_drewN] at hs_w1)
  go_wp2_with fail
  go_at_call 12
  refine (HP.out _ (hr.later (by repeat (first | exact Below.refl _ _ | assumption | (refine below_drewN ?_ _) | (refine Below.drew ?_) | (refine Below.alloc ?_ (by first | omega | (simp; omega) | simp) _) | (refine Below.setCell ?_ (by first | omega | (simp; omega) | simp) _) | (refine below_trans ?_ (by assumption) (by first | omega | (simp; omega) | simp))))) (hL.later (by repeat (first | exact Below.refl _ _ | assumption | (refine below_drewN ?_ _) | (refine Below.drew ?_) | (refine Below.alloc ?_ (by first | omega | (simp; omega) | simp) _) | (refine Below.setCell ?_ (by first | omega | (simp; omega) | simp) _) | (refine below_trans ?_ (by assumption) (by first | omega | (simp; omega) | simp)))))).mono ?_
  rintro e w2 ⟨rfl, hb_w2⟩
  obtain ⟨hc_w2, hf_w2⟩ := bcell hb_w2; have hs_w2 := hb_w2.size; (try simp only [World.size_alloc, World.size_setCell, World.size_drew, World.heap_drewN] at hs_w2)
  go_wp2_with fail
  go_at_call 8
  refine (HP2.out _ (hL.later (by repeat (first | exact Below.refl _ _ | assumption | (refine below_drewN ?_ _) | (refine Below.drew ?_) | (refine Below.alloc ?_ (by first | omega | (simp; omega) | simp) _) | (refine Below.setCell ?_ (by first | omega | (simp; omega) | simp) _) | (refine below_trans ?_ (by assumption) (by first | omega | (simp; omega) | simp)))))).mono ?_
  rintro e w3 ⟨G, gc, rfl, oG, hb_w3⟩
  obtain ⟨hc_w3, hf_w3⟩ := bcell hb_w3; have hs_w3 := hb_w3.size; (try simp only [World.size_alloc, World.size_setCell, World.size_drew, World.heap_drewN] at hs_w3)
  have rG := Lib.hid (HRL.out _ _ _ _ oG)
  clear oG
  go_wp2_with fail
  go_at_call 11
  refine (HSM.out _ _ _ (hr.later (by repeat (first | exact Below.refl _ _ | assumption | (refine below_drewN ?_ _) | (refine Below.drew ?_) | (refine Below.alloc ?_ (by first | omega | (simp; omega) | simp) _) | (refine Below.setCell ?_ (by first | omega | (simp; omega) | simp) _) | (refine below_trans ?_ (by assumption) (by first | omega | (simp; omega) | simp))))) rG.out).mono ?_
  rintro e w4 ⟨rfl, hb_w4⟩
  obtain ⟨hc_w4, hf_w4⟩ := bcell hb_w4; have hs_w4 := hb_w4.size; (try simp only [World.size_alloc, World.size_setCell, World.size_drew, World.heap_drewN] at hs_w4)
  go_wp2_with fail
  go_at_call 8
  refine (HQ.out _ (hL.later (by repeat (first | exact Below.refl _ _ | assumption | (refine below_drewN ?_ _) | (refine Below.drew ?_) | (refine Below.alloc ?_ (by first | omega | (simp; omega) | simp) _) | (refine Below.setCell ?_ (by first | omega | (simp; omega) | simp) _) | (refine below_trans ?_ (by assumption) (by first | omega | (simp; omega) | simp)))))).mono ?_
  rintro e w5 ⟨Q, qc, rfl, oQ, hb_w5⟩
  obtain ⟨hc_w5, hf_w5⟩ := bcell hb_w5; have hs_w5 := hb_w5.size; (try simp only [World.size_alloc, World.size_setCell, World.size_drew, World.heap_drewN] at hs_w5)
  have rQ := Lib.hid (HRM.out _ _ _ _ oQ)
  clear oQ
  go_wp2_with fail
  go_at_call 12
  refine (HR.out _ _ _ rQ.out (hL.later (by repeat (first | exact Below.refl _ _ | assumption | (refine below_drewN ?_ _) | (refine Below.drew ?_) | (refine Below.alloc ?_ (by first | omega | (simp; omega) | simp) _) | (refine Below.setCell ?_ (by first | omega | (simp; omega) | simp) _) | (refine below_trans ?_ (by assumption) (by first | omega | (simp; omega) | simp)))))).mono ?_
  rintro e w6 ⟨rfl, hb_w6⟩
  obtain ⟨hc_w6, hf_w6⟩ := bcell hb_w6; have hs_w6 := hb_w6.size; (try simp only [World.size_alloc, World.size_setCell, World.size_drew, World.heap_drewN] at hs_w6)
  go_wp2_with fail
  go_at_call 8
  refine (HT.out _ (hL.later (by repeat (first | exact Below.refl _ _ | assumption | (refine below_drewN ?_ _) | (refine Below.drew ?_) | (refine Below.alloc ?_ (by first | omega | (simp; omega) | simp) _) | (refine Below.setCell ?_ (by first | omega | (simp; omega) | simp) _) | (refine below_trans ?_ (by assumption) (by first | omega | (simp; omega) | simp)))))).mono ?_
  rintro e w7 ⟨Z, zc, rfl, oZ, hb_w7⟩
  obtain ⟨hc_w7, hf_w7⟩ := bcell hb_w7; have hs_w7 := hb_w7.size; (try simp only [World.size_alloc, World.size_setCell, World.size_drew, World.heap_drewN] at hs_w7)
  have rZ := Lib.hid (HRM.out _ _ _ _ oZ)
  clear oZ
  go_wp2_with fail
  go_at_call 11
  refine (HSQ.out _ _ _ _ _ (rQ.out.later (by repeat (first | exact Below.refl _ _ | assumption | (refine below_drewN ?_ _) | (refine Below.drew ?_) | (refine Below.alloc ?_ (by first | omega | (simp; omega) | simp) _) | (refine Below.setCell ?_ (by first | omega | (simp; omega) | simp) _) | (refine below_trans ?_ (by assumption) (by first | omega | (simp; omega) | simp))))) rZ.out).mono ?_
  rintro e w8 ⟨rfl, hb_w8⟩
  obtain ⟨hc_w8, hf_w8⟩ := bcell hb_w8; have hs_w8 := hb_w8.size; (try simp only [World.size_alloc, World.size_setCell, World.size_drew, World.heap_drewN] at hs_w8)
  go_wp2
  go_ret
  exact ⟨rfl, (by repeat (first | exact Below.refl _ _ | assumption | (refine below_drewN ?_ _) | (refine Below.drew ?_) | (refine Below.alloc ?_ (by first | omega | (simp; omega) | simp) _) | (refine Below.setCell ?_ (by first | omega | (simp; omega) | simp) _) | (refine below_trans ?_ (by assumption) (by first | omega | (simp; omega) | simp))))⟩
set_option maxRecDepth 100000 in
set_option maxHeartbeats 8000000 in
theorem back_short_long (A : Option Addr) (cap : Nat) (l : List Ev) (text : ByteArray) (hL : Lw w) (hr : ERow w w.heap.size A l) (hl : l.length ≤ 17592186044416) (hok : OkL l) (hll : (printL l).length ≤ 65536) (m : List Ev) (hR : readT text.data.toList = (m, 0, 0)) (hm : OkL m) (hlm : 65536 < (printL m).length) :
    Calls Tryd.prog 5 #[.slice A l.length cap, .string text] w fun r w' => r = .returned (.bool true) ∧ Below w.heap.size w w' := by
  have HLV := Lib.hid fun (w : World) hL => lives_any (w := w) hL
  have HQ := Lib.hid fun (w : World) hL => parse_ok (w := w) m text hR hL
  have HRM := Lib.hid fun (W : World) (A : Option Addr) (cap B : Nat) (h : OwnsE W B (.slice A m.length cap) m) => ERow.of_owns h
  have HR := Lib.hid fun (w : World) (A : Option Addr) (cap : Nat) hr hL => print_ok (w := w) (A := A) (l := m) cap hm hr (small_print hm) hL
  have HT := Lib.hid fun (w : World) hL => parse_far (w := w) (bs (printL m)) (by rw [bs_data]; exact readT_long hlm) hL
  have d8 : decide (65536 < ((bs (printL m)).size : Int)) = true := decide_eq_true (by rw [bs_size]; omega)
  have d9 : decide (65536 < (bs (printL m)).size) = true := decide_eq_true (by rw [bs_size]; omega)
  clear hm hlm
  generalize bs (printL m) = PM at *
  have HP := Lib.hid fun (w : World) hr hL => print_ok (w := w) (A := A) (l := l) cap hok hr hl hL
  have d1 : decide (((bs (printL l)).size : Int) ≤ 65536) = true := decide_eq_true (by rw [bs_size]; omega)
  have d2 : decide ((bs (printL l)).size ≤ 65536) = true := decide_eq_true (by rw [bs_size]; omega)
  have HP2 := Lib.hid fun (w : World) hL => parse_ok (w := w) l (bs (printL l)) (by rw [bs_data]; exact readT_print hok (by omega)) hL
  have HRL := Lib.hid fun (W : World) (A : Option Addr) (cap B : Nat) (h : OwnsE W B (.slice A l.length cap) l) => ERow.of_owns h
  have HSM := Lib.hid fun (w : World) (G : Option Addr) (gc : Nat) hr hq => same_any (w := w) (A := A) (C := G) (l := l) (m := l) cap gc hr hq hl hl true (by simp)
  clear hok hll
  generalize bs (printL l) = PL at *
  go_enter Tryd.func5, Tryd.ntmps5
  go_wp2_with fail
  go_at_call 10
  refine (HLV.out _ (hL.later (by repeat (first | exact Below.refl _ _ | assumption | (refine below_drewN ?_ _) | (refine Below.drew ?_) | (refine Below.alloc ?_ (by first | omega | (simp; omega) | simp) _) | (refine Below.setCell ?_ (by first | omega | (simp; omega) | simp) _) | (refine below_trans ?_ (by assumption) (by first | omega | (simp; omega) | simp)))))).mono ?_
  rintro e w1 ⟨rfl, hb_w1⟩
  obtain ⟨hc_w1, hf_w1⟩ := bcell hb_w1; have hs_w1 := hb_w1.size; (try simp only [World.size_alloc, World.size_setCell, World.size_drew, World.heap_drewN] at hs_w1)
  go_wp2_with fail
  go_at_call 12
  refine (HP.out _ (hr.later (by repeat (first | exact Below.refl _ _ | assumption | (refine below_drewN ?_ _) | (refine Below.drew ?_) | (refine Below.alloc ?_ (by first | omega | (simp; omega) | simp) _) | (refine Below.setCell ?_ (by first | omega | (simp; omega) | simp) _) | (refine below_trans ?_ (by assumption) (by first | omega | (simp; omega) | simp))))) (hL.later (by repeat (first | exact Below.refl _ _ | assumption | (refine below_drewN ?_ _) | (refine Below.drew ?_) | (refine Below.alloc ?_ (by first | omega | (simp; omega) | simp) _) | (refine Below.setCell ?_ (by first | omega | (simp; omega) | simp) _) | (refine below_trans ?_ (by assumption) (by first | omega | (simp; omega) | simp)))))).mono ?_
  rintro e w2 ⟨rfl, hb_w2⟩
  obtain ⟨hc_w2, hf_w2⟩ := bcell hb_w2; have hs_w2 := hb_w2.size; (try simp only [World.size_alloc, World.size_setCell, World.size_drew, World.heap_drewN] at hs_w2)
  go_wp2_with fail
  go_at_call 8
  refine (HP2.out _ (hL.later (by repeat (first | exact Below.refl _ _ | assumption | (refine below_drewN ?_ _) | (refine Below.drew ?_) | (refine Below.alloc ?_ (by first | omega | (simp; omega) | simp) _) | (refine Below.setCell ?_ (by first | omega | (simp; omega) | simp) _) | (refine below_trans ?_ (by assumption) (by first | omega | (simp; omega) | simp)))))).mono ?_
  rintro e w3 ⟨G, gc, rfl, oG, hb_w3⟩
  obtain ⟨hc_w3, hf_w3⟩ := bcell hb_w3; have hs_w3 := hb_w3.size; (try simp only [World.size_alloc, World.size_setCell, World.size_drew, World.heap_drewN] at hs_w3)
  have rG := Lib.hid (HRL.out _ _ _ _ oG)
  clear oG
  go_wp2_with fail
  go_at_call 11
  refine (HSM.out _ _ _ (hr.later (by repeat (first | exact Below.refl _ _ | assumption | (refine below_drewN ?_ _) | (refine Below.drew ?_) | (refine Below.alloc ?_ (by first | omega | (simp; omega) | simp) _) | (refine Below.setCell ?_ (by first | omega | (simp; omega) | simp) _) | (refine below_trans ?_ (by assumption) (by first | omega | (simp; omega) | simp))))) rG.out).mono ?_
  rintro e w4 ⟨rfl, hb_w4⟩
  obtain ⟨hc_w4, hf_w4⟩ := bcell hb_w4; have hs_w4 := hb_w4.size; (try simp only [World.size_alloc, World.size_setCell, World.size_drew, World.heap_drewN] at hs_w4)
  go_wp2_with fail
  go_at_call 8
  refine (HQ.out _ (hL.later (by repeat (first | exact Below.refl _ _ | assumption | (refine below_drewN ?_ _) | (refine Below.drew ?_) | (refine Below.alloc ?_ (by first | omega | (simp; omega) | simp) _) | (refine Below.setCell ?_ (by first | omega | (simp; omega) | simp) _) | (refine below_trans ?_ (by assumption) (by first | omega | (simp; omega) | simp)))))).mono ?_
  rintro e w5 ⟨Q, qc, rfl, oQ, hb_w5⟩
  obtain ⟨hc_w5, hf_w5⟩ := bcell hb_w5; have hs_w5 := hb_w5.size; (try simp only [World.size_alloc, World.size_setCell, World.size_drew, World.heap_drewN] at hs_w5)
  have rQ := Lib.hid (HRM.out _ _ _ _ oQ)
  clear oQ
  go_wp2_with fail
  go_at_call 12
  refine (HR.out _ _ _ rQ.out (hL.later (by repeat (first | exact Below.refl _ _ | assumption | (refine below_drewN ?_ _) | (refine Below.drew ?_) | (refine Below.alloc ?_ (by first | omega | (simp; omega) | simp) _) | (refine Below.setCell ?_ (by first | omega | (simp; omega) | simp) _) | (refine below_trans ?_ (by assumption) (by first | omega | (simp; omega) | simp)))))).mono ?_
  rintro e w6 ⟨rfl, hb_w6⟩
  obtain ⟨hc_w6, hf_w6⟩ := bcell hb_w6; have hs_w6 := hb_w6.size; (try simp only [World.size_alloc, World.size_setCell, World.size_drew, World.heap_drewN] at hs_w6)
  go_wp2_with fail
  go_at_call 8
  refine (HT.out _ (hL.later (by repeat (first | exact Below.refl _ _ | assumption | (refine below_drewN ?_ _) | (refine Below.drew ?_) | (refine Below.alloc ?_ (by first | omega | (simp; omega) | simp) _) | (refine Below.setCell ?_ (by first | omega | (simp; omega) | simp) _) | (refine below_trans ?_ (by assumption) (by first | omega | (simp; omega) | simp)))))).mono ?_
  rintro e w7 ⟨Z, zc, rfl, hb_w7⟩
  obtain ⟨hc_w7, hf_w7⟩ := bcell hb_w7; have hs_w7 := hb_w7.size; (try simp only [World.size_alloc, World.size_setCell, World.size_drew, World.heap_drewN] at hs_w7)
  go_wp2
  go_ret
  exact ⟨rfl, (by repeat (first | exact Below.refl _ _ | assumption | (refine below_drewN ?_ _) | (refine Below.drew ?_) | (refine Below.alloc ?_ (by first | omega | (simp; omega) | simp) _) | (refine Below.setCell ?_ (by first | omega | (simp; omega) | simp) _) | (refine below_trans ?_ (by assumption) (by first | omega | (simp; omega) | simp))))⟩
set_option maxRecDepth 100000 in
set_option maxHeartbeats 8000000 in
theorem back_short_form (A : Option Addr) (cap : Nat) (l : List Ev) (text : ByteArray) (hL : Lw w) (hr : ERow w w.heap.size A l) (hl : l.length ≤ 17592186044416) (hok : OkL l) (hll : (printL l).length ≤ 65536) (k : Nat) (hR : readT text.data.toList = ([], k + 1, 2)) :
    Calls Tryd.prog 5 #[.slice A l.length cap, .string text] w fun r w' => r = .returned (.bool true) ∧ Below w.heap.size w w' := by
  have HLV := Lib.hid fun (w : World) hL => lives_any (w := w) hL
  have HQ := Lib.hid fun (w : World) hL => parse_no (w := w) (k + 1) 2 text hR hL
  have d8 : decide (0 < (((k + 1 : Nat)) : Int)) = true := decide_eq_true (by omega)
  have d9 : decide (0 < k + 1) = true := decide_eq_true (by omega)
  generalize k + 1 = kk at *
  have HP := Lib.hid fun (w : World) hr hL => print_ok (w := w) (A := A) (l := l) cap hok hr hl hL
  have d1 : decide (((bs (printL l)).size : Int) ≤ 65536) = true := decide_eq_true (by rw [bs_size]; omega)
  have d2 : decide ((bs (printL l)).size ≤ 65536) = true := decide_eq_true (by rw [bs_size]; omega)
  have HP2 := Lib.hid fun (w : World) hL => parse_ok (w := w) l (bs (printL l)) (by rw [bs_data]; exact readT_print hok (by omega)) hL
  have HRL := Lib.hid fun (W : World) (A : Option Addr) (cap B : Nat) (h : OwnsE W B (.slice A l.length cap) l) => ERow.of_owns h
  have HSM := Lib.hid fun (w : World) (G : Option Addr) (gc : Nat) hr hq => same_any (w := w) (A := A) (C := G) (l := l) (m := l) cap gc hr hq hl hl true (by simp)
  clear hok hll
  generalize bs (printL l) = PL at *
  go_enter Tryd.func5, Tryd.ntmps5
  go_wp2_with fail
  go_at_call 10
  refine (HLV.out _ (hL.later (by repeat (first | exact Below.refl _ _ | assumption | (refine below_drewN ?_ _) | (refine Below.drew ?_) | (refine Below.alloc ?_ (by first | omega | (simp; omega) | simp) _) | (refine Below.setCell ?_ (by first | omega | (simp; omega) | simp) _) | (refine below_trans ?_ (by assumption) (by first | omega | (simp; omega) | simp)))))).mono ?_
  rintro e w1 ⟨rfl, hb_w1⟩
  obtain ⟨hc_w1, hf_w1⟩ := bcell hb_w1; have hs_w1 := hb_w1.size; (try simp only [World.size_alloc, World.size_setCell, World.size_drew, World.heap_drewN] at hs_w1)
  go_wp2_with fail
  go_at_call 12
  refine (HP.out _ (hr.later (by repeat (first | exact Below.refl _ _ | assumption | (refine below_drewN ?_ _) | (refine Below.drew ?_) | (refine Below.alloc ?_ (by first | omega | (simp; omega) | simp) _) | (refine Below.setCell ?_ (by first | omega | (simp; omega) | simp) _) | (refine below_trans ?_ (by assumption) (by first | omega | (simp; omega) | simp))))) (hL.later (by repeat (first | exact Below.refl _ _ | assumption | (refine below_drewN ?_ _) | (refine Below.drew ?_) | (refine Below.alloc ?_ (by first | omega | (simp; omega) | simp) _) | (refine Below.setCell ?_ (by first | omega | (simp; omega) | simp) _) | (refine below_trans ?_ (by assumption) (by first | omega | (simp; omega) | simp)))))).mono ?_
  rintro e w2 ⟨rfl, hb_w2⟩
  obtain ⟨hc_w2, hf_w2⟩ := bcell hb_w2; have hs_w2 := hb_w2.size; (try simp only [World.size_alloc, World.size_setCell, World.size_drew, World.heap_drewN] at hs_w2)
  go_wp2_with fail
  go_at_call 8
  refine (HP2.out _ (hL.later (by repeat (first | exact Below.refl _ _ | assumption | (refine below_drewN ?_ _) | (refine Below.drew ?_) | (refine Below.alloc ?_ (by first | omega | (simp; omega) | simp) _) | (refine Below.setCell ?_ (by first | omega | (simp; omega) | simp) _) | (refine below_trans ?_ (by assumption) (by first | omega | (simp; omega) | simp)))))).mono ?_
  rintro e w3 ⟨G, gc, rfl, oG, hb_w3⟩
  obtain ⟨hc_w3, hf_w3⟩ := bcell hb_w3; have hs_w3 := hb_w3.size; (try simp only [World.size_alloc, World.size_setCell, World.size_drew, World.heap_drewN] at hs_w3)
  have rG := Lib.hid (HRL.out _ _ _ _ oG)
  clear oG
  go_wp2_with fail
  go_at_call 11
  refine (HSM.out _ _ _ (hr.later (by repeat (first | exact Below.refl _ _ | assumption | (refine below_drewN ?_ _) | (refine Below.drew ?_) | (refine Below.alloc ?_ (by first | omega | (simp; omega) | simp) _) | (refine Below.setCell ?_ (by first | omega | (simp; omega) | simp) _) | (refine below_trans ?_ (by assumption) (by first | omega | (simp; omega) | simp))))) rG.out).mono ?_
  rintro e w4 ⟨rfl, hb_w4⟩
  obtain ⟨hc_w4, hf_w4⟩ := bcell hb_w4; have hs_w4 := hb_w4.size; (try simp only [World.size_alloc, World.size_setCell, World.size_drew, World.heap_drewN] at hs_w4)
  go_wp2_with fail
  go_at_call 8
  refine (HQ.out _ (hL.later (by repeat (first | exact Below.refl _ _ | assumption | (refine below_drewN ?_ _) | (refine Below.drew ?_) | (refine Below.alloc ?_ (by first | omega | (simp; omega) | simp) _) | (refine Below.setCell ?_ (by first | omega | (simp; omega) | simp) _) | (refine below_trans ?_ (by assumption) (by first | omega | (simp; omega) | simp)))))).mono ?_
  rintro e w5 ⟨Q, qc, rfl, hb_w5⟩
  obtain ⟨hc_w5, hf_w5⟩ := bcell hb_w5; have hs_w5 := hb_w5.size; (try simp only [World.size_alloc, World.size_setCell, World.size_drew, World.heap_drewN] at hs_w5)
  go_wp2
  go_ret
  exact ⟨rfl, (by repeat (first | exact Below.refl _ _ | assumption | (refine below_drewN ?_ _) | (refine Below.drew ?_) | (refine Below.alloc ?_ (by first | omega | (simp; omega) | simp) _) | (refine Below.setCell ?_ (by first | omega | (simp; omega) | simp) _) | (refine below_trans ?_ (by assumption) (by first | omega | (simp; omega) | simp))))⟩
set_option maxRecDepth 100000 in
set_option maxHeartbeats 8000000 in
theorem back_short_full (A : Option Addr) (cap : Nat) (l : List Ev) (text : ByteArray) (hL : Lw w) (hr : ERow w w.heap.size A l) (hl : l.length ≤ 17592186044416) (hok : OkL l) (hll : (printL l).length ≤ 65536) (k : Nat) (hR : readT text.data.toList = ([], k + 1, 6)) :
    Calls Tryd.prog 5 #[.slice A l.length cap, .string text] w fun r w' => r = .returned (.bool true) ∧ Below w.heap.size w w' := by
  have HLV := Lib.hid fun (w : World) hL => lives_any (w := w) hL
  have HQ := Lib.hid fun (w : World) hL => parse_no (w := w) (k + 1) 6 text hR hL
  have d8 : decide (0 < (((k + 1 : Nat)) : Int)) = true := decide_eq_true (by omega)
  have d9 : decide (0 < k + 1) = true := decide_eq_true (by omega)
  generalize k + 1 = kk at *
  have HP := Lib.hid fun (w : World) hr hL => print_ok (w := w) (A := A) (l := l) cap hok hr hl hL
  have d1 : decide (((bs (printL l)).size : Int) ≤ 65536) = true := decide_eq_true (by rw [bs_size]; omega)
  have d2 : decide ((bs (printL l)).size ≤ 65536) = true := decide_eq_true (by rw [bs_size]; omega)
  have HP2 := Lib.hid fun (w : World) hL => parse_ok (w := w) l (bs (printL l)) (by rw [bs_data]; exact readT_print hok (by omega)) hL
  have HRL := Lib.hid fun (W : World) (A : Option Addr) (cap B : Nat) (h : OwnsE W B (.slice A l.length cap) l) => ERow.of_owns h
  have HSM := Lib.hid fun (w : World) (G : Option Addr) (gc : Nat) hr hq => same_any (w := w) (A := A) (C := G) (l := l) (m := l) cap gc hr hq hl hl true (by simp)
  clear hok hll
  generalize bs (printL l) = PL at *
  go_enter Tryd.func5, Tryd.ntmps5
  go_wp2_with fail
  go_at_call 10
  refine (HLV.out _ (hL.later (by repeat (first | exact Below.refl _ _ | assumption | (refine below_drewN ?_ _) | (refine Below.drew ?_) | (refine Below.alloc ?_ (by first | omega | (simp; omega) | simp) _) | (refine Below.setCell ?_ (by first | omega | (simp; omega) | simp) _) | (refine below_trans ?_ (by assumption) (by first | omega | (simp; omega) | simp)))))).mono ?_
  rintro e w1 ⟨rfl, hb_w1⟩
  obtain ⟨hc_w1, hf_w1⟩ := bcell hb_w1; have hs_w1 := hb_w1.size; (try simp only [World.size_alloc, World.size_setCell, World.size_drew, World.heap_drewN] at hs_w1)
  go_wp2_with fail
  go_at_call 12
  refine (HP.out _ (hr.later (by repeat (first | exact Below.refl _ _ | assumption | (refine below_drewN ?_ _) | (refine Below.drew ?_) | (refine Below.alloc ?_ (by first | omega | (simp; omega) | simp) _) | (refine Below.setCell ?_ (by first | omega | (simp; omega) | simp) _) | (refine below_trans ?_ (by assumption) (by first | omega | (simp; omega) | simp))))) (hL.later (by repeat (first | exact Below.refl _ _ | assumption | (refine below_drewN ?_ _) | (refine Below.drew ?_) | (refine Below.alloc ?_ (by first | omega | (simp; omega) | simp) _) | (refine Below.setCell ?_ (by first | omega | (simp; omega) | simp) _) | (refine below_trans ?_ (by assumption) (by first | omega | (simp; omega) | simp)))))).mono ?_
  rintro e w2 ⟨rfl, hb_w2⟩
  obtain ⟨hc_w2, hf_w2⟩ := bcell hb_w2; have hs_w2 := hb_w2.size; (try simp only [World.size_alloc, World.size_setCell, World.size_drew, World.heap_drewN] at hs_w2)
  go_wp2_with fail
  go_at_call 8
  refine (HP2.out _ (hL.later (by repeat (first | exact Below.refl _ _ | assumption | (refine below_drewN ?_ _) | (refine Below.drew ?_) | (refine Below.alloc ?_ (by first | omega | (simp; omega) | simp) _) | (refine Below.setCell ?_ (by first | omega | (simp; omega) | simp) _) | (refine below_trans ?_ (by assumption) (by first | omega | (simp; omega) | simp)))))).mono ?_
  rintro e w3 ⟨G, gc, rfl, oG, hb_w3⟩
  obtain ⟨hc_w3, hf_w3⟩ := bcell hb_w3; have hs_w3 := hb_w3.size; (try simp only [World.size_alloc, World.size_setCell, World.size_drew, World.heap_drewN] at hs_w3)
  have rG := Lib.hid (HRL.out _ _ _ _ oG)
  clear oG
  go_wp2_with fail
  go_at_call 11
  refine (HSM.out _ _ _ (hr.later (by repeat (first | exact Below.refl _ _ | assumption | (refine below_drewN ?_ _) | (refine Below.drew ?_) | (refine Below.alloc ?_ (by first | omega | (simp; omega) | simp) _) | (refine Below.setCell ?_ (by first | omega | (simp; omega) | simp) _) | (refine below_trans ?_ (by assumption) (by first | omega | (simp; omega) | simp))))) rG.out).mono ?_
  rintro e w4 ⟨rfl, hb_w4⟩
  obtain ⟨hc_w4, hf_w4⟩ := bcell hb_w4; have hs_w4 := hb_w4.size; (try simp only [World.size_alloc, World.size_setCell, World.size_drew, World.heap_drewN] at hs_w4)
  go_wp2_with fail
  go_at_call 8
  refine (HQ.out _ (hL.later (by repeat (first | exact Below.refl _ _ | assumption | (refine below_drewN ?_ _) | (refine Below.drew ?_) | (refine Below.alloc ?_ (by first | omega | (simp; omega) | simp) _) | (refine Below.setCell ?_ (by first | omega | (simp; omega) | simp) _) | (refine below_trans ?_ (by assumption) (by first | omega | (simp; omega) | simp)))))).mono ?_
  rintro e w5 ⟨Q, qc, rfl, hb_w5⟩
  obtain ⟨hc_w5, hf_w5⟩ := bcell hb_w5; have hs_w5 := hb_w5.size; (try simp only [World.size_alloc, World.size_setCell, World.size_drew, World.heap_drewN] at hs_w5)
  go_wp2
  go_ret
  exact ⟨rfl, (by repeat (first | exact Below.refl _ _ | assumption | (refine below_drewN ?_ _) | (refine Below.drew ?_) | (refine Below.alloc ?_ (by first | omega | (simp; omega) | simp) _) | (refine Below.setCell ?_ (by first | omega | (simp; omega) | simp) _) | (refine below_trans ?_ (by assumption) (by first | omega | (simp; omega) | simp))))⟩
set_option maxRecDepth 100000 in
set_option maxHeartbeats 8000000 in
theorem back_short_range (A : Option Addr) (cap : Nat) (l : List Ev) (text : ByteArray) (hL : Lw w) (hr : ERow w w.heap.size A l) (hl : l.length ≤ 17592186044416) (hok : OkL l) (hll : (printL l).length ≤ 65536) (hR : readT text.data.toList = ([], 0, 1)) :
    Calls Tryd.prog 5 #[.slice A l.length cap, .string text] w fun r w' => r = .returned (.bool true) ∧ Below w.heap.size w w' := by
  have HLV := Lib.hid fun (w : World) hL => lives_any (w := w) hL
  have HQ := Lib.hid fun (w : World) hL => parse_far (w := w) text hR hL
  have HP := Lib.hid fun (w : World) hr hL => print_ok (w := w) (A := A) (l := l) cap hok hr hl hL
  have d1 : decide (((bs (printL l)).size : Int) ≤ 65536) = true := decide_eq_true (by rw [bs_size]; omega)
  have d2 : decide ((bs (printL l)).size ≤ 65536) = true := decide_eq_true (by rw [bs_size]; omega)
  have HP2 := Lib.hid fun (w : World) hL => parse_ok (w := w) l (bs (printL l)) (by rw [bs_data]; exact readT_print hok (by omega)) hL
  have HRL := Lib.hid fun (W : World) (A : Option Addr) (cap B : Nat) (h : OwnsE W B (.slice A l.length cap) l) => ERow.of_owns h
  have HSM := Lib.hid fun (w : World) (G : Option Addr) (gc : Nat) hr hq => same_any (w := w) (A := A) (C := G) (l := l) (m := l) cap gc hr hq hl hl true (by simp)
  clear hok hll
  generalize bs (printL l) = PL at *
  go_enter Tryd.func5, Tryd.ntmps5
  go_wp2_with fail
  go_at_call 10
  refine (HLV.out _ (hL.later (by repeat (first | exact Below.refl _ _ | assumption | (refine below_drewN ?_ _) | (refine Below.drew ?_) | (refine Below.alloc ?_ (by first | omega | (simp; omega) | simp) _) | (refine Below.setCell ?_ (by first | omega | (simp; omega) | simp) _) | (refine below_trans ?_ (by assumption) (by first | omega | (simp; omega) | simp)))))).mono ?_
  rintro e w1 ⟨rfl, hb_w1⟩
  obtain ⟨hc_w1, hf_w1⟩ := bcell hb_w1; have hs_w1 := hb_w1.size; (try simp only [World.size_alloc, World.size_setCell, World.size_drew, World.heap_drewN] at hs_w1)
  go_wp2_with fail
  go_at_call 12
  refine (HP.out _ (hr.later (by repeat (first | exact Below.refl _ _ | assumption | (refine below_drewN ?_ _) | (refine Below.drew ?_) | (refine Below.alloc ?_ (by first | omega | (simp; omega) | simp) _) | (refine Below.setCell ?_ (by first | omega | (simp; omega) | simp) _) | (refine below_trans ?_ (by assumption) (by first | omega | (simp; omega) | simp))))) (hL.later (by repeat (first | exact Below.refl _ _ | assumption | (refine below_drewN ?_ _) | (refine Below.drew ?_) | (refine Below.alloc ?_ (by first | omega | (simp; omega) | simp) _) | (refine Below.setCell ?_ (by first | omega | (simp; omega) | simp) _) | (refine below_trans ?_ (by assumption) (by first | omega | (simp; omega) | simp)))))).mono ?_
  rintro e w2 ⟨rfl, hb_w2⟩
  obtain ⟨hc_w2, hf_w2⟩ := bcell hb_w2; have hs_w2 := hb_w2.size; (try simp only [World.size_alloc, World.size_setCell, World.size_drew, World.heap_drewN] at hs_w2)
  go_wp2_with fail
  go_at_call 8
  refine (HP2.out _ (hL.later (by repeat (first | exact Below.refl _ _ | assumption | (refine below_drewN ?_ _) | (refine Below.drew ?_) | (refine Below.alloc ?_ (by first | omega | (simp; omega) | simp) _) | (refine Below.setCell ?_ (by first | omega | (simp; omega) | simp) _) | (refine below_trans ?_ (by assumption) (by first | omega | (simp; omega) | simp)))))).mono ?_
  rintro e w3 ⟨G, gc, rfl, oG, hb_w3⟩
  obtain ⟨hc_w3, hf_w3⟩ := bcell hb_w3; have hs_w3 := hb_w3.size; (try simp only [World.size_alloc, World.size_setCell, World.size_drew, World.heap_drewN] at hs_w3)
  have rG := Lib.hid (HRL.out _ _ _ _ oG)
  clear oG
  go_wp2_with fail
  go_at_call 11
  refine (HSM.out _ _ _ (hr.later (by repeat (first | exact Below.refl _ _ | assumption | (refine below_drewN ?_ _) | (refine Below.drew ?_) | (refine Below.alloc ?_ (by first | omega | (simp; omega) | simp) _) | (refine Below.setCell ?_ (by first | omega | (simp; omega) | simp) _) | (refine below_trans ?_ (by assumption) (by first | omega | (simp; omega) | simp))))) rG.out).mono ?_
  rintro e w4 ⟨rfl, hb_w4⟩
  obtain ⟨hc_w4, hf_w4⟩ := bcell hb_w4; have hs_w4 := hb_w4.size; (try simp only [World.size_alloc, World.size_setCell, World.size_drew, World.heap_drewN] at hs_w4)
  go_wp2_with fail
  go_at_call 8
  refine (HQ.out _ (hL.later (by repeat (first | exact Below.refl _ _ | assumption | (refine below_drewN ?_ _) | (refine Below.drew ?_) | (refine Below.alloc ?_ (by first | omega | (simp; omega) | simp) _) | (refine Below.setCell ?_ (by first | omega | (simp; omega) | simp) _) | (refine below_trans ?_ (by assumption) (by first | omega | (simp; omega) | simp)))))).mono ?_
  rintro e w5 ⟨Q, qc, rfl, hb_w5⟩
  obtain ⟨hc_w5, hf_w5⟩ := bcell hb_w5; have hs_w5 := hb_w5.size; (try simp only [World.size_alloc, World.size_setCell, World.size_drew, World.heap_drewN] at hs_w5)
  go_wp2
  go_ret
  exact ⟨rfl, (by repeat (first | exact Below.refl _ _ | assumption | (refine below_drewN ?_ _) | (refine Below.drew ?_) | (refine Below.alloc ?_ (by first | omega | (simp; omega) | simp) _) | (refine Below.setCell ?_ (by first | omega | (simp; omega) | simp) _) | (refine below_trans ?_ (by assumption) (by first | omega | (simp; omega) | simp))))⟩
theorem scriptBack_walk (A : Option Addr) (cap : Nat) (l : List Ev) (text : ByteArray) (hL : Lw w) (hr : ERow w w.heap.size A l) (hl : l.length ≤ 17592186044416) :
    Calls Tryd.prog 5 #[.slice A l.length cap, .string text] w fun r w' => r = .returned (.bool true) ∧ Below w.heap.size w w' := by
  by_cases hok : OkL l
  · by_cases hll : (printL l).length ≤ 65536
    · rcases readT_ok text.data.toList with ⟨m, hR, hm⟩ | ⟨k, hR⟩ | ⟨k, hR⟩ | hR
      · by_cases hlm : (printL m).length ≤ 65536
        · exact back_short_ok A cap l text hL hr hl hok hll m hR hm hlm
        · exact back_short_long A cap l text hL hr hl hok hll m hR hm (by omega)
      · exact back_short_form A cap l text hL hr hl hok hll k hR
      · exact back_short_full A cap l text hL hr hl hok hll k hR
      · exact back_short_range A cap l text hL hr hl hok hll hR
    · have hll : 65536 < (printL l).length := by omega
      rcases readT_ok text.data.toList with ⟨m, hR, hm⟩ | ⟨k, hR⟩ | ⟨k, hR⟩ | hR
      · by_cases hlm : (printL m).length ≤ 65536
        · exact back_long_ok A cap l text hL hr hl hok hll m hR hm hlm
        · exact back_long_long A cap l text hL hr hl hok hll m hR hm (by omega)
      · exact back_long_form A cap l text hL hr hl hok hll k hR
      · exact back_long_full A cap l text hL hr hl hok hll k hR
      · exact back_long_range A cap l text hL hr hl hok hll hR
  · rcases readT_ok text.data.toList with ⟨m, hR, hm⟩ | ⟨k, hR⟩ | ⟨k, hR⟩ | hR
    · by_cases hlm : (printL m).length ≤ 65536
      · exact back_no_ok A cap l text hL hr hl hok m hR hm hlm
      · exact back_no_long A cap l text hL hr hl hok m hR hm (by omega)
    · exact back_no_form A cap l text hL hr hl hok k hR
    · exact back_no_full A cap l text hL hr hl hok k hR
    · exact back_no_range A cap l text hL hr hl hok hR
end
end Go.Proofs.YtklbamkafldagaaDoor
