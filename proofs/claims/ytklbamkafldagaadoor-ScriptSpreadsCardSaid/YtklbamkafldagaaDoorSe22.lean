/- The walks of ScriptFolds, ScriptSpreads. -/
import Derived.Test.YtklbamkafldagaaDoorSe21
namespace Go.Proofs.YtklbamkafldagaaDoor
open Go.RowKit
set_option linter.unusedVariables false
set_option linter.unusedSimpArgs false
section
variable {w : World}
set_option maxRecDepth 100000 in
set_option maxHeartbeats 8000000 in
theorem scriptFolds_walk (A : Option Addr) (cap : Nat) (l : List Ev) (e : Ev) (hL : Lw w) (hr : ERow w w.heap.size A l) (hl : l.length ≤ 17592186044416) (hwe : WfE e) :
    Calls Tryd.prog 6 #[.slice A l.length cap, evv e] w fun r w' => r = .returned (.bool true) ∧ Below w.heap.size w w' := by
  have HLV := Lib.hid fun (w : World) hL => lives_any (w := w) hL
  by_cases hok : OkL l
  · have HF1 := Lib.hid fun (w : World) hr => scriptFold_any (w := w) (A := A) (l := l) cap hr hl (foldL l) 0 (.inl ⟨hok, rfl, rfl⟩)
    have hokf := okL_foldL hok
    have hfl : (foldL l).length ≤ 17592186044416 := Nat.le_trans (length_foldL l) hl
    have hle := length_foldL l
    have HF2 := Lib.hid fun (w : World) (F : Option Addr) (fc : Nat) hr => scriptFold_any (w := w) (A := F) (l := foldL l) fc hr hfl (foldL l) 0 (.inl ⟨hokf, (foldL_twice hok.2).symm, rfl⟩)
    have HS1 := Lib.hid fun (w : World) hr => steps_any (w := w) (A := A) (C := none) (l := l) (of := []) cap 0 hr (ERow.nil _ _ _) hl (by simp) (fun e he => by simp at he) (stepsL l) 0 (.inl ⟨hok, (stepsO_all l).symm, rfl⟩)
    have HS2 := Lib.hid fun (w : World) (F : Option Addr) (fc : Nat) hr => steps_any (w := w) (A := F) (C := none) (l := foldL l) (of := []) fc 0 hr (ERow.nil _ _ _) hfl (by simp) (fun e he => by simp at he) (stepsL l) 0 (.inl ⟨hokf, by rw [stepsO_all, stepsL_foldL], rfl⟩)
    have HS3 := Lib.hid fun (w : World) (C : Option Addr) hr hc => steps_any (w := w) (A := A) (C := C) (l := l) (of := [e]) cap 1 hr hc hl (by simp) (fun x hx => by rw [List.mem_singleton] at hx; subst hx; exact hwe) (stepsO l [e]) 0 (.inl ⟨hok, rfl, rfl⟩)
    have HS4 := Lib.hid fun (w : World) (F C : Option Addr) (fc : Nat) hr hc => steps_any (w := w) (A := F) (C := C) (l := foldL l) (of := [e]) fc 1 hr hc hfl (by simp) (fun x hx => by rw [List.mem_singleton] at hx; subst hx; exact hwe) (stepsO l [e]) 0 (.inl ⟨hokf, (stepsO_foldL l [e]).symm, rfl⟩)
    have HSM := Lib.hid fun (w : World) (F G : Option Addr) (fc gc : Nat) hr hq => same_any (w := w) (A := F) (C := G) (l := foldL l) (m := foldL l) fc gc hr hq hfl hfl true (by simp)
    have HCK := Lib.hid fun (w : World) (F : Option Addr) (fc : Nat) hr => check_any (w := w) (A := F) (l := foldL l) fc hr hfl 0 (.inl ⟨hokf, rfl⟩)
    have HRO := Lib.hid fun (W : World) (A : Option Addr) (cap B : Nat) (h : OwnsE W B (.slice A (foldL l).length cap) (foldL l)) => ERow.of_owns h
    simp only [List.length_nil, List.length_singleton] at HS1 HS2 HS3 HS4
    have d1 : decide (((foldL l).length : Int) ≤ (l.length : Int)) = true := decide_eq_true (by omega)
    have d2 : decide ((foldL l).length ≤ l.length) = true := decide_eq_true hle
    clear hok hokf hfl hle hwe
    generalize foldL l = f at *
    generalize stepsL l = S at *
    generalize stepsO l [e] = SO at *
    obtain ⟨ea, eb, ec, ed, en⟩ := e
    have HR1 := Lib.hid fun (W : World) => row_one W ⟨ea, eb, ec, ed, en⟩ 41
    simp only at HR1
    unfold evv
    simp only
    go_enter Tryd.func6, Tryd.ntmps6
    go_wp2_with fail
    go_at_call 10
    refine (HLV.out _ (hL.later (by repeat (first | exact Below.refl _ _ | assumption | (refine below_drewN ?_ _) | (refine Below.drew ?_) | (refine Below.alloc ?_ (by first | omega | (simp; omega) | simp) _) | (refine Below.setCell ?_ (by first | omega | (simp; omega) | simp) _) | (refine below_trans ?_ (by assumption) (by first | omega | (simp; omega) | simp)))))).mono ?_
    rintro e w1 ⟨rfl, hb_w1⟩
    obtain ⟨hc_w1, hf_w1⟩ := bcell hb_w1; have hz_w1_w_0 : w.heap.size < w1.heap.size := (by have hzz := hb_w1.size; (try simp only [World.size_alloc, World.size_setCell, World.size_drew, World.heap_drewN] at hzz); omega); have hs_w1 := hb_w1.size; (try simp only [World.size_alloc, World.size_setCell, World.size_drew, World.heap_drewN] at hs_w1)
    have E1 := Lib.hid ((Ev5.new w ⟨ea, eb, ec, ed, en⟩ 41).later hb_w1)
    go_wp2_with fail
    go_at_call 14
    refine (HF1.out _ (hr.later (by repeat (first | exact Below.refl _ _ | assumption | (refine below_drewN ?_ _) | (refine Below.drew ?_) | (refine Below.alloc ?_ (by first | omega | (simp; omega) | simp) _) | (refine Below.setCell ?_ (by first | omega | (simp; omega) | simp) _) | (refine below_trans ?_ (by assumption) (by first | omega | (simp; omega) | simp)))))).mono ?_
    rintro e w2 ⟨F, fc, rfl, oF, hb_w2⟩
    obtain ⟨hc_w2, hf_w2⟩ := bcell hb_w2; have hs_w2 := hb_w2.size; (try simp only [World.size_alloc, World.size_setCell, World.size_drew, World.heap_drewN] at hs_w2)
    have rF := Lib.hid (HRO.out _ _ _ _ oF)
    clear oF
    go_wp2_with fail
    go_at_call 14
    refine (HF2.out _ _ _ rF.out).mono ?_
    rintro e w3 ⟨G, gc, rfl, oG, hb_w3⟩
    obtain ⟨hc_w3, hf_w3⟩ := bcell hb_w3; have hs_w3 := hb_w3.size; (try simp only [World.size_alloc, World.size_setCell, World.size_drew, World.heap_drewN] at hs_w3)
    have rG := Lib.hid (HRO.out _ _ _ _ oG)
    clear oG
    go_wp2_with fail
    go_at_call 18
    refine (HS1.out _ (hr.later (by repeat (first | exact Below.refl _ _ | assumption | (refine below_drewN ?_ _) | (refine Below.drew ?_) | (refine Below.alloc ?_ (by first | omega | (simp; omega) | simp) _) | (refine Below.setCell ?_ (by first | omega | (simp; omega) | simp) _) | (refine below_trans ?_ (by assumption) (by first | omega | (simp; omega) | simp)))))).mono ?_
    rintro e w4 ⟨rfl, hb_w4⟩
    obtain ⟨hc_w4, hf_w4⟩ := bcell hb_w4; have hs_w4 := hb_w4.size; (try simp only [World.size_alloc, World.size_setCell, World.size_drew, World.heap_drewN] at hs_w4)
    go_wp2_with fail
    go_at_call 18
    refine (HS2.out _ _ _ (rF.out.later (by repeat (first | exact Below.refl _ _ | assumption | (refine below_drewN ?_ _) | (refine Below.drew ?_) | (refine Below.alloc ?_ (by first | omega | (simp; omega) | simp) _) | (refine Below.setCell ?_ (by first | omega | (simp; omega) | simp) _) | (refine below_trans ?_ (by assumption) (by first | omega | (simp; omega) | simp)))))).mono ?_
    rintro e w5 ⟨rfl, hb_w5⟩
    obtain ⟨hc_w5, hf_w5⟩ := bcell hb_w5; have hs_w5 := hb_w5.size; (try simp only [World.size_alloc, World.size_setCell, World.size_drew, World.heap_drewN] at hs_w5)
    obtain ⟨q0, q1, q2, q3, q4⟩ := E1.out.later (show Below w1.heap.size w1 w5 from (by repeat (first | exact Below.refl _ _ | assumption | (refine below_drewN ?_ _) | (refine Below.drew ?_) | (refine Below.alloc ?_ (by first | omega | (simp; omega) | simp) _) | (refine Below.setCell ?_ (by first | omega | (simp; omega) | simp) _) | (refine below_trans ?_ (by assumption) (by first | omega | (simp; omega) | simp)))))
    simp only [Nat.zero_add] at q0 q1 q2 q3 q4
    go_wp2_with fail
    go_at_call 18
    refine (HS3.out _ _ (hr.later (by repeat (first | exact Below.refl _ _ | assumption | (refine below_drewN ?_ _) | (refine Below.drew ?_) | (refine Below.alloc ?_ (by first | omega | (simp; omega) | simp) _) | (refine Below.setCell ?_ (by first | omega | (simp; omega) | simp) _) | (refine below_trans ?_ (by assumption) (by first | omega | (simp; omega) | simp))))) (HR1.out w5)).mono ?_
    rintro e w6 ⟨rfl, hb_w6⟩
    obtain ⟨hc_w6, hf_w6⟩ := bcell hb_w6; have hz_w6_w5_0 : w5.heap.size < w6.heap.size := (by have hzz := hb_w6.size; (try simp only [World.size_alloc, World.size_setCell, World.size_drew, World.heap_drewN] at hzz); omega); have hs_w6 := hb_w6.size; (try simp only [World.size_alloc, World.size_setCell, World.size_drew, World.heap_drewN] at hs_w6)
    clear q0 q1 q2 q3 q4
    obtain ⟨q0, q1, q2, q3, q4⟩ := E1.out.later (show Below w1.heap.size w1 w6 from (by repeat (first | exact Below.refl _ _ | assumption | (refine below_drewN ?_ _) | (refine Below.drew ?_) | (refine Below.alloc ?_ (by first | omega | (simp; omega) | simp) _) | (refine Below.setCell ?_ (by first | omega | (simp; omega) | simp) _) | (refine below_trans ?_ (by assumption) (by first | omega | (simp; omega) | simp)))))
    simp only [Nat.zero_add] at q0 q1 q2 q3 q4
    go_wp2_with fail
    go_at_call 18
    refine (HS4.out _ _ _ _ (rF.out.later (by repeat (first | exact Below.refl _ _ | assumption | (refine below_drewN ?_ _) | (refine Below.drew ?_) | (refine Below.alloc ?_ (by first | omega | (simp; omega) | simp) _) | (refine Below.setCell ?_ (by first | omega | (simp; omega) | simp) _) | (refine below_trans ?_ (by assumption) (by first | omega | (simp; omega) | simp))))) (HR1.out w6)).mono ?_
    rintro e w7 ⟨rfl, hb_w7⟩
    obtain ⟨hc_w7, hf_w7⟩ := bcell hb_w7; have hz_w7_w6_0 : w6.heap.size < w7.heap.size := (by have hzz := hb_w7.size; (try simp only [World.size_alloc, World.size_setCell, World.size_drew, World.heap_drewN] at hzz); omega); have hs_w7 := hb_w7.size; (try simp only [World.size_alloc, World.size_setCell, World.size_drew, World.heap_drewN] at hs_w7)
    go_wp2_with fail
    go_at_call 11
    refine (HSM.out _ _ _ _ _ (rF.out.later (by repeat (first | exact Below.refl _ _ | assumption | (refine below_drewN ?_ _) | (refine Below.drew ?_) | (refine Below.alloc ?_ (by first | omega | (simp; omega) | simp) _) | (refine Below.setCell ?_ (by first | omega | (simp; omega) | simp) _) | (refine below_trans ?_ (by assumption) (by first | omega | (simp; omega) | simp))))) (rG.out.later (by repeat (first | exact Below.refl _ _ | assumption | (refine below_drewN ?_ _) | (refine Below.drew ?_) | (refine Below.alloc ?_ (by first | omega | (simp; omega) | simp) _) | (refine Below.setCell ?_ (by first | omega | (simp; omega) | simp) _) | (refine below_trans ?_ (by assumption) (by first | omega | (simp; omega) | simp)))))).mono ?_
    rintro e w8 ⟨rfl, hb_w8⟩
    obtain ⟨hc_w8, hf_w8⟩ := bcell hb_w8; have hs_w8 := hb_w8.size; (try simp only [World.size_alloc, World.size_setCell, World.size_drew, World.heap_drewN] at hs_w8)
    go_wp2_with fail
    go_at_call 20
    refine (HCK.out _ _ _ (rF.out.later (by repeat (first | exact Below.refl _ _ | assumption | (refine below_drewN ?_ _) | (refine Below.drew ?_) | (refine Below.alloc ?_ (by first | omega | (simp; omega) | simp) _) | (refine Below.setCell ?_ (by first | omega | (simp; omega) | simp) _) | (refine below_trans ?_ (by assumption) (by first | omega | (simp; omega) | simp)))))).mono ?_
    rintro e w9 ⟨rfl, hb_w9⟩
    obtain ⟨hc_w9, hf_w9⟩ := bcell hb_w9; have hs_w9 := hb_w9.size; (try simp only [World.size_alloc, World.size_setCell, World.size_drew, World.heap_drewN] at hs_w9)
    go_wp2
    go_ret
    exact ⟨rfl, (by repeat (first | exact Below.refl _ _ | assumption | (refine below_drewN ?_ _) | (refine Below.drew ?_) | (refine Below.alloc ?_ (by first | omega | (simp; omega) | simp) _) | (refine Below.setCell ?_ (by first | omega | (simp; omega) | simp) _) | (refine below_trans ?_ (by assumption) (by first | omega | (simp; omega) | simp))))⟩
  · have HF1 := Lib.hid fun (w : World) hr => scriptFold_any (w := w) (A := A) (l := l) cap hr hl [] 2 (.inr ⟨hok, rfl, rfl⟩)
    clear hok
    obtain ⟨ea, eb, ec, ed, en⟩ := e
    unfold evv
    simp only
    go_enter Tryd.func6, Tryd.ntmps6
    go_wp2_with fail
    go_at_call 10
    refine (HLV.out _ (hL.later (by repeat (first | exact Below.refl _ _ | assumption | (refine below_drewN ?_ _) | (refine Below.drew ?_) | (refine Below.alloc ?_ (by first | omega | (simp; omega) | simp) _) | (refine Below.setCell ?_ (by first | omega | (simp; omega) | simp) _) | (refine below_trans ?_ (by assumption) (by first | omega | (simp; omega) | simp)))))).mono ?_
    rintro e w1 ⟨rfl, hb_w1⟩
    obtain ⟨hc_w1, hf_w1⟩ := bcell hb_w1; have hz_w1_w_0 : w.heap.size < w1.heap.size := (by have hzz := hb_w1.size; (try simp only [World.size_alloc, World.size_setCell, World.size_drew, World.heap_drewN] at hzz); omega); have hs_w1 := hb_w1.size; (try simp only [World.size_alloc, World.size_setCell, World.size_drew, World.heap_drewN] at hs_w1)
    go_wp2_with fail
    go_at_call 14
    refine (HF1.out _ (hr.later (by repeat (first | exact Below.refl _ _ | assumption | (refine below_drewN ?_ _) | (refine Below.drew ?_) | (refine Below.alloc ?_ (by first | omega | (simp; omega) | simp) _) | (refine Below.setCell ?_ (by first | omega | (simp; omega) | simp) _) | (refine below_trans ?_ (by assumption) (by first | omega | (simp; omega) | simp)))))).mono ?_
    rintro e w2 ⟨F, fc, rfl, oF, hb_w2⟩
    obtain ⟨hc_w2, hf_w2⟩ := bcell hb_w2; have hs_w2 := hb_w2.size; (try simp only [World.size_alloc, World.size_setCell, World.size_drew, World.heap_drewN] at hs_w2)
    clear oF
    go_wp2
    go_ret
    exact ⟨rfl, (by repeat (first | exact Below.refl _ _ | assumption | (refine below_drewN ?_ _) | (refine Below.drew ?_) | (refine Below.alloc ?_ (by first | omega | (simp; omega) | simp) _) | (refine Below.setCell ?_ (by first | omega | (simp; omega) | simp) _) | (refine below_trans ?_ (by assumption) (by first | omega | (simp; omega) | simp))))⟩
set_option maxRecDepth 100000 in
set_option maxHeartbeats 8000000 in
theorem scriptSpreads_walk (A : Option Addr) (cap : Nat) (l : List Ev) (hL : Lw w) (hr : ERow w w.heap.size A l) (hl : l.length ≤ 17592186044416) :
    Calls Tryd.prog 7 #[.slice A l.length cap] w fun r w' => r = .returned (.bool true) ∧ Below w.heap.size w w' := by
  have HLV := Lib.hid fun (w : World) hL => lives_any (w := w) hL
  by_cases hok : OkL l
  · have HS1 := Lib.hid fun (w : World) hr => steps_any (w := w) (A := A) (C := none) (l := l) (of := []) cap 0 hr (ERow.nil _ _ _) hl (by simp) (fun e he => by simp at he) (stepsL l) 0 (.inl ⟨hok, (stepsO_all l).symm, rfl⟩)
    simp only [List.length_nil] at HS1
    by_cases hst : stepsL l ≤ 4096
    · have HSP := Lib.hid fun (w : World) hr => spread_any (w := w) (A := A) (l := l) cap hr hl (spreadL l) 0 (.inl ⟨hok, hst, rfl, rfl⟩)
      have hln : ((spreadL l).length : Int) = stepsL l := length_spread hok.2
      have hoks : OkL (spreadL l) := ⟨by omega, okA_spread hok.2⟩
      have hsl : (spreadL l).length ≤ 17592186044416 := by omega
      have hfl : (foldL l).length ≤ 17592186044416 := Nat.le_trans (length_foldL l) hl
      have HF1 := Lib.hid fun (w : World) hr => scriptFold_any (w := w) (A := A) (l := l) cap hr hl (foldL l) 0 (.inl ⟨hok, rfl, rfl⟩)
      have HF2 := Lib.hid fun (w : World) (F : Option Addr) (fc : Nat) hr => scriptFold_any (w := w) (A := F) (l := spreadL l) fc hr hsl (foldL l) 0 (.inl ⟨hoks, (foldL_spread hok.2).symm, rfl⟩)
      have HSM := Lib.hid fun (w : World) (F G : Option Addr) (fc gc : Nat) hr hq => same_any (w := w) (A := F) (C := G) (l := foldL l) (m := foldL l) fc gc hr hq hfl hfl true (by simp)
      have HRO := Lib.hid fun (W : World) (A : Option Addr) (cap B : Nat) (h : OwnsE W B (.slice A (foldL l).length cap) (foldL l)) => ERow.of_owns h
      have HRS := Lib.hid fun (W : World) (A : Option Addr) (cap B : Nat) (h : OwnsE W B (.slice A (spreadL l).length cap) (spreadL l)) => ERow.of_owns h
      have e1 : (((spreadL l).length : Int) == stepsL l) = true := by rw [beq_iff_eq]; exact hln
      clear hok hst hln hoks hsl hfl
      generalize foldL l = f at *
      generalize spreadL l = sp at *
      generalize stepsL l = S at *
      go_enter Tryd.func7, Tryd.ntmps7
      go_wp2_with fail
      go_at_call 10
      refine (HLV.out _ (hL.later (by repeat (first | exact Below.refl _ _ | assumption | (refine below_drewN ?_ _) | (refine Below.drew ?_) | (refine Below.alloc ?_ (by first | omega | (simp; omega) | simp) _) | (refine Below.setCell ?_ (by first | omega | (simp; omega) | simp) _) | (refine below_trans ?_ (by assumption) (by first | omega | (simp; omega) | simp)))))).mono ?_
      rintro e w1 ⟨rfl, hb_w1⟩
      obtain ⟨hc_w1, hf_w1⟩ := bcell hb_w1; have hs_w1 := hb_w1.size; (try simp only [World.size_alloc, World.size_setCell, World.size_drew, World.heap_drewN] at hs_w1)
      go_wp2_with fail
      go_at_call 16
      refine (HSP.out _ (hr.later (by repeat (first | exact Below.refl _ _ | assumption | (refine below_drewN ?_ _) | (refine Below.drew ?_) | (refine Below.alloc ?_ (by first | omega | (simp; omega) | simp) _) | (refine Below.setCell ?_ (by first | omega | (simp; omega) | simp) _) | (refine below_trans ?_ (by assumption) (by first | omega | (simp; omega) | simp)))))).mono ?_
      rintro e w2 ⟨F, fc, rfl, oF, hb_w2⟩
      obtain ⟨hc_w2, hf_w2⟩ := bcell hb_w2; have hs_w2 := hb_w2.size; (try simp only [World.size_alloc, World.size_setCell, World.size_drew, World.heap_drewN] at hs_w2)
      have rF := Lib.hid (HRS.out _ _ _ _ oF)
      clear oF
      go_wp2_with fail
      go_at_call 18
      refine (HS1.out _ (hr.later (by repeat (first | exact Below.refl _ _ | assumption | (refine below_drewN ?_ _) | (refine Below.drew ?_) | (refine Below.alloc ?_ (by first | omega | (simp; omega) | simp) _) | (refine Below.setCell ?_ (by first | omega | (simp; omega) | simp) _) | (refine below_trans ?_ (by assumption) (by first | omega | (simp; omega) | simp)))))).mono ?_
      rintro e w3 ⟨rfl, hb_w3⟩
      obtain ⟨hc_w3, hf_w3⟩ := bcell hb_w3; have hs_w3 := hb_w3.size; (try simp only [World.size_alloc, World.size_setCell, World.size_drew, World.heap_drewN] at hs_w3)
      go_wp2_with fail
      go_at_call 14
      refine (HF1.out _ (hr.later (by repeat (first | exact Below.refl _ _ | assumption | (refine below_drewN ?_ _) | (refine Below.drew ?_) | (refine Below.alloc ?_ (by first | omega | (simp; omega) | simp) _) | (refine Below.setCell ?_ (by first | omega | (simp; omega) | simp) _) | (refine below_trans ?_ (by assumption) (by first | omega | (simp; omega) | simp)))))).mono ?_
      rintro e w4 ⟨G, gc, rfl, oG, hb_w4⟩
      obtain ⟨hc_w4, hf_w4⟩ := bcell hb_w4; have hs_w4 := hb_w4.size; (try simp only [World.size_alloc, World.size_setCell, World.size_drew, World.heap_drewN] at hs_w4)
      have rG := Lib.hid (HRO.out _ _ _ _ oG)
      clear oG
      go_wp2_with fail
      go_at_call 14
      refine (HF2.out _ _ _ (rF.out.later (by repeat (first | exact Below.refl _ _ | assumption | (refine below_drewN ?_ _) | (refine Below.drew ?_) | (refine Below.alloc ?_ (by first | omega | (simp; omega) | simp) _) | (refine Below.setCell ?_ (by first | omega | (simp; omega) | simp) _) | (refine below_trans ?_ (by assumption) (by first | omega | (simp; omega) | simp)))))).mono ?_
      rintro e w5 ⟨H, hc, rfl, oH, hb_w5⟩
      obtain ⟨hc_w5, hf_w5⟩ := bcell hb_w5; have hs_w5 := hb_w5.size; (try simp only [World.size_alloc, World.size_setCell, World.size_drew, World.heap_drewN] at hs_w5)
      have rH := Lib.hid (HRO.out _ _ _ _ oH)
      clear oH
      go_wp2_with fail
      go_at_call 11
      refine (HSM.out _ _ _ _ _ (rG.out.later (by repeat (first | exact Below.refl _ _ | assumption | (refine below_drewN ?_ _) | (refine Below.drew ?_) | (refine Below.alloc ?_ (by first | omega | (simp; omega) | simp) _) | (refine Below.setCell ?_ (by first | omega | (simp; omega) | simp) _) | (refine below_trans ?_ (by assumption) (by first | omega | (simp; omega) | simp))))) rH.out).mono ?_
      rintro e w6 ⟨rfl, hb_w6⟩
      obtain ⟨hc_w6, hf_w6⟩ := bcell hb_w6; have hs_w6 := hb_w6.size; (try simp only [World.size_alloc, World.size_setCell, World.size_drew, World.heap_drewN] at hs_w6)
      go_wp2
      go_ret
      exact ⟨rfl, (by repeat (first | exact Below.refl _ _ | assumption | (refine below_drewN ?_ _) | (refine Below.drew ?_) | (refine Below.alloc ?_ (by first | omega | (simp; omega) | simp) _) | (refine Below.setCell ?_ (by first | omega | (simp; omega) | simp) _) | (refine below_trans ?_ (by assumption) (by first | omega | (simp; omega) | simp))))⟩
    · have HSP := Lib.hid fun (w : World) hr => spread_any (w := w) (A := A) (l := l) cap hr hl [] 6 (.inr (.inl ⟨hok, by omega, rfl, rfl⟩))
      have d1 : decide (4096 < stepsL l) = true := decide_eq_true (by omega)
      clear hok hst
      generalize stepsL l = S at *
      go_enter Tryd.func7, Tryd.ntmps7
      go_wp2_with fail
      go_at_call 10
      refine (HLV.out _ (hL.later (by repeat (first | exact Below.refl _ _ | assumption | (refine below_drewN ?_ _) | (refine Below.drew ?_) | (refine Below.alloc ?_ (by first | omega | (simp; omega) | simp) _) | (refine Below.setCell ?_ (by first | omega | (simp; omega) | simp) _) | (refine below_trans ?_ (by assumption) (by first | omega | (simp; omega) | simp)))))).mono ?_
      rintro e w1 ⟨rfl, hb_w1⟩
      obtain ⟨hc_w1, hf_w1⟩ := bcell hb_w1; have hs_w1 := hb_w1.size; (try simp only [World.size_alloc, World.size_setCell, World.size_drew, World.heap_drewN] at hs_w1)
      go_wp2_with fail
      go_at_call 16
      refine (HSP.out _ (hr.later (by repeat (first | exact Below.refl _ _ | assumption | (refine below_drewN ?_ _) | (refine Below.drew ?_) | (refine Below.alloc ?_ (by first | omega | (simp; omega) | simp) _) | (refine Below.setCell ?_ (by first | omega | (simp; omega) | simp) _) | (refine below_trans ?_ (by assumption) (by first | omega | (simp; omega) | simp)))))).mono ?_
      rintro e w2 ⟨F, fc, rfl, oF, hb_w2⟩
      obtain ⟨hc_w2, hf_w2⟩ := bcell hb_w2; have hs_w2 := hb_w2.size; (try simp only [World.size_alloc, World.size_setCell, World.size_drew, World.heap_drewN] at hs_w2)
      clear oF
      go_wp2_with fail
      go_at_call 18
      refine (HS1.out _ (hr.later (by repeat (first | exact Below.refl _ _ | assumption | (refine below_drewN ?_ _) | (refine Below.drew ?_) | (refine Below.alloc ?_ (by first | omega | (simp; omega) | simp) _) | (refine Below.setCell ?_ (by first | omega | (simp; omega) | simp) _) | (refine below_trans ?_ (by assumption) (by first | omega | (simp; omega) | simp)))))).mono ?_
      rintro e w3 ⟨rfl, hb_w3⟩
      obtain ⟨hc_w3, hf_w3⟩ := bcell hb_w3; have hs_w3 := hb_w3.size; (try simp only [World.size_alloc, World.size_setCell, World.size_drew, World.heap_drewN] at hs_w3)
      go_wp2
      go_ret
      exact ⟨rfl, (by repeat (first | exact Below.refl _ _ | assumption | (refine below_drewN ?_ _) | (refine Below.drew ?_) | (refine Below.alloc ?_ (by first | omega | (simp; omega) | simp) _) | (refine Below.setCell ?_ (by first | omega | (simp; omega) | simp) _) | (refine below_trans ?_ (by assumption) (by first | omega | (simp; omega) | simp))))⟩
  · have HSP := Lib.hid fun (w : World) hr => spread_any (w := w) (A := A) (l := l) cap hr hl [] 2 (.inr (.inr ⟨hok, rfl, rfl⟩))
    have HS1 := Lib.hid fun (w : World) hr => steps_any (w := w) (A := A) (C := none) (l := l) (of := []) cap 0 hr (ERow.nil _ _ _) hl (by simp) (fun e he => by simp at he) 0 2 (.inr ⟨hok, rfl, rfl⟩)
    simp only [List.length_nil] at HS1
    clear hok
    go_enter Tryd.func7, Tryd.ntmps7
    go_wp2_with fail
    go_at_call 10
    refine (HLV.out _ (hL.later (by repeat (first | exact Below.refl _ _ | assumption | (refine below_drewN ?_ _) | (refine Below.drew ?_) | (refine Below.alloc ?_ (by first | omega | (simp; omega) | simp) _) | (refine Below.setCell ?_ (by first | omega | (simp; omega) | simp) _) | (refine below_trans ?_ (by assumption) (by first | omega | (simp; omega) | simp)))))).mono ?_
    rintro e w1 ⟨rfl, hb_w1⟩
    obtain ⟨hc_w1, hf_w1⟩ := bcell hb_w1; have hs_w1 := hb_w1.size; (try simp only [World.size_alloc, World.size_setCell, World.size_drew, World.heap_drewN] at hs_w1)
    go_wp2_with fail
    go_at_call 16
    refine (HSP.out _ (hr.later (by repeat (first | exact Below.refl _ _ | assumption | (refine below_drewN ?_ _) | (refine Below.drew ?_) | (refine Below.alloc ?_ (by first | omega | (simp; omega) | simp) _) | (refine Below.setCell ?_ (by first | omega | (simp; omega) | simp) _) | (refine below_trans ?_ (by assumption) (by first | omega | (simp; omega) | simp)))))).mono ?_
    rintro e w2 ⟨F, fc, rfl, oF, hb_w2⟩
    obtain ⟨hc_w2, hf_w2⟩ := bcell hb_w2; have hs_w2 := hb_w2.size; (try simp only [World.size_alloc, World.size_setCell, World.size_drew, World.heap_drewN] at hs_w2)
    clear oF
    go_wp2_with fail
    go_at_call 18
    refine (HS1.out _ (hr.later (by repeat (first | exact Below.refl _ _ | assumption | (refine below_drewN ?_ _) | (refine Below.drew ?_) | (refine Below.alloc ?_ (by first | omega | (simp; omega) | simp) _) | (refine Below.setCell ?_ (by first | omega | (simp; omega) | simp) _) | (refine below_trans ?_ (by assumption) (by first | omega | (simp; omega) | simp)))))).mono ?_
    rintro e w3 ⟨rfl, hb_w3⟩
    obtain ⟨hc_w3, hf_w3⟩ := bcell hb_w3; have hs_w3 := hb_w3.size; (try simp only [World.size_alloc, World.size_setCell, World.size_drew, World.heap_drewN] at hs_w3)
    go_wp2
    go_ret
    exact ⟨rfl, (by repeat (first | exact Below.refl _ _ | assumption | (refine below_drewN ?_ _) | (refine Below.drew ?_) | (refine Below.alloc ?_ (by first | omega | (simp; omega) | simp) _) | (refine Below.setCell ?_ (by first | omega | (simp; omega) | simp) _) | (refine below_trans ?_ (by assumption) (by first | omega | (simp; omega) | simp))))⟩
end
end Go.Proofs.YtklbamkafldagaaDoor
