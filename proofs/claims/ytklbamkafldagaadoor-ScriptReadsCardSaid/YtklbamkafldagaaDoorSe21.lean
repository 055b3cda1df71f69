/- The answers that script's laws ask for first: lives. -/
import Derived.Test.YtklbamkafldagaaDoorSe20
namespace Go.Proofs.YtklbamkafldagaaDoor
open Go.RowKit
set_option linter.unusedVariables false
set_option linter.unusedSimpArgs false

def lvS1 : List UInt8 := [116, 48, 32, 42, 32, 50, 10, 116, 48, 10, 10, 115, 99, 97, 110, 32, 49, 10]
def lvS2 : List UInt8 := [114, 117, 110, 10, 114, 117, 110, 32, 42, 32, 49]
def lvL : List Ev := [⟨true, 0, 0, 0, 2⟩, thr 0, tk 2 1]
def lvF : List Ev := [⟨true, 0, 0, 0, 3⟩, tk 2 1]
def lvP : List UInt8 := [116, 48, 32, 42, 32, 51, 10, 115, 99, 97, 110, 32, 49, 10]
theorem lv_read1 : readT lvS1 = (lvL, 0, 0) := by decide +kernel
theorem lv_read2 : readT lvS2 = ([], 2, 2) := by decide +kernel
theorem lv_fold : foldL lvL = lvF := by decide +kernel
theorem lv_print : printL lvF = lvP := by decide +kernel
theorem lv_okL : OkL lvL := ⟨by decide, by decide +kernel⟩
theorem lv_okF : OkL lvF := ⟨by decide, by decide +kernel⟩
theorem lv_steps : stepsL lvL = 4 := by decide +kernel
theorem lv_stepsF : stepsL lvF = 4 := by decide +kernel
theorem lv_stepsO : stepsO lvL [⟨true, 0, 0, 0, 0⟩] = 3 := by decide +kernel
theorem lv_spread : (spreadL lvF).length = 4 := by decide +kernel
section
variable {w : World}
theorem lv_c1 (hL : Lw w) : Calls Tryd.prog 8 #[.string ⟨#[116, 48, 32, 42, 32, 50, 10, 116, 48, 10, 10, 115, 99, 97, 110, 32, 49, 10]⟩] w fun e w' => ∃ A cap, e = .returned (.tuple #[.slice A 3 cap, .int .i64 0, .int .i64 0]) ∧ OwnsE w' w.heap.size (.slice A lvL.length cap) lvL ∧ Below w.heap.size w w' := by
  have h := scriptParse_any (w := w) (bs lvS1) hL
  rw [bs_data, lv_read1] at h
  exact h
theorem lv_c2 (hL : Lw w) : Calls Tryd.prog 8 #[.string ⟨#[114, 117, 110, 10, 114, 117, 110, 32, 42, 32, 49]⟩] w fun e w' => ∃ A cap, e = .returned (.tuple #[.slice A 0 cap, .int .i64 2, .int .i64 2]) ∧ Below w.heap.size w w' := by
  have h := scriptParse_any (w := w) (bs lvS2) hL
  rw [bs_data, lv_read2] at h
  refine Calls.mono h ?_
  rintro e w' ⟨A, cap, rfl, _, hb⟩
  exact ⟨A, cap, rfl, hb⟩
theorem lv_c3 {A : Option Addr} (cap : Nat) (hr : ERow w w.heap.size A lvL) : Calls Tryd.prog 14 #[.slice A 3 cap] w fun e w' => ∃ A cap, e = .returned (.tuple #[.slice A 2 cap, .int .i64 0]) ∧ OwnsE w' w.heap.size (.slice A lvF.length cap) lvF ∧ Below w.heap.size w w' :=
  scriptFold_any cap hr (by decide) lvF 0 (.inl ⟨lv_okL, lv_fold.symm, rfl⟩)
theorem lv_c4 {A : Option Addr} (cap : Nat) (hr : ERow w w.heap.size A lvF) (hL : Lw w) : Calls Tryd.prog 12 #[.slice A 2 cap] w fun e w' => e = .returned (.tuple #[.string (bs lvP), .int .i64 0]) ∧ Below w.heap.size w w' := by
  refine Calls.mono (print_any (l := lvF) cap hr (by decide) hL) ?_
  rintro e w' ⟨⟨_, rfl⟩ | ⟨h, _⟩, hb⟩
  · rw [lv_print]; exact ⟨rfl, hb⟩
  · exact absurd lv_okF h
theorem lv_c5 {A : Option Addr} (cap : Nat) (hr : ERow w w.heap.size A lvL) : Calls Tryd.prog 18 #[.slice A 3 cap, .slice none 0 0] w fun e w' => e = .returned (.tuple #[.int .i64 4, .int .i64 0]) ∧ Below w.heap.size w w' :=
  steps_any (l := lvL) (of := []) cap 0 hr (ERow.nil _ _ _) (by decide) (by decide) (fun e he => by simp at he) 4 0 (.inl ⟨lv_okL, by rw [stepsO_all, lv_steps], rfl⟩)
theorem lv_c6 {A C : Option Addr} (cap cc : Nat) (hr : ERow w w.heap.size A lvL) (ho : ERow w w.heap.size C [⟨true, 0, 0, 0, 0⟩]) : Calls Tryd.prog 18 #[.slice A 3 cap, .slice C 1 cc] w fun e w' => e = .returned (.tuple #[.int .i64 3, .int .i64 0]) ∧ Below w.heap.size w w' :=
  steps_any (l := lvL) (of := [⟨true, 0, 0, 0, 0⟩]) cap cc hr ho (by decide) (by decide) (fun e he => by
    rw [List.mem_singleton] at he
    subst he
    exact ⟨(by decide : (Lit.int .i64 0).wf = true), (by decide : (Lit.int .u8 0).wf = true), (by decide : (Lit.int .i64 0).wf = true), (by decide : (Lit.int .i64 0).wf = true)⟩) 3 0 (.inl ⟨lv_okL, lv_stepsO.symm, rfl⟩)
theorem lv_c7 {A : Option Addr} (cap : Nat) (hr : ERow w w.heap.size A lvF) : Calls Tryd.prog 16 #[.slice A 2 cap] w fun e w' => ∃ A cap, e = .returned (.tuple #[.slice A 4 cap, .int .i64 0]) ∧ Below w.heap.size w w' := by
  refine Calls.mono (spread_any (l := lvF) cap hr (by decide) (spreadL lvF) 0 (.inl ⟨lv_okF, by rw [lv_stepsF]; decide, rfl, rfl⟩)) ?_
  rintro e w' ⟨A, cap, rfl, _, hb⟩
  rw [lv_spread]
  exact ⟨A, cap, rfl, hb⟩
theorem lv_c8 {A : Option Addr} (cap : Nat) (hr : ERow w w.heap.size A lvL) : Calls Tryd.prog 20 #[.slice A 3 cap] w fun e w' => e = .returned (.int .i64 0) ∧ Below w.heap.size w w' :=
  check_any (l := lvL) cap hr (by decide) 0 (.inl ⟨lv_okL, rfl⟩)
theorem lv_eq : ((bs lvP).toList == [116, 48, 32, 42, 32, 51, 10, 115, 99, 97, 110, 32, 49, 10]) = true := by
  rw [ByteArray.toList_eq, bs_data]
  decide
theorem row_one (W : World) (e : Ev) (t : TypeId) : ERow (W.alloc (.cells #[.bool e.th, .int .i64 e.who, .int .u8 e.k, .int .i64 e.tw, .int .i64 e.n] t)) (W.alloc (.cells #[.bool e.th, .int .i64 e.who, .int .u8 e.k, .int .i64 e.tw, .int .i64 e.n] t)).heap.size (some ⟨W.heap.size, 0, none⟩) [e] :=
  ⟨fun _ => ⟨W.heap.size, 0, rfl, by simp, fun i hi => by
    obtain rfl : i = 0 := by simpa using hi
    exact Ev5.new W e t⟩⟩
set_option maxRecDepth 100000 in
set_option maxHeartbeats 8000000 in
theorem lives_any (hL : Lw w) : Calls Tryd.prog 10 #[] w fun e w' => e = .returned (.bool true) ∧ Below w.heap.size w w' := by
  have he75 := lv_eq
  go_enter Tryd.func10, Tryd.ntmps10
  go_wp2_with fail
  go_at_call 8
  refine (lv_c1 (hL.later (by repeat (first | exact Below.refl _ _ | assumption | (refine below_drewN ?_ _) | (refine Below.drew ?_) | (refine Below.alloc ?_ (by first | omega | (simp; omega) | simp) _) | (refine Below.setCell ?_ (by first | omega | (simp; omega) | simp) _) | (refine below_trans ?_ (by assumption) (by first | omega | (simp; omega) | simp)))))).mono ?_
  rintro e w1 ⟨L1, cl1, rfl, oL, hb_w1⟩
  obtain ⟨hc_w1, hf_w1⟩ := bcell hb_w1; have hs_w1 := hb_w1.size; (try simp only [World.size_alloc, World.size_setCell, World.size_drew, World.heap_drewN] at hs_w1)
  have rL := Lib.hid (ERow.of_owns oL)
  clear oL
  go_wp2_with fail
  go_at_call 14
  refine (lv_c3 _ rL.out).mono ?_
  rintro e w2 ⟨L2, cl2, rfl, oF, hb_w2⟩
  obtain ⟨hc_w2, hf_w2⟩ := bcell hb_w2; have hs_w2 := hb_w2.size; (try simp only [World.size_alloc, World.size_setCell, World.size_drew, World.heap_drewN] at hs_w2)
  have rF := Lib.hid (ERow.of_owns oF)
  clear oF
  go_wp2_with fail
  go_at_call 12
  refine (lv_c4 _ rF.out (hL.later (by repeat (first | exact Below.refl _ _ | assumption | (refine below_drewN ?_ _) | (refine Below.drew ?_) | (refine Below.alloc ?_ (by first | omega | (simp; omega) | simp) _) | (refine Below.setCell ?_ (by first | omega | (simp; omega) | simp) _) | (refine below_trans ?_ (by assumption) (by first | omega | (simp; omega) | simp)))))).mono ?_
  rintro e w3 ⟨rfl, hb_w3⟩
  obtain ⟨hc_w3, hf_w3⟩ := bcell hb_w3; have hs_w3 := hb_w3.size; (try simp only [World.size_alloc, World.size_setCell, World.size_drew, World.heap_drewN] at hs_w3)
  go_wp2_with fail
  go_at_call 18
  refine (lv_c5 _ (rL.out.later (by repeat (first | exact Below.refl _ _ | assumption | (refine below_drewN ?_ _) | (refine Below.drew ?_) | (refine Below.alloc ?_ (by first | omega | (simp; omega) | simp) _) | (refine Below.setCell ?_ (by first | omega | (simp; omega) | simp) _) | (refine below_trans ?_ (by assumption) (by first | omega | (simp; omega) | simp)))))).mono ?_
  rintro e w4 ⟨rfl, hb_w4⟩
  obtain ⟨hc_w4, hf_w4⟩ := bcell hb_w4; have hs_w4 := hb_w4.size; (try simp only [World.size_alloc, World.size_setCell, World.size_drew, World.heap_drewN] at hs_w4)
  go_wp2_with fail
  go_at_call 18
  refine (lv_c6 _ _ (rL.out.later (by repeat (first | exact Below.refl _ _ | assumption | (refine below_drewN ?_ _) | (refine Below.drew ?_) | (refine Below.alloc ?_ (by first | omega | (simp; omega) | simp) _) | (refine Below.setCell ?_ (by first | omega | (simp; omega) | simp) _) | (refine below_trans ?_ (by assumption) (by first | omega | (simp; omega) | simp))))) (row_one w4 ⟨true, 0, 0, 0, 0⟩ _)).mono ?_
  rintro e w5 ⟨rfl, hb_w5⟩
  obtain ⟨hc_w5, hf_w5⟩ := bcell hb_w5; have hz_w5_w4_0 : w4.heap.size < w5.heap.size := (by have hzz := hb_w5.size; (try simp only [World.size_alloc, World.size_setCell, World.size_drew, World.heap_drewN] at hzz); omega); have hs_w5 := hb_w5.size; (try simp only [World.size_alloc, World.size_setCell, World.size_drew, World.heap_drewN] at hs_w5)
  go_wp2_with fail
  go_at_call 8
  refine (lv_c2 (hL.later (by repeat (first | exact Below.refl _ _ | assumption | (refine below_drewN ?_ _) | (refine Below.drew ?_) | (refine Below.alloc ?_ (by first | omega | (simp; omega) | simp) _) | (refine Below.setCell ?_ (by first | omega | (simp; omega) | simp) _) | (refine below_trans ?_ (by assumption) (by first | omega | (simp; omega) | simp)))))).mono ?_
  rintro e w6 ⟨L6, cl6, rfl, hb_w6⟩
  obtain ⟨hc_w6, hf_w6⟩ := bcell hb_w6; have hs_w6 := hb_w6.size; (try simp only [World.size_alloc, World.size_setCell, World.size_drew, World.heap_drewN] at hs_w6)
  go_wp2_with fail
  go_at_call 16
  refine (lv_c7 _ (rF.out.later (by repeat (first | exact Below.refl _ _ | assumption | (refine below_drewN ?_ _) | (refine Below.drew ?_) | (refine Below.alloc ?_ (by first | omega | (simp; omega) | simp) _) | (refine Below.setCell ?_ (by first | omega | (simp; omega) | simp) _) | (refine below_trans ?_ (by assumption) (by first | omega | (simp; omega) | simp)))))).mono ?_
  rintro e w7 ⟨L7, cl7, rfl, hb_w7⟩
  obtain ⟨hc_w7, hf_w7⟩ := bcell hb_w7; have hs_w7 := hb_w7.size; (try simp only [World.size_alloc, World.size_setCell, World.size_drew, World.heap_drewN] at hs_w7)
  go_wp2_with fail
  go_at_call 20
  refine (lv_c8 _ (rL.out.later (by repeat (first | exact Below.refl _ _ | assumption | (refine below_drewN ?_ _) | (refine Below.drew ?_) | (refine Below.alloc ?_ (by first | omega | (simp; omega) | simp) _) | (refine Below.setCell ?_ (by first | omega | (simp; omega) | simp) _) | (refine below_trans ?_ (by assumption) (by first | omega | (simp; omega) | simp)))))).mono ?_
  rintro e w8 ⟨rfl, hb_w8⟩
  obtain ⟨hc_w8, hf_w8⟩ := bcell hb_w8; have hs_w8 := hb_w8.size; (try simp only [World.size_alloc, World.size_setCell, World.size_drew, World.heap_drewN] at hs_w8)
  go_wp2
  go_ret
  exact ⟨rfl, (by repeat (first | exact Below.refl _ _ | assumption | (refine below_drewN ?_ _) | (refine Below.drew ?_) | (refine Below.alloc ?_ (by first | omega | (simp; omega) | simp) _) | (refine Below.setCell ?_ (by first | omega | (simp; omega) | simp) _) | (refine below_trans ?_ (by assumption) (by first | omega | (simp; omega) | simp))))⟩
end
end Go.Proofs.YtklbamkafldagaaDoor
