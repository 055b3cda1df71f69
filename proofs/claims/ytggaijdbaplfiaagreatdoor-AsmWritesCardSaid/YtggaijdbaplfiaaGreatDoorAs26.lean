/- The walk of AsmCounts. -/
import Derived.Test.YtggaijdbaplfiaaGreatDoorAs25
namespace Go.Proofs.YtggaijdbaplfiaaGreatDoor
open Go.RowKit
set_option linter.unusedVariables false
set_option linter.unusedSimpArgs false
theorem fms_kd : ∀ f ∈ fms, f.kd ∈ [1, 2, 3, 4, 5, 6, 7] := by decide
theorem ok_kd {x : In} {c : Int} (h : OkI c x) : x.kd ∈ [1, 2, 3, 4, 5, 6, 7] := by
  obtain ⟨f, hf, _⟩ := h
  have h1 := List.mem_of_find?_eq_some hf
  have h2 := List.find?_some hf
  simp only [Bool.and_eq_true, beq_iff_eq] at h2
  rw [← h2.1]
  exact fms_kd f h1
theorem cntK_all {l : List In} (h : OkP l) : cntK l [1, 2, 3, 4, 5, 6, 7] = l.length := by
  unfold cntK
  rw [List.countP_eq_length]
  intro x hx
  rw [List.contains_iff_mem]
  exact ok_kd (h.2 x hx)
theorem cntK_le (l : List In) (ks : List Int) : cntK l ks ≤ l.length := List.countP_le_length
theorem cntK_none (l : List In) : cntK l [] = 0 := by
  unfold cntK
  rw [List.countP_eq_zero]
  intro x _
  simp
section
variable {w : World}
set_option maxRecDepth 100000 in
set_option maxHeartbeats 8000000 in
theorem asmCounts_walk (A : Option Addr) (cap : Nat) (l : List In) (kd : Int) (hL : Lw w) (hr : PRow w w.heap.size A l) (hl : l.length ≤ 17592186044416) (hx : InL l) :
    Calls Tryz.prog 7 #[.slice A l.length cap, .int .u8 kd] w fun r w' => r = .returned (.bool true) ∧ Below w.heap.size w w' := by
  have HLV := Lib.hid fun (w : World) hL => lives_any (w := w) hL
  by_cases hok : OkP l
  · have hle := cntK_le l [kd]
    have h256 := hok.1
    have HC1 := Lib.hid fun (w : World) (K : Option Addr) hr hk hL => count_any (w := w) (A := A) (K := K) (l := l) (ks := [1, 2, 3, 4, 5, 6, 7]) cap 7 hr hl hx hk (by decide) hL (l.length : Nat) 0 (.inl ⟨hok, rfl, by rw [cntK_all hok]⟩)
    have HC2 := Lib.hid fun (w : World) (K : Option Addr) hr hk hL => count_any (w := w) (A := A) (K := K) (l := l) (ks := [kd]) cap 1 hr hl hx hk (by simp) hL (cntK l [kd] : Nat) 0 (.inl ⟨hok, rfl, rfl⟩)
    have HC3 := Lib.hid fun (w : World) hr hL => count_any (w := w) (A := A) (K := none) (l := l) (ks := []) cap 0 hr hl hx ⟨fun h => by simp at h⟩ (by simp) hL 0 0 (.inl ⟨hok, rfl, by rw [cntK_none]; rfl⟩)
    simp only [List.length_nil, List.length_singleton, List.length_cons, Nat.zero_add, Nat.reduceAdd] at HC1 HC2 HC3
    have d1 : decide ((cntK l [kd] : Int) ≤ (l.length : Int)) = true := decide_eq_true (by omega)
    have d2 : decide (cntK l [kd] ≤ l.length) = true := decide_eq_true hle
    clear hok hle hx
    generalize cntK l [kd] = m at *
    go_enter Tryz.func7, Tryz.ntmps7
    go_wp2_with fail
    go_at_call 10
    refine (HLV.out _ (hL.later (by repeat (first | exact Below.refl _ _ | assumption | (refine below_drewN ?_ _) | (refine Below.drew ?_) | (refine Below.alloc ?_ (by first | omega | (simp; omega) | simp) _) | (refine Below.setCell ?_ (by first | omega | (simp; omega) | simp) _) | (refine below_trans ?_ (by assumption) (by first | omega | (simp; omega) | simp)))))).mono ?_
    rintro e w1 ⟨rfl, hb_w1⟩
    obtain ⟨hc_w1, hf_w1⟩ := bcell hb_w1; have hs_w1 := hb_w1.size; (try simp only [World.size_alloc, World.size_setCell, World.size_drew, World.heap_drewN] at hs_w1)
    go_wp2_with fail
    go_at_call 16
    refine (HC1.out _ _ (hr.later (by repeat (first | exact Below.refl _ _ | assumption | (refine below_drewN ?_ _) | (refine Below.drew ?_) | (refine Below.alloc ?_ (by first | omega | (simp; omega) | simp) _) | (refine Below.setCell ?_ (by first | omega | (simp; omega) | simp) _) | (refine below_trans ?_ (by assumption) (by first | omega | (simp; omega) | simp))))) (KRow.new w1 _ [1, 2, 3, 4, 5, 6, 7] _ rfl) (hL.later (by repeat (first | exact Below.refl _ _ | assumption | (refine below_drewN ?_ _) | (refine Below.drew ?_) | (refine Below.alloc ?_ (by first | omega | (simp; omega) | simp) _) | (refine Below.setCell ?_ (by first | omega | (simp; omega) | simp) _) | (refine below_trans ?_ (by assumption) (by first | omega | (simp; omega) | simp)))))).mono ?_
    rintro e w2 ⟨rfl, hb_w2⟩
    obtain ⟨hc_w2, hf_w2⟩ := bcell hb_w2; have hz_w2_w1_0 : w1.heap.size < w2.heap.size := (by have hzz := hb_w2.size; (try simp only [World.size_alloc, World.size_setCell, World.size_drew, World.heap_drewN] at hzz); omega); have hs_w2 := hb_w2.size; (try simp only [World.size_alloc, World.size_setCell, World.size_drew, World.heap_drewN] at hs_w2)
    go_wp2_with fail
    go_at_call 16
    refine (HC2.out _ _ (hr.later (by repeat (first | exact Below.refl _ _ | assumption | (refine below_drewN ?_ _) | (refine Below.drew ?_) | (refine Below.alloc ?_ (by first | omega | (simp; omega) | simp) _) | (refine Below.setCell ?_ (by first | omega | (simp; omega) | simp) _) | (refine below_trans ?_ (by assumption) (by first | omega | (simp; omega) | simp))))) (KRow.new w2 _ [kd] _ rfl) (hL.later (by repeat (first | exact Below.refl _ _ | assumption | (refine below_drewN ?_ _) | (refine Below.drew ?_) | (refine Below.alloc ?_ (by first | omega | (simp; omega) | simp) _) | (refine Below.setCell ?_ (by first | omega | (simp; omega) | simp) _) | (refine below_trans ?_ (by assumption) (by first | omega | (simp; omega) | simp)))))).mono ?_
    rintro e w3 ⟨rfl, hb_w3⟩
    obtain ⟨hc_w3, hf_w3⟩ := bcell hb_w3; have hz_w3_w2_0 : w2.heap.size < w3.heap.size := (by have hzz := hb_w3.size; (try simp only [World.size_alloc, World.size_setCell, World.size_drew, World.heap_drewN] at hzz); omega); have hs_w3 := hb_w3.size; (try simp only [World.size_alloc, World.size_setCell, World.size_drew, World.heap_drewN] at hs_w3)
    go_wp2_with fail
    go_at_call 16
    refine (HC3.out _ (hr.later (by repeat (first | exact Below.refl _ _ | assumption | (refine below_drewN ?_ _) | (refine Below.drew ?_) | (refine Below.alloc ?_ (by first | omega | (simp; omega) | simp) _) | (refine Below.setCell ?_ (by first | omega | (simp; omega) | simp) _) | (refine below_trans ?_ (by assumption) (by first | omega | (simp; omega) | simp))))) (hL.later (by repeat (first | exact Below.refl _ _ | assumption | (refine below_drewN ?_ _) | (refine Below.drew ?_) | (refine Below.alloc ?_ (by first | omega | (simp; omega) | simp) _) | (refine Below.setCell ?_ (by first | omega | (simp; omega) | simp) _) | (refine below_trans ?_ (by assumption) (by first | omega | (simp; omega) | simp)))))).mono ?_
    rintro e w4 ⟨rfl, hb_w4⟩
    obtain ⟨hc_w4, hf_w4⟩ := bcell hb_w4; have hs_w4 := hb_w4.size; (try simp only [World.size_alloc, World.size_setCell, World.size_drew, World.heap_drewN] at hs_w4)
    go_wp2
    go_ret
    exact ⟨rfl, (by repeat (first | exact Below.refl _ _ | assumption | (refine below_drewN ?_ _) | (refine Below.drew ?_) | (refine Below.alloc ?_ (by first | omega | (simp; omega) | simp) _) | (refine Below.setCell ?_ (by first | omega | (simp; omega) | simp) _) | (refine below_trans ?_ (by assumption) (by first | omega | (simp; omega) | simp))))⟩
  · have HC1 := Lib.hid fun (w : World) (K : Option Addr) hr hk hL => count_any (w := w) (A := A) (K := K) (l := l) (ks := [1, 2, 3, 4, 5, 6, 7]) cap 7 hr hl hx hk (by decide) hL 0 2 (.inr ⟨hok, rfl, rfl⟩)
    have HC2 := Lib.hid fun (w : World) (K : Option Addr) hr hk hL => count_any (w := w) (A := A) (K := K) (l := l) (ks := [kd]) cap 1 hr hl hx hk (by simp) hL 0 2 (.inr ⟨hok, rfl, rfl⟩)
    have HC3 := Lib.hid fun (w : World) hr hL => count_any (w := w) (A := A) (K := none) (l := l) (ks := []) cap 0 hr hl hx ⟨fun h => by simp at h⟩ (by simp) hL 0 2 (.inr ⟨hok, rfl, rfl⟩)
    simp only [List.length_nil, List.length_singleton, List.length_cons, Nat.zero_add, Nat.reduceAdd] at HC1 HC2 HC3
    clear hok hx
    go_enter Tryz.func7, Tryz.ntmps7
    go_wp2_with fail
    go_at_call 10
    refine (HLV.out _ (hL.later (by repeat (first | exact Below.refl _ _ | assumption | (refine below_drewN ?_ _) | (refine Below.drew ?_) | (refine Below.alloc ?_ (by first | omega | (simp; omega) | simp) _) | (refine Below.setCell ?_ (by first | omega | (simp; omega) | simp) _) | (refine below_trans ?_ (by assumption) (by first | omega | (simp; omega) | simp)))))).mono ?_
    rintro e w1 ⟨rfl, hb_w1⟩
    obtain ⟨hc_w1, hf_w1⟩ := bcell hb_w1; have hs_w1 := hb_w1.size; (try simp only [World.size_alloc, World.size_setCell, World.size_drew, World.heap_drewN] at hs_w1)
    go_wp2_with fail
    go_at_call 16
    refine (HC1.out _ _ (hr.later (by repeat (first | exact Below.refl _ _ | assumption | (refine below_drewN ?_ _) | (refine Below.drew ?_) | (refine Below.alloc ?_ (by first | omega | (simp; omega) | simp) _) | (refine Below.setCell ?_ (by first | omega | (simp; omega) | simp) _) | (refine below_trans ?_ (by assumption) (by first | omega | (simp; omega) | simp))))) (KRow.new w1 _ [1, 2, 3, 4, 5, 6, 7] _ rfl) (hL.later (by repeat (first | exact Below.refl _ _ | assumption | (refine below_drewN ?_ _) | (refine Below.drew ?_) | (refine Below.alloc ?_ (by first | omega | (simp; omega) | simp) _) | (refine Below.setCell ?_ (by first | omega | (simp; omega) | simp) _) | (refine below_trans ?_ (by assumption) (by first | omega | (simp; omega) | simp)))))).mono ?_
    rintro e w2 ⟨rfl, hb_w2⟩
    obtain ⟨hc_w2, hf_w2⟩ := bcell hb_w2; have hz_w2_w1_0 : w1.heap.size < w2.heap.size := (by have hzz := hb_w2.size; (try simp only [World.size_alloc, World.size_setCell, World.size_drew, World.heap_drewN] at hzz); omega); have hs_w2 := hb_w2.size; (try simp only [World.size_alloc, World.size_setCell, World.size_drew, World.heap_drewN] at hs_w2)
    go_wp2_with fail
    go_at_call 16
    refine (HC2.out _ _ (hr.later (by repeat (first | exact Below.refl _ _ | assumption | (refine below_drewN ?_ _) | (refine Below.drew ?_) | (refine Below.alloc ?_ (by first | omega | (simp; omega) | simp) _) | (refine Below.setCell ?_ (by first | omega | (simp; omega) | simp) _) | (refine below_trans ?_ (by assumption) (by first | omega | (simp; omega) | simp))))) (KRow.new w2 _ [kd] _ rfl) (hL.later (by repeat (first | exact Below.refl _ _ | assumption | (refine below_drewN ?_ _) | (refine Below.drew ?_) | (refine Below.alloc ?_ (by first | omega | (simp; omega) | simp) _) | (refine Below.setCell ?_ (by first | omega | (simp; omega) | simp) _) | (refine below_trans ?_ (by assumption) (by first | omega | (simp; omega) | simp)))))).mono ?_
    rintro e w3 ⟨rfl, hb_w3⟩
    obtain ⟨hc_w3, hf_w3⟩ := bcell hb_w3; have hz_w3_w2_0 : w2.heap.size < w3.heap.size := (by have hzz := hb_w3.size; (try simp only [World.size_alloc, World.size_setCell, World.size_drew, World.heap_drewN] at hzz); omega); have hs_w3 := hb_w3.size; (try simp only [World.size_alloc, World.size_setCell, World.size_drew, World.heap_drewN] at hs_w3)
    go_wp2_with fail
    go_at_call 16
    refine (HC3.out _ (hr.later (by repeat (first | exact Below.refl _ _ | assumption | (refine below_drewN ?_ _) | (refine Below.drew ?_) | (refine Below.alloc ?_ (by first | omega | (simp; omega) | simp) _) | (refine Below.setCell ?_ (by first | omega | (simp; omega) | simp) _) | (refine below_trans ?_ (by assumption) (by first | omega | (simp; omega) | simp))))) (hL.later (by repeat (first | exact Below.refl _ _ | assumption | (refine below_drewN ?_ _) | (refine Below.drew ?_) | (refine Below.alloc ?_ (by first | omega | (simp; omega) | simp) _) | (refine Below.setCell ?_ (by first | omega | (simp; omega) | simp) _) | (refine below_trans ?_ (by assumption) (by first | omega | (simp; omega) | simp)))))).mono ?_
    rintro e w4 ⟨rfl, hb_w4⟩
    obtain ⟨hc_w4, hf_w4⟩ := bcell hb_w4; have hs_w4 := hb_w4.size; (try simp only [World.size_alloc, World.size_setCell, World.size_drew, World.heap_drewN] at hs_w4)
    go_wp2
    go_ret
    exact ⟨rfl, (by repeat (first | exact Below.refl _ _ | assumption | (refine below_drewN ?_ _) | (refine Below.drew ?_) | (refine Below.alloc ?_ (by first | omega | (simp; omega) | simp) _) | (refine Below.setCell ?_ (by first | omega | (simp; omega) | simp) _) | (refine below_trans ?_ (by assumption) (by first | omega | (simp; omega) | simp))))⟩
end
end Go.Proofs.YtggaijdbaplfiaaGreatDoor
