/- The answers that asm's laws ask for first: lives. -/
import Derived.Test.YtggaijdbaplfiaaGreatDoorAs24
namespace Go.Proofs.YtggaijdbaplfiaaGreatDoor
open Go.RowKit
set_option linter.unusedVariables false
set_option linter.unusedSimpArgs false
def okIb (c : Int) (x : In) : Bool :=
  match formOf x with
  | none => false
  | some f => f.os.all (fun o => decide (0 ≤ getO o x) && decide (getO o x ≤ mostO o c)) && decide (mkI f x = x) && decide (Sh x.n x.m)
theorem okIb_iff (c : Int) (x : In) : okIb c x = true ↔ OkI c x := by
  unfold okIb OkI
  cases h : formOf x with
  | none => simp
  | some f =>
    simp only [Bool.and_eq_true, List.all_eq_true, decide_eq_true_eq, Option.some.injEq, exists_eq_left', inO, and_assoc]
def lvL : List In := [⟨1, 5, 0, 0, 0, 0, 0, 5, 0, 0, 0⟩, ⟨4, 0, 0, 0, 0, 0, 0, 0, 0, 0, 0⟩]
def lvX : In := ⟨1, 1, 1, 0, 0, 2, 3, 0, 0, 0, 0⟩
def lvP : List UInt8 := [76, 48, 58, 10, 99, 111, 110, 115, 116, 32, 114, 48, 32, 53, 10, 106, 117, 109, 112, 32, 76, 48, 10]
theorem lv_read1 : readP [97, 58, 10, 99, 111, 110, 115, 116, 32, 114, 48, 32, 53, 10, 106, 117, 109, 112, 32, 97, 10] = (lvL, 0, 0) := by decide +kernel
theorem lv_read2 : readP [104, 97, 108, 116, 10, 104, 97, 108, 116, 32, 114, 48, 10] = ([], 2, 2) := by decide +kernel
theorem lv_read3 : readP [106, 117, 109, 112, 32, 98] = ([], 1, 3) := by decide +kernel
theorem lv_tos : tosL lvL = [0] := by decide +kernel
theorem lv_goals : goalsL lvL = [0] := by
  unfold goalsL
  rw [lv_tos, List.mergeSort_singleton]
  decide +kernel
theorem lv_print : printP lvL = lvP := by
  unfold printP
  rw [lv_goals]
  decide +kernel
theorem lv_line : lineX lvX = [110, 101, 119, 32, 114, 49, 32, 50, 32, 51] := by decide +kernel
theorem lv_ok : OkP lvL := ⟨by decide, fun x hx => (okIb_iff _ _).1 (by
  revert hx
  revert x
  decide +kernel)⟩
theorem lv_okX : OkI 256 lvX := (okIb_iff _ _).1 (by decide +kernel)
theorem lv_in : InL lvL := by
  intro x hx
  simp only [lvL, List.mem_cons, List.not_mem_nil, or_false] at hx
  rcases hx with rfl | rfl <;> constructor <;> simp [I63]
theorem lv_inX : InR lvX := by constructor <;> simp [lvX, I63]
theorem lv_cnt : cntK lvL [4, 7] = 1 := by decide +kernel
section
variable {w : World}
theorem lv_c1 (hL : Lw w) : Calls Tryz.prog 8 #[.string ⟨#[97, 58, 10, 99, 111, 110, 115, 116, 32, 114, 48, 32, 53, 10, 106, 117, 109, 112, 32, 97, 10]⟩] w fun e w' => ∃ A cap, e = .returned (.tuple #[.slice A 2 cap, .int .i64 0, .int .i64 0]) ∧ OwnsI w' w.heap.size (.slice A lvL.length cap) lvL ∧ Below w.heap.size w w' := by
  have h := aparse_any (w := w) (bs [97, 58, 10, 99, 111, 110, 115, 116, 32, 114, 48, 32, 53, 10, 106, 117, 109, 112, 32, 97, 10]) hL
  rw [bs_data, lv_read1] at h
  exact h
theorem lv_c2 (hL : Lw w) : Calls Tryz.prog 8 #[.string ⟨#[104, 97, 108, 116, 10, 104, 97, 108, 116, 32, 114, 48, 10]⟩] w fun e w' => ∃ A cap, e = .returned (.tuple #[.slice A 0 cap, .int .i64 2, .int .i64 2]) ∧ Below w.heap.size w w' := by
  have h := aparse_any (w := w) (bs [104, 97, 108, 116, 10, 104, 97, 108, 116, 32, 114, 48, 10]) hL
  rw [bs_data, lv_read2] at h
  refine Calls.mono h ?_
  rintro e w' ⟨A, cap, rfl, _, hb⟩
  exact ⟨A, cap, rfl, hb⟩
theorem lv_c3 (hL : Lw w) : Calls Tryz.prog 8 #[.string ⟨#[106, 117, 109, 112, 32, 98]⟩] w fun e w' => ∃ A cap, e = .returned (.tuple #[.slice A 0 cap, .int .i64 1, .int .i64 3]) ∧ Below w.heap.size w w' := by
  have h := aparse_any (w := w) (bs [106, 117, 109, 112, 32, 98]) hL
  rw [bs_data, lv_read3] at h
  refine Calls.mono h ?_
  rintro e w' ⟨A, cap, rfl, _, hb⟩
  exact ⟨A, cap, rfl, hb⟩
theorem lv_c4 {A : Option Addr} (cap : Nat) (hr : PRow w w.heap.size A lvL) (hL : Lw w) : Calls Tryz.prog 12 #[.slice A 2 cap] w fun e w' => e = .returned (.tuple #[.string (bs lvP), .int .i64 0]) ∧ Below w.heap.size w w' := by
  refine Calls.mono (print_any (l := lvL) cap hr (by decide) lv_in hL) ?_
  rintro e w' ⟨⟨_, rfl⟩ | ⟨h, _⟩, hb⟩
  · rw [lv_print]; exact ⟨rfl, hb⟩
  · exact absurd lv_ok h
theorem lv_c5 (hL : Lw w) : Calls Tryz.prog 14 #[.agg #[.int .u8 1, .int .u8 1, .int .i64 1, .int .i64 0, .int .i64 0, .int .i64 2, .int .u64 3, .int .u64 0, .int .i64 0, .int .i64 0, .int .i64 0]] w fun e w' => e = .returned (.tuple #[.string (bs [110, 101, 119, 32, 114, 49, 32, 50, 32, 51]), .int .i64 0]) ∧ Below w.heap.size w w' := by
  have h := aline_ok (w := w) lvX lv_inX lv_okX hL
  rw [lv_line] at h
  exact h
theorem lv_c6 {A K : Option Addr} (cap kc : Nat) (hr : PRow w w.heap.size A lvL) (hk : KRow w w.heap.size K [4, 7]) (hL : Lw w) : Calls Tryz.prog 16 #[.slice A 2 cap, .slice K 2 kc] w fun e w' => e = .returned (.tuple #[.int .i64 1, .int .i64 0]) ∧ Below w.heap.size w w' :=
  count_any (l := lvL) (ks := [4, 7]) cap kc hr (by decide) lv_in hk (by decide) hL 1 0 (.inl ⟨lv_ok, rfl, by rw [lv_cnt]; rfl⟩)
theorem lv_c7 {A : Option Addr} (cap : Nat) (hr : PRow w w.heap.size A lvL) (hL : Lw w) : Calls Tryz.prog 18 #[.slice A 2 cap] w fun e w' => e = .returned (.int .i64 0) ∧ Below w.heap.size w w' :=
  check_any (l := lvL) cap hr (by decide) lv_in hL 0 (.inl ⟨lv_ok, rfl⟩)
theorem lv_eq1 : ((bs lvP).toList == [76, 48, 58, 10, 99, 111, 110, 115, 116, 32, 114, 48, 32, 53, 10, 106, 117, 109, 112, 32, 76, 48, 10]) = true := by
  rw [ByteArray.toList_eq, bs_data]
  decide
theorem lv_eq2 : ((bs [110, 101, 119, 32, 114, 49, 32, 50, 32, 51]).toList == [110, 101, 119, 32, 114, 49, 32, 50, 32, 51]) = true := by
  rw [ByteArray.toList_eq, bs_data]
  decide
set_option maxRecDepth 100000 in
set_option maxHeartbeats 8000000 in
theorem lives_any (hL : Lw w) : Calls Tryz.prog 10 #[] w fun e w' => e = .returned (.bool true) ∧ Below w.heap.size w w' := by
  have he1 := lv_eq1
  have he2 := lv_eq2
  go_enter Tryz.func10, Tryz.ntmps10
  go_wp2_with fail
  go_at_call 8
  refine (lv_c1 (hL.later (by repeat (first | exact Below.refl _ _ | assumption | (refine below_drewN ?_ _) | (refine Below.drew ?_) | (refine Below.alloc ?_ (by first | omega | (simp; omega) | simp) _) | (refine Below.setCell ?_ (by first | omega | (simp; omega) | simp) _) | (refine below_trans ?_ (by assumption) (by first | omega | (simp; omega) | simp)))))).mono ?_
  rintro e w1 ⟨L1, cl1, rfl, oL, hb_w1⟩
  obtain ⟨hc_w1, hf_w1⟩ := bcell hb_w1; have hs_w1 := hb_w1.size; (try simp only [World.size_alloc, World.size_setCell, World.size_drew, World.heap_drewN] at hs_w1)
  have rL := Lib.hid (PRow.of_owns oL)
  clear oL
  go_wp2_with fail
  go_at_call 12
  refine (lv_c4 _ rL.out (hL.later (by repeat (first | exact Below.refl _ _ | assumption | (refine below_drewN ?_ _) | (refine Below.drew ?_) | (refine Below.alloc ?_ (by first | omega | (simp; omega) | simp) _) | (refine Below.setCell ?_ (by first | omega | (simp; omega) | simp) _) | (refine below_trans ?_ (by assumption) (by first | omega | (simp; omega) | simp)))))).mono ?_
  rintro e w2 ⟨rfl, hb_w2⟩
  obtain ⟨hc_w2, hf_w2⟩ := bcell hb_w2; have hs_w2 := hb_w2.size; (try simp only [World.size_alloc, World.size_setCell, World.size_drew, World.heap_drewN] at hs_w2)
  go_wp2_with fail
  go_at_call 8
  refine (lv_c2 (hL.later (by repeat (first | exact Below.refl _ _ | assumption | (refine below_drewN ?_ _) | (refine Below.drew ?_) | (refine Below.alloc ?_ (by first | omega | (simp; omega) | simp) _) | (refine Below.setCell ?_ (by first | omega | (simp; omega) | simp) _) | (refine below_trans ?_ (by assumption) (by first | omega | (simp; omega) | simp)))))).mono ?_
  rintro e w3 ⟨L3, cl3, rfl, hb_w3⟩
  obtain ⟨hc_w3, hf_w3⟩ := bcell hb_w3; have hs_w3 := hb_w3.size; (try simp only [World.size_alloc, World.size_setCell, World.size_drew, World.heap_drewN] at hs_w3)
  go_wp2_with fail
  go_at_call 14
  refine (lv_c5 (hL.later (by repeat (first | exact Below.refl _ _ | assumption | (refine below_drewN ?_ _) | (refine Below.drew ?_) | (refine Below.alloc ?_ (by first | omega | (simp; omega) | simp) _) | (refine Below.setCell ?_ (by first | omega | (simp; omega) | simp) _) | (refine below_trans ?_ (by assumption) (by first | omega | (simp; omega) | simp)))))).mono ?_
  rintro e w4 ⟨rfl, hb_w4⟩
  obtain ⟨hc_w4, hf_w4⟩ := bcell hb_w4; have hs_w4 := hb_w4.size; (try simp only [World.size_alloc, World.size_setCell, World.size_drew, World.heap_drewN] at hs_w4)
  go_wp2_with fail
  go_at_call 16
  refine (lv_c6 _ _ (rL.out.later (by repeat (first | exact Below.refl _ _ | assumption | (refine below_drewN ?_ _) | (refine Below.drew ?_) | (refine Below.alloc ?_ (by first | omega | (simp; omega) | simp) _) | (refine Below.setCell ?_ (by first | omega | (simp; omega) | simp) _) | (refine below_trans ?_ (by assumption) (by first | omega | (simp; omega) | simp))))) (KRow.new w4 _ [4, 7] _ rfl) (hL.later (by repeat (first | exact Below.refl _ _ | assumption | (refine below_drewN ?_ _) | (refine Below.drew ?_) | (refine Below.alloc ?_ (by first | omega | (simp; omega) | simp) _) | (refine Below.setCell ?_ (by first | omega | (simp; omega) | simp) _) | (refine below_trans ?_ (by assumption) (by first | omega | (simp; omega) | simp)))))).mono ?_
  rintro e w5 ⟨rfl, hb_w5⟩
  obtain ⟨hc_w5, hf_w5⟩ := bcell hb_w5; have hz_w5_w4_0 : w4.heap.size < w5.heap.size := (by have hzz := hb_w5.size; (try simp only [World.size_alloc, World.size_setCell, World.size_drew, World.heap_drewN] at hzz); omega); have hs_w5 := hb_w5.size; (try simp only [World.size_alloc, World.size_setCell, World.size_drew, World.heap_drewN] at hs_w5)
  go_wp2_with fail
  go_at_call 8
  refine (lv_c3 (hL.later (by repeat (first | exact Below.refl _ _ | assumption | (refine below_drewN ?_ _) | (refine Below.drew ?_) | (refine Below.alloc ?_ (by first | omega | (simp; omega) | simp) _) | (refine Below.setCell ?_ (by first | omega | (simp; omega) | simp) _) | (refine below_trans ?_ (by assumption) (by first | omega | (simp; omega) | simp)))))).mono ?_
  rintro e w6 ⟨L6, cl6, rfl, hb_w6⟩
  obtain ⟨hc_w6, hf_w6⟩ := bcell hb_w6; have hs_w6 := hb_w6.size; (try simp only [World.size_alloc, World.size_setCell, World.size_drew, World.heap_drewN] at hs_w6)
  go_wp2_with fail
  go_at_call 18
  refine (lv_c7 _ (rL.out.later (by repeat (first | exact Below.refl _ _ | assumption | (refine below_drewN ?_ _) | (refine Below.drew ?_) | (refine Below.alloc ?_ (by first | omega | (simp; omega) | simp) _) | (refine Below.setCell ?_ (by first | omega | (simp; omega) | simp) _) | (refine below_trans ?_ (by assumption) (by first | omega | (simp; omega) | simp))))) (hL.later (by repeat (first | exact Below.refl _ _ | assumption | (refine below_drewN ?_ _) | (refine Below.drew ?_) | (refine Below.alloc ?_ (by first | omega | (simp; omega) | simp) _) | (refine Below.setCell ?_ (by first | omega | (simp; omega) | simp) _) | (refine below_trans ?_ (by assumption) (by first | omega | (simp; omega) | simp)))))).mono ?_
  rintro e w7 ⟨rfl, hb_w7⟩
  obtain ⟨hc_w7, hf_w7⟩ := bcell hb_w7; have hs_w7 := hb_w7.size; (try simp only [World.size_alloc, World.size_setCell, World.size_drew, World.heap_drewN] at hs_w7)
  go_wp2
  go_ret
  exact ⟨rfl, (by repeat (first | exact Below.refl _ _ | assumption | (refine below_drewN ?_ _) | (refine Below.drew ?_) | (refine Below.alloc ?_ (by first | omega | (simp; omega) | simp) _) | (refine Below.setCell ?_ (by first | omega | (simp; omega) | simp) _) | (refine below_trans ?_ (by assumption) (by first | omega | (simp; omega) | simp))))⟩
end
end Go.Proofs.YtggaijdbaplfiaaGreatDoor
