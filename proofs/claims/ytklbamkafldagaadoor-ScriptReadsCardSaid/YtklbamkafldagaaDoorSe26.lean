/- Contracts of the document's package: line, Check. -/
import Derived.Test.YtklbamkafldagaaDoorSe25
namespace Go.Proofs.YtklbamkafldagaaDoor
open Go.RowKit
set_option linter.unusedVariables false
set_option linter.unusedSimpArgs false
section
variable {w : World}
theorem digits_i (a : Int) (h0 : 0 ≤ a) (h1 : a < 9223372036854775808) : Calls Tryd.prog 43 #[.int .u64 a] w fun r w' => r = .returned (.string (bs (digs a.toNat))) ∧ Below w.heap.size w w' := by
  have h := digits_any (w := w) a.toNat (by omega)
  rw [show ((a.toNat : Nat) : Int) = a by omega] at h
  exact h
theorem digs_size (n : Nat) : (bs (digs n)).size ≤ 20 := by rw [bs_size]; exact digF_len 20 n
set_option maxRecDepth 100000 in
set_option maxHeartbeats 4000000 in
theorem xline_t1 (a : Int) (h0 : 0 ≤ a) (h1 : a < 4) : Calls Tryd.prog 29 #[.agg #[.bool true, .int .i64 a, .int .u8 0, .int .i64 0, .int .i64 1]] w fun r w' => r = .returned (.string (bs (lineE ⟨true, a, 0, 0, 1⟩))) ∧ Below w.heap.size w w' := by
  have HD := Lib.hid fun (w : World) => digits_i (w := w) a h0 (by omega)
  have s1 := digs_size a.toNat
  have k1 : (bs [116]).size = 1 := rfl
  have e0 : nmE ⟨true, a, 0, 0, 1⟩ = [116] ++ digs a.toNat := rfl
  have e1 : lineE ⟨true, a, 0, 0, 1⟩ = nmE ⟨true, a, 0, 0, 1⟩ := rfl
  rw [e1, e0]
  rw [← bs_append]
  have hl : (⟨#[116]⟩ : ByteArray) = bs [116] := rfl
  clear e0 e1
  rw [← hl]
  clear hl
  generalize bs (digs a.toNat) = DA at *
  have z1 : ¬ (9223372036854775807 < 1 + DA.size) := by omega
  have b0 : decide (a < 0) = false := decide_eq_false (by omega)
  clear k1 s1
  go_enter Tryd.func29, Tryd.ntmps29
  go_wp2_with fail
  go_at_call 43
  refine (HD.out _).mono ?_
  rintro e w1 ⟨rfl, hb_w1⟩
  obtain ⟨hc_w1, hf_w1⟩ := bcell hb_w1; have hz_w1_w_0 : w.heap.size < w1.heap.size := (by have hzz := hb_w1.size; (try simp only [World.size_alloc, World.size_setCell, World.size_drew, World.heap_drewN] at hzz); omega); have hs_w1 := hb_w1.size; (try simp only [World.size_alloc, World.size_setCell, World.size_drew, World.heap_drewN] at hs_w1)
  go_wp2
  go_ret
  exact ⟨rfl, (by repeat (first | exact Below.refl _ _ | assumption | (refine below_drewN ?_ _) | (refine Below.drew ?_) | (refine Below.alloc ?_ (by first | omega | (simp; omega) | simp) _) | (refine Below.setCell ?_ (by first | omega | (simp; omega) | simp) _) | (refine below_trans ?_ (by assumption) (by first | omega | (simp; omega) | simp))))⟩
set_option maxRecDepth 100000 in
set_option maxHeartbeats 4000000 in
theorem xline_tn (a : Int) (h0 : 0 ≤ a) (h1 : a < 4) (n : Int) (n0 : 2 ≤ n) (n1 : n ≤ 4096) : Calls Tryd.prog 29 #[.agg #[.bool true, .int .i64 a, .int .u8 0, .int .i64 0, .int .i64 n]] w fun r w' => r = .returned (.string (bs (lineE ⟨true, a, 0, 0, n⟩))) ∧ Below w.heap.size w w' := by
  have HD := Lib.hid fun (w : World) => digits_i (w := w) a h0 (by omega)
  have s1 := digs_size a.toNat
  have k1 : (bs [116]).size = 1 := rfl
  have HT := Lib.hid fun (w : World) => digits_i (w := w) n (by omega) (by omega)
  have s2 := digs_size n.toNat
  have d1 : (n == 1) = false := by simp; omega
  have d2 : (n != 1) = true := by simp; omega
  have e0 : nmE ⟨true, a, 0, 0, n⟩ = [116] ++ digs a.toNat := rfl
  have e1 : lineE ⟨true, a, 0, 0, n⟩ = nmE ⟨true, a, 0, 0, n⟩ ++ (star ++ digs n.toNat) := by unfold lineE; rw [if_neg (show ¬ n = 1 by omega), List.append_assoc]
  rw [e1, e0]
  rw [← bs_append, ← bs_append, ← bs_append]
  have hl : (⟨#[116]⟩ : ByteArray) = bs [116] := rfl
  have hs : (⟨#[32, 42, 32]⟩ : ByteArray) = bs star := rfl
  clear e0 e1
  rw [← hs]
  rw [← hl]
  clear hl hs
  generalize bs (digs a.toNat) = DA at *
  generalize bs (digs n.toNat) = DN at *
  have z1 : ¬ (9223372036854775807 < 1 + DA.size) := by omega
  have z2 : ¬ (9223372036854775807 < 3 + DN.size) := by omega
  have z3 : ¬ (9223372036854775807 < 1 + DA.size + (3 + DN.size)) := by omega
  have b0 : decide (a < 0) = false := decide_eq_false (by omega)
  clear k1 s1
  clear s2
  go_enter Tryd.func29, Tryd.ntmps29
  go_wp2_with fail
  go_at_call 43
  refine (HD.out _).mono ?_
  rintro e w1 ⟨rfl, hb_w1⟩
  obtain ⟨hc_w1, hf_w1⟩ := bcell hb_w1; have hz_w1_w_0 : w.heap.size < w1.heap.size := (by have hzz := hb_w1.size; (try simp only [World.size_alloc, World.size_setCell, World.size_drew, World.heap_drewN] at hzz); omega); have hs_w1 := hb_w1.size; (try simp only [World.size_alloc, World.size_setCell, World.size_drew, World.heap_drewN] at hs_w1)
  go_wp2_with fail
  go_at_call 43
  refine (HT.out _).mono ?_
  rintro e w2 ⟨rfl, hb_w2⟩
  obtain ⟨hc_w2, hf_w2⟩ := bcell hb_w2; have hs_w2 := hb_w2.size; (try simp only [World.size_alloc, World.size_setCell, World.size_drew, World.heap_drewN] at hs_w2)
  go_wp2
  go_ret
  exact ⟨rfl, (by repeat (first | exact Below.refl _ _ | assumption | (refine below_drewN ?_ _) | (refine Below.drew ?_) | (refine Below.alloc ?_ (by first | omega | (simp; omega) | simp) _) | (refine Below.setCell ?_ (by first | omega | (simp; omega) | simp) _) | (refine below_trans ?_ (by assumption) (by first | omega | (simp; omega) | simp))))⟩
set_option maxRecDepth 100000 in
set_option maxHeartbeats 4000000 in
theorem xline_start1 : Calls Tryd.prog 29 #[.agg #[.bool false, .int .i64 0, .int .u8 1, .int .i64 0, .int .i64 1]] w fun r w' => r = .returned (.string (bs (lineE ⟨false, 0, 1, 0, 1⟩))) ∧ Below w.heap.size w w' := by
  have e0 : nmE ⟨false, 0, 1, 0, 1⟩ = [115, 116, 97, 114, 116] := rfl
  have e1 : lineE ⟨false, 0, 1, 0, 1⟩ = nmE ⟨false, 0, 1, 0, 1⟩ := rfl
  rw [e1, e0]
  have hl : (⟨#[115, 116, 97, 114, 116]⟩ : ByteArray) = bs [115, 116, 97, 114, 116] := rfl
  clear e0 e1
  rw [← hl]
  clear hl
  go_enter Tryd.func29, Tryd.ntmps29
  go_wp2
  go_ret
  exact ⟨rfl, (by repeat (first | exact Below.refl _ _ | assumption | (refine below_drewN ?_ _) | (refine Below.drew ?_) | (refine Below.alloc ?_ (by first | omega | (simp; omega) | simp) _) | (refine Below.setCell ?_ (by first | omega | (simp; omega) | simp) _) | (refine below_trans ?_ (by assumption) (by first | omega | (simp; omega) | simp))))⟩
set_option maxRecDepth 100000 in
set_option maxHeartbeats 4000000 in
theorem xline_startn (n : Int) (n0 : 2 ≤ n) (n1 : n ≤ 4096) : Calls Tryd.prog 29 #[.agg #[.bool false, .int .i64 0, .int .u8 1, .int .i64 0, .int .i64 n]] w fun r w' => r = .returned (.string (bs (lineE ⟨false, 0, 1, 0, n⟩))) ∧ Below w.heap.size w w' := by
  have HT := Lib.hid fun (w : World) => digits_i (w := w) n (by omega) (by omega)
  have s2 := digs_size n.toNat
  have d1 : (n == 1) = false := by simp; omega
  have d2 : (n != 1) = true := by simp; omega
  have e0 : nmE ⟨false, 0, 1, 0, n⟩ = [115, 116, 97, 114, 116] := rfl
  have e1 : lineE ⟨false, 0, 1, 0, n⟩ = nmE ⟨false, 0, 1, 0, n⟩ ++ (star ++ digs n.toNat) := by unfold lineE; rw [if_neg (show ¬ n = 1 by omega), List.append_assoc]
  rw [e1, e0]
  rw [← bs_append, ← bs_append]
  have hl : (⟨#[115, 116, 97, 114, 116]⟩ : ByteArray) = bs [115, 116, 97, 114, 116] := rfl
  have hs : (⟨#[32, 42, 32]⟩ : ByteArray) = bs star := rfl
  clear e0 e1
  rw [← hs]
  rw [← hl]
  clear hl hs
  generalize bs (digs n.toNat) = DN at *
  have z2 : ¬ (9223372036854775807 < 3 + DN.size) := by omega
  have z3 : ¬ (9223372036854775807 < 5 + (3 + DN.size)) := by omega
  clear s2
  go_enter Tryd.func29, Tryd.ntmps29
  go_wp2_with fail
  go_at_call 43
  refine (HT.out _).mono ?_
  rintro e w1 ⟨rfl, hb_w1⟩
  obtain ⟨hc_w1, hf_w1⟩ := bcell hb_w1; have hz_w1_w_0 : w.heap.size < w1.heap.size := (by have hzz := hb_w1.size; (try simp only [World.size_alloc, World.size_setCell, World.size_drew, World.heap_drewN] at hzz); omega); have hs_w1 := hb_w1.size; (try simp only [World.size_alloc, World.size_setCell, World.size_drew, World.heap_drewN] at hs_w1)
  go_wp2
  go_ret
  exact ⟨rfl, (by repeat (first | exact Below.refl _ _ | assumption | (refine below_drewN ?_ _) | (refine Below.drew ?_) | (refine Below.alloc ?_ (by first | omega | (simp; omega) | simp) _) | (refine Below.setCell ?_ (by first | omega | (simp; omega) | simp) _) | (refine below_trans ?_ (by assumption) (by first | omega | (simp; omega) | simp))))⟩
set_option maxRecDepth 100000 in
set_option maxHeartbeats 4000000 in
theorem xline_scan1 (c : Int) (h0 : 0 ≤ c) (h1 : c < 4) : Calls Tryd.prog 29 #[.agg #[.bool false, .int .i64 0, .int .u8 2, .int .i64 c, .int .i64 1]] w fun r w' => r = .returned (.string (bs (lineE ⟨false, 0, 2, c, 1⟩))) ∧ Below w.heap.size w w' := by
  have HD := Lib.hid fun (w : World) => digits_i (w := w) c h0 (by omega)
  have s1 := digs_size c.toNat
  have k1 : (bs [115, 99, 97, 110, 32]).size = 5 := rfl
  have e0 : nmE ⟨false, 0, 2, c, 1⟩ = [115, 99, 97, 110, 32] ++ digs c.toNat := rfl
  have e1 : lineE ⟨false, 0, 2, c, 1⟩ = nmE ⟨false, 0, 2, c, 1⟩ := rfl
  rw [e1, e0]
  rw [← bs_append]
  have hl : (⟨#[115, 99, 97, 110, 32]⟩ : ByteArray) = bs [115, 99, 97, 110, 32] := rfl
  clear e0 e1
  rw [← hl]
  clear hl
  generalize bs (digs c.toNat) = DA at *
  have z1 : ¬ (9223372036854775807 < 5 + DA.size) := by omega
  have b0 : decide (c < 0) = false := decide_eq_false (by omega)
  clear k1 s1
  go_enter Tryd.func29, Tryd.ntmps29
  go_wp2_with fail
  go_at_call 43
  refine (HD.out _).mono ?_
  rintro e w1 ⟨rfl, hb_w1⟩
  obtain ⟨hc_w1, hf_w1⟩ := bcell hb_w1; have hz_w1_w_0 : w.heap.size < w1.heap.size := (by have hzz := hb_w1.size; (try simp only [World.size_alloc, World.size_setCell, World.size_drew, World.heap_drewN] at hzz); omega); have hs_w1 := hb_w1.size; (try simp only [World.size_alloc, World.size_setCell, World.size_drew, World.heap_drewN] at hs_w1)
  go_wp2
  go_ret
  exact ⟨rfl, (by repeat (first | exact Below.refl _ _ | assumption | (refine below_drewN ?_ _) | (refine Below.drew ?_) | (refine Below.alloc ?_ (by first | omega | (simp; omega) | simp) _) | (refine Below.setCell ?_ (by first | omega | (simp; omega) | simp) _) | (refine below_trans ?_ (by assumption) (by first | omega | (simp; omega) | simp))))⟩
set_option maxRecDepth 100000 in
set_option maxHeartbeats 4000000 in
theorem xline_scann (c : Int) (h0 : 0 ≤ c) (h1 : c < 4) (n : Int) (n0 : 2 ≤ n) (n1 : n ≤ 4096) : Calls Tryd.prog 29 #[.agg #[.bool false, .int .i64 0, .int .u8 2, .int .i64 c, .int .i64 n]] w fun r w' => r = .returned (.string (bs (lineE ⟨false, 0, 2, c, n⟩))) ∧ Below w.heap.size w w' := by
  have HD := Lib.hid fun (w : World) => digits_i (w := w) c h0 (by omega)
  have s1 := digs_size c.toNat
  have k1 : (bs [115, 99, 97, 110, 32]).size = 5 := rfl
  have HT := Lib.hid fun (w : World) => digits_i (w := w) n (by omega) (by omega)
  have s2 := digs_size n.toNat
  have d1 : (n == 1) = false := by simp; omega
  have d2 : (n != 1) = true := by simp; omega
  have e0 : nmE ⟨false, 0, 2, c, n⟩ = [115, 99, 97, 110, 32] ++ digs c.toNat := rfl
  have e1 : lineE ⟨false, 0, 2, c, n⟩ = nmE ⟨false, 0, 2, c, n⟩ ++ (star ++ digs n.toNat) := by unfold lineE; rw [if_neg (show ¬ n = 1 by omega), List.append_assoc]
  rw [e1, e0]
  rw [← bs_append, ← bs_append, ← bs_append]
  have hl : (⟨#[115, 99, 97, 110, 32]⟩ : ByteArray) = bs [115, 99, 97, 110, 32] := rfl
  have hs : (⟨#[32, 42, 32]⟩ : ByteArray) = bs star := rfl
  clear e0 e1
  rw [← hs]
  rw [← hl]
  clear hl hs
  generalize bs (digs c.toNat) = DA at *
  generalize bs (digs n.toNat) = DN at *
  have z1 : ¬ (9223372036854775807 < 5 + DA.size) := by omega
  have z2 : ¬ (9223372036854775807 < 3 + DN.size) := by omega
  have z3 : ¬ (9223372036854775807 < 5 + DA.size + (3 + DN.size)) := by omega
  have b0 : decide (c < 0) = false := decide_eq_false (by omega)
  clear k1 s1
  clear s2
  go_enter Tryd.func29, Tryd.ntmps29
  go_wp2_with fail
  go_at_call 43
  refine (HD.out _).mono ?_
  rintro e w1 ⟨rfl, hb_w1⟩
  obtain ⟨hc_w1, hf_w1⟩ := bcell hb_w1; have hz_w1_w_0 : w.heap.size < w1.heap.size := (by have hzz := hb_w1.size; (try simp only [World.size_alloc, World.size_setCell, World.size_drew, World.heap_drewN] at hzz); omega); have hs_w1 := hb_w1.size; (try simp only [World.size_alloc, World.size_setCell, World.size_drew, World.heap_drewN] at hs_w1)
  go_wp2_with fail
  go_at_call 43
  refine (HT.out _).mono ?_
  rintro e w2 ⟨rfl, hb_w2⟩
  obtain ⟨hc_w2, hf_w2⟩ := bcell hb_w2; have hs_w2 := hb_w2.size; (try simp only [World.size_alloc, World.size_setCell, World.size_drew, World.heap_drewN] at hs_w2)
  go_wp2
  go_ret
  exact ⟨rfl, (by repeat (first | exact Below.refl _ _ | assumption | (refine below_drewN ?_ _) | (refine Below.drew ?_) | (refine Below.alloc ?_ (by first | omega | (simp; omega) | simp) _) | (refine Below.setCell ?_ (by first | omega | (simp; omega) | simp) _) | (refine below_trans ?_ (by assumption) (by first | omega | (simp; omega) | simp))))⟩
set_option maxRecDepth 100000 in
set_option maxHeartbeats 4000000 in
theorem xline_work1 (c : Int) (h0 : 0 ≤ c) (h1 : c < 4) : Calls Tryd.prog 29 #[.agg #[.bool false, .int .i64 0, .int .u8 3, .int .i64 c, .int .i64 1]] w fun r w' => r = .returned (.string (bs (lineE ⟨false, 0, 3, c, 1⟩))) ∧ Below w.heap.size w w' := by
  have HD := Lib.hid fun (w : World) => digits_i (w := w) c h0 (by omega)
  have s1 := digs_size c.toNat
  have k1 : (bs [119, 111, 114, 107, 32]).size = 5 := rfl
  have e0 : nmE ⟨false, 0, 3, c, 1⟩ = [119, 111, 114, 107, 32] ++ digs c.toNat := rfl
  have e1 : lineE ⟨false, 0, 3, c, 1⟩ = nmE ⟨false, 0, 3, c, 1⟩ := rfl
  rw [e1, e0]
  rw [← bs_append]
  have hl : (⟨#[119, 111, 114, 107, 32]⟩ : ByteArray) = bs [119, 111, 114, 107, 32] := rfl
  clear e0 e1
  rw [← hl]
  clear hl
  generalize bs (digs c.toNat) = DA at *
  have z1 : ¬ (9223372036854775807 < 5 + DA.size) := by omega
  have b0 : decide (c < 0) = false := decide_eq_false (by omega)
  clear k1 s1
  go_enter Tryd.func29, Tryd.ntmps29
  go_wp2_with fail
  go_at_call 43
  refine (HD.out _).mono ?_
  rintro e w1 ⟨rfl, hb_w1⟩
  obtain ⟨hc_w1, hf_w1⟩ := bcell hb_w1; have hz_w1_w_0 : w.heap.size < w1.heap.size := (by have hzz := hb_w1.size; (try simp only [World.size_alloc, World.size_setCell, World.size_drew, World.heap_drewN] at hzz); omega); have hs_w1 := hb_w1.size; (try simp only [World.size_alloc, World.size_setCell, World.size_drew, World.heap_drewN] at hs_w1)
  go_wp2
  go_ret
  exact ⟨rfl, (by repeat (first | exact Below.refl _ _ | assumption | (refine below_drewN ?_ _) | (refine Below.drew ?_) | (refine Below.alloc ?_ (by first | omega | (simp; omega) | simp) _) | (refine Below.setCell ?_ (by first | omega | (simp; omega) | simp) _) | (refine below_trans ?_ (by assumption) (by first | omega | (simp; omega) | simp))))⟩
set_option maxRecDepth 100000 in
set_option maxHeartbeats 4000000 in
theorem xline_workn (c : Int) (h0 : 0 ≤ c) (h1 : c < 4) (n : Int) (n0 : 2 ≤ n) (n1 : n ≤ 4096) : Calls Tryd.prog 29 #[.agg #[.bool false, .int .i64 0, .int .u8 3, .int .i64 c, .int .i64 n]] w fun r w' => r = .returned (.string (bs (lineE ⟨false, 0, 3, c, n⟩))) ∧ Below w.heap.size w w' := by
  have HD := Lib.hid fun (w : World) => digits_i (w := w) c h0 (by omega)
  have s1 := digs_size c.toNat
  have k1 : (bs [119, 111, 114, 107, 32]).size = 5 := rfl
  have HT := Lib.hid fun (w : World) => digits_i (w := w) n (by omega) (by omega)
  have s2 := digs_size n.toNat
  have d1 : (n == 1) = false := by simp; omega
  have d2 : (n != 1) = true := by simp; omega
  have e0 : nmE ⟨false, 0, 3, c, n⟩ = [119, 111, 114, 107, 32] ++ digs c.toNat := rfl
  have e1 : lineE ⟨false, 0, 3, c, n⟩ = nmE ⟨false, 0, 3, c, n⟩ ++ (star ++ digs n.toNat) := by unfold lineE; rw [if_neg (show ¬ n = 1 by omega), List.append_assoc]
  rw [e1, e0]
  rw [← bs_append, ← bs_append, ← bs_append]
  have hl : (⟨#[119, 111, 114, 107, 32]⟩ : ByteArray) = bs [119, 111, 114, 107, 32] := rfl
  have hs : (⟨#[32, 42, 32]⟩ : ByteArray) = bs star := rfl
  clear e0 e1
  rw [← hs]
  rw [← hl]
  clear hl hs
  generalize bs (digs c.toNat) = DA at *
  generalize bs (digs n.toNat) = DN at *
  have z1 : ¬ (9223372036854775807 < 5 + DA.size) := by omega
  have z2 : ¬ (9223372036854775807 < 3 + DN.size) := by omega
  have z3 : ¬ (9223372036854775807 < 5 + DA.size + (3 + DN.size)) := by omega
  have b0 : decide (c < 0) = false := decide_eq_false (by omega)
  clear k1 s1
  clear s2
  go_enter Tryd.func29, Tryd.ntmps29
  go_wp2_with fail
  go_at_call 43
  refine (HD.out _).mono ?_
  rintro e w1 ⟨rfl, hb_w1⟩
  obtain ⟨hc_w1, hf_w1⟩ := bcell hb_w1; have hz_w1_w_0 : w.heap.size < w1.heap.size := (by have hzz := hb_w1.size; (try simp only [World.size_alloc, World.size_setCell, World.size_drew, World.heap_drewN] at hzz); omega); have hs_w1 := hb_w1.size; (try simp only [World.size_alloc, World.size_setCell, World.size_drew, World.heap_drewN] at hs_w1)
  go_wp2_with fail
  go_at_call 43
  refine (HT.out _).mono ?_
  rintro e w2 ⟨rfl, hb_w2⟩
  obtain ⟨hc_w2, hf_w2⟩ := bcell hb_w2; have hs_w2 := hb_w2.size; (try simp only [World.size_alloc, World.size_setCell, World.size_drew, World.heap_drewN] at hs_w2)
  go_wp2
  go_ret
  exact ⟨rfl, (by repeat (first | exact Below.refl _ _ | assumption | (refine below_drewN ?_ _) | (refine Below.drew ?_) | (refine Below.alloc ?_ (by first | omega | (simp; omega) | simp) _) | (refine Below.setCell ?_ (by first | omega | (simp; omega) | simp) _) | (refine below_trans ?_ (by assumption) (by first | omega | (simp; omega) | simp))))⟩
set_option maxRecDepth 100000 in
set_option maxHeartbeats 4000000 in
theorem xline_finish1 : Calls Tryd.prog 29 #[.agg #[.bool false, .int .i64 0, .int .u8 4, .int .i64 0, .int .i64 1]] w fun r w' => r = .returned (.string (bs (lineE ⟨false, 0, 4, 0, 1⟩))) ∧ Below w.heap.size w w' := by
  have e0 : nmE ⟨false, 0, 4, 0, 1⟩ = [102, 105, 110, 105, 115, 104] := rfl
  have e1 : lineE ⟨false, 0, 4, 0, 1⟩ = nmE ⟨false, 0, 4, 0, 1⟩ := rfl
  rw [e1, e0]
  have hl : (⟨#[102, 105, 110, 105, 115, 104]⟩ : ByteArray) = bs [102, 105, 110, 105, 115, 104] := rfl
  clear e0 e1
  rw [← hl]
  clear hl
  go_enter Tryd.func29, Tryd.ntmps29
  go_wp2
  go_ret
  exact ⟨rfl, (by repeat (first | exact Below.refl _ _ | assumption | (refine below_drewN ?_ _) | (refine Below.drew ?_) | (refine Below.alloc ?_ (by first | omega | (simp; omega) | simp) _) | (refine Below.setCell ?_ (by first | omega | (simp; omega) | simp) _) | (refine below_trans ?_ (by assumption) (by first | omega | (simp; omega) | simp))))⟩
set_option maxRecDepth 100000 in
set_option maxHeartbeats 4000000 in
theorem xline_finishn (n : Int) (n0 : 2 ≤ n) (n1 : n ≤ 4096) : Calls Tryd.prog 29 #[.agg #[.bool false, .int .i64 0, .int .u8 4, .int .i64 0, .int .i64 n]] w fun r w' => r = .returned (.string (bs (lineE ⟨false, 0, 4, 0, n⟩))) ∧ Below w.heap.size w w' := by
  have HT := Lib.hid fun (w : World) => digits_i (w := w) n (by omega) (by omega)
  have s2 := digs_size n.toNat
  have d1 : (n == 1) = false := by simp; omega
  have d2 : (n != 1) = true := by simp; omega
  have e0 : nmE ⟨false, 0, 4, 0, n⟩ = [102, 105, 110, 105, 115, 104] := rfl
  have e1 : lineE ⟨false, 0, 4, 0, n⟩ = nmE ⟨false, 0, 4, 0, n⟩ ++ (star ++ digs n.toNat) := by unfold lineE; rw [if_neg (show ¬ n = 1 by omega), List.append_assoc]
  rw [e1, e0]
  rw [← bs_append, ← bs_append]
  have hl : (⟨#[102, 105, 110, 105, 115, 104]⟩ : ByteArray) = bs [102, 105, 110, 105, 115, 104] := rfl
  have hs : (⟨#[32, 42, 32]⟩ : ByteArray) = bs star := rfl
  clear e0 e1
  rw [← hs]
  rw [← hl]
  clear hl hs
  generalize bs (digs n.toNat) = DN at *
  have z2 : ¬ (9223372036854775807 < 3 + DN.size) := by omega
  have z3 : ¬ (9223372036854775807 < 6 + (3 + DN.size)) := by omega
  clear s2
  go_enter Tryd.func29, Tryd.ntmps29
  go_wp2_with fail
  go_at_call 43
  refine (HT.out _).mono ?_
  rintro e w1 ⟨rfl, hb_w1⟩
  obtain ⟨hc_w1, hf_w1⟩ := bcell hb_w1; have hz_w1_w_0 : w.heap.size < w1.heap.size := (by have hzz := hb_w1.size; (try simp only [World.size_alloc, World.size_setCell, World.size_drew, World.heap_drewN] at hzz); omega); have hs_w1 := hb_w1.size; (try simp only [World.size_alloc, World.size_setCell, World.size_drew, World.heap_drewN] at hs_w1)
  go_wp2
  go_ret
  exact ⟨rfl, (by repeat (first | exact Below.refl _ _ | assumption | (refine below_drewN ?_ _) | (refine Below.drew ?_) | (refine Below.alloc ?_ (by first | omega | (simp; omega) | simp) _) | (refine Below.setCell ?_ (by first | omega | (simp; omega) | simp) _) | (refine below_trans ?_ (by assumption) (by first | omega | (simp; omega) | simp))))⟩
set_option maxRecDepth 100000 in
set_option maxHeartbeats 4000000 in
theorem xline_sweep1 : Calls Tryd.prog 29 #[.agg #[.bool false, .int .i64 0, .int .u8 5, .int .i64 0, .int .i64 1]] w fun r w' => r = .returned (.string (bs (lineE ⟨false, 0, 5, 0, 1⟩))) ∧ Below w.heap.size w w' := by
  have e0 : nmE ⟨false, 0, 5, 0, 1⟩ = [115, 119, 101, 101, 112] := rfl
  have e1 : lineE ⟨false, 0, 5, 0, 1⟩ = nmE ⟨false, 0, 5, 0, 1⟩ := rfl
  rw [e1, e0]
  have hl : (⟨#[115, 119, 101, 101, 112]⟩ : ByteArray) = bs [115, 119, 101, 101, 112] := rfl
  clear e0 e1
  rw [← hl]
  clear hl
  go_enter Tryd.func29, Tryd.ntmps29
  go_wp2
  go_ret
  exact ⟨rfl, (by repeat (first | exact Below.refl _ _ | assumption | (refine below_drewN ?_ _) | (refine Below.drew ?_) | (refine Below.alloc ?_ (by first | omega | (simp; omega) | simp) _) | (refine Below.setCell ?_ (by first | omega | (simp; omega) | simp) _) | (refine below_trans ?_ (by assumption) (by first | omega | (simp; omega) | simp))))⟩
set_option maxRecDepth 100000 in
set_option maxHeartbeats 4000000 in
theorem xline_sweepn (n : Int) (n0 : 2 ≤ n) (n1 : n ≤ 4096) : Calls Tryd.prog 29 #[.agg #[.bool false, .int .i64 0, .int .u8 5, .int .i64 0, .int .i64 n]] w fun r w' => r = .returned (.string (bs (lineE ⟨false, 0, 5, 0, n⟩))) ∧ Below w.heap.size w w' := by
  have HT := Lib.hid fun (w : World) => digits_i (w := w) n (by omega) (by omega)
  have s2 := digs_size n.toNat
  have d1 : (n == 1) = false := by simp; omega
  have d2 : (n != 1) = true := by simp; omega
  have e0 : nmE ⟨false, 0, 5, 0, n⟩ = [115, 119, 101, 101, 112] := rfl
  have e1 : lineE ⟨false, 0, 5, 0, n⟩ = nmE ⟨false, 0, 5, 0, n⟩ ++ (star ++ digs n.toNat) := by unfold lineE; rw [if_neg (show ¬ n = 1 by omega), List.append_assoc]
  rw [e1, e0]
  rw [← bs_append, ← bs_append]
  have hl : (⟨#[115, 119, 101, 101, 112]⟩ : ByteArray) = bs [115, 119, 101, 101, 112] := rfl
  have hs : (⟨#[32, 42, 32]⟩ : ByteArray) = bs star := rfl
  clear e0 e1
  rw [← hs]
  rw [← hl]
  clear hl hs
  generalize bs (digs n.toNat) = DN at *
  have z2 : ¬ (9223372036854775807 < 3 + DN.size) := by omega
  have z3 : ¬ (9223372036854775807 < 5 + (3 + DN.size)) := by omega
  clear s2
  go_enter Tryd.func29, Tryd.ntmps29
  go_wp2_with fail
  go_at_call 43
  refine (HT.out _).mono ?_
  rintro e w1 ⟨rfl, hb_w1⟩
  obtain ⟨hc_w1, hf_w1⟩ := bcell hb_w1; have hz_w1_w_0 : w.heap.size < w1.heap.size := (by have hzz := hb_w1.size; (try simp only [World.size_alloc, World.size_setCell, World.size_drew, World.heap_drewN] at hzz); omega); have hs_w1 := hb_w1.size; (try simp only [World.size_alloc, World.size_setCell, World.size_drew, World.heap_drewN] at hs_w1)
  go_wp2
  go_ret
  exact ⟨rfl, (by repeat (first | exact Below.refl _ _ | assumption | (refine below_drewN ?_ _) | (refine Below.drew ?_) | (refine Below.alloc ?_ (by first | omega | (simp; omega) | simp) _) | (refine Below.setCell ?_ (by first | omega | (simp; omega) | simp) _) | (refine below_trans ?_ (by assumption) (by first | omega | (simp; omega) | simp))))⟩
set_option maxRecDepth 100000 in
set_option maxHeartbeats 4000000 in
theorem xline_run1 : Calls Tryd.prog 29 #[.agg #[.bool false, .int .i64 0, .int .u8 6, .int .i64 0, .int .i64 1]] w fun r w' => r = .returned (.string (bs (lineE ⟨false, 0, 6, 0, 1⟩))) ∧ Below w.heap.size w w' := by
  have e0 : nmE ⟨false, 0, 6, 0, 1⟩ = [114, 117, 110] := rfl
  have e1 : lineE ⟨false, 0, 6, 0, 1⟩ = nmE ⟨false, 0, 6, 0, 1⟩ := rfl
  rw [e1, e0]
  have hl : (⟨#[114, 117, 110]⟩ : ByteArray) = bs [114, 117, 110] := rfl
  clear e0 e1
  rw [← hl]
  clear hl
  go_enter Tryd.func29, Tryd.ntmps29
  go_wp2
  go_ret
  exact ⟨rfl, (by repeat (first | exact Below.refl _ _ | assumption | (refine below_drewN ?_ _) | (refine Below.drew ?_) | (refine Below.alloc ?_ (by first | omega | (simp; omega) | simp) _) | (refine Below.setCell ?_ (by first | omega | (simp; omega) | simp) _) | (refine below_trans ?_ (by assumption) (by first | omega | (simp; omega) | simp))))⟩
set_option maxRecDepth 100000 in
set_option maxHeartbeats 4000000 in
theorem xline_runn (n : Int) (n0 : 2 ≤ n) (n1 : n ≤ 4096) : Calls Tryd.prog 29 #[.agg #[.bool false, .int .i64 0, .int .u8 6, .int .i64 0, .int .i64 n]] w fun r w' => r = .returned (.string (bs (lineE ⟨false, 0, 6, 0, n⟩))) ∧ Below w.heap.size w w' := by
  have HT := Lib.hid fun (w : World) => digits_i (w := w) n (by omega) (by omega)
  have s2 := digs_size n.toNat
  have d1 : (n == 1) = false := by simp; omega
  have d2 : (n != 1) = true := by simp; omega
  have e0 : nmE ⟨false, 0, 6, 0, n⟩ = [114, 117, 110] := rfl
  have e1 : lineE ⟨false, 0, 6, 0, n⟩ = nmE ⟨false, 0, 6, 0, n⟩ ++ (star ++ digs n.toNat) := by unfold lineE; rw [if_neg (show ¬ n = 1 by omega), List.append_assoc]
  rw [e1, e0]
  rw [← bs_append, ← bs_append]
  have hl : (⟨#[114, 117, 110]⟩ : ByteArray) = bs [114, 117, 110] := rfl
  have hs : (⟨#[32, 42, 32]⟩ : ByteArray) = bs star := rfl
  clear e0 e1
  rw [← hs]
  rw [← hl]
  clear hl hs
  generalize bs (digs n.toNat) = DN at *
  have z2 : ¬ (9223372036854775807 < 3 + DN.size) := by omega
  have z3 : ¬ (9223372036854775807 < 3 + (3 + DN.size)) := by omega
  clear s2
  go_enter Tryd.func29, Tryd.ntmps29
  go_wp2_with fail
  go_at_call 43
  refine (HT.out _).mono ?_
  rintro e w1 ⟨rfl, hb_w1⟩
  obtain ⟨hc_w1, hf_w1⟩ := bcell hb_w1; have hz_w1_w_0 : w.heap.size < w1.heap.size := (by have hzz := hb_w1.size; (try simp only [World.size_alloc, World.size_setCell, World.size_drew, World.heap_drewN] at hzz); omega); have hs_w1 := hb_w1.size; (try simp only [World.size_alloc, World.size_setCell, World.size_drew, World.heap_drewN] at hs_w1)
  go_wp2
  go_ret
  exact ⟨rfl, (by repeat (first | exact Below.refl _ _ | assumption | (refine below_drewN ?_ _) | (refine Below.drew ?_) | (refine Below.alloc ?_ (by first | omega | (simp; omega) | simp) _) | (refine Below.setCell ?_ (by first | omega | (simp; omega) | simp) _) | (refine below_trans ?_ (by assumption) (by first | omega | (simp; omega) | simp))))⟩
theorem xline_any (e : Ev) (h : okE e = true) : Calls Tryd.prog 29 #[evv e] w fun r w' => r = .returned (.string (bs (lineE e))) ∧ Below w.heap.size w w' := by
  obtain ⟨th, a, b, c, n⟩ := e
  unfold evv
  simp only
  cases th
  · obtain ⟨n1, n2, rfl, hb⟩ := (okE_tsk a b c n).1 h
    by_cases hn : n = 1
    · subst hn
      rcases hb with ⟨rfl | rfl, c0, c1⟩ | ⟨rfl | rfl | rfl | rfl, rfl⟩
      · exact xline_scan1 c c0 c1
      · exact xline_work1 c c0 c1
      · exact xline_start1
      · exact xline_finish1
      · exact xline_sweep1
      · exact xline_run1
    · rcases hb with ⟨rfl | rfl, c0, c1⟩ | ⟨rfl | rfl | rfl | rfl, rfl⟩
      · exact xline_scann c c0 c1 n (by omega) n2
      · exact xline_workn c c0 c1 n (by omega) n2
      · exact xline_startn n (by omega) n2
      · exact xline_finishn n (by omega) n2
      · exact xline_sweepn n (by omega) n2
      · exact xline_runn n (by omega) n2
  · obtain ⟨n1, n2, a0, a1, rfl, rfl⟩ := (okE_thr a b c n).1 h
    by_cases hn : n = 1
    · subst hn
      exact xline_t1 a a0 a1
    · exact xline_tn a a0 a1 n (by omega) n2
end
end Go.Proofs.YtklbamkafldagaaDoor
