/- Contracts: the questions whose answers the document gives (lives of layer 3); the program and the document's own answers agree. -/
import Derived.Test.YtcokfdgbgeeabaaP3
import Derived.Test.YtcokfdgbgeeabaaP4
namespace Go.Proofs.Ytcokfdgbgeeabaa
open Go.RowKit
set_option linter.unusedVariables false
set_option linter.unusedSimpArgs false

/-- pages that are named: some words, of which a fact is kept -/
def GotT (w : World) (n : Int) (ws : List Nat) (i why : Int) (e : Ending) (w' : World) : Prop :=
  ∃ us A cap, Hid (us = ws) ∧ e = .returned (.tuple #[.agg #[.int .i64 n, .slice A us.length cap], .int .i64 i, .int .i64 why]) ∧ Own w' w.heap.size A us ∧ Below w.heap.size w w'
theorem FreshT.got {w : World} {n : Int} {ws vs : List Nat} {i why : Int} {e : Ending} {w' : World} (h : FreshT w n ws i why e w') (hv : ws = vs) : GotT w n vs i why e w' := by
  obtain ⟨A, cap, h1, h2, h3⟩ := h
  exact ⟨ws, A, cap, hv, h1, h2, h3⟩
theorem right4 (x : Nat) (hx : x < 16) : Right 4 [x] := ⟨by omega, by omega, rfl, fun i h1 h2 => by
  simp at h1 h2
  unfold tb
  rw [show i / 64 = 0 by omega, show i % 64 = i by omega]
  show x.testBit i = false
  exact Nat.testBit_lt_two_pow (Nat.lt_of_lt_of_le hx (show 2 ^ 4 ≤ 2 ^ i from Nat.pow_le_pow_right (by omega) (by omega)))⟩
theorem run4a : RunP [0] 1 4 0 0 := .inl ⟨rfl, 0, by omega, by decide, fun j g => by
  obtain rfl : j = 0 := by omega
  decide, by omega⟩
theorem run4b : RunP [1] 2 4 1 0 := .inl ⟨rfl, 2, by omega, by decide, fun j g => by
  have h : j = 0 ∨ j = 1 ∨ j = 2 := by omega
  rcases h with rfl | rfl | rfl <;> decide, by omega⟩
theorem run4c : RunP [6] 2 4 0 3 := .inr ⟨rfl, rfl, fun j g => by
  have h : j = 0 ∨ j = 1 ∨ j = 2 ∨ j = 3 ∨ j = 4 := by omega
  rcases h with rfl | rfl | rfl | rfl | rfl <;> decide⟩

set_option maxHeartbeats 2000000 in
theorem plives_any (w : World) : Calls Try.prog 15 #[] w fun e w' => e = .returned (.bool true) ∧ Below w.heap.size w w' := by
  go_enter Try.func15, Try.ntmps15
  go_wp2_with fail
  go_at_call 21
  refine ((pmake_ok 4 _ (by omega) (by omega)).mono fun _ _ h => h.got (vs := [0]) rfl).mono ?_
  rintro e w1 ⟨u1, A1, cap1, hu1, rfl, ho1, hb_w1⟩
  obtain ⟨hc_w1, hf_w1⟩ := bcell hb_w1; have hs_w1 := hb_w1.size; (try simp only [World.size_alloc, World.size_setCell, World.size_drew, World.heap_drewN] at hs_w1)
  have hR1 : Hid (Right 4 u1) := Lib.hid (by rw [hu1.out]; exact right4 0 (by omega))
  have hP1 : Hid (RunP u1 1 4 0 0) := Lib.hid (by rw [hu1.out]; exact run4a)
  go_wp2_with fail
  go_at_call 11
  refine ((take_fit cap1 1 0 (ho1.row.later (by repeat (first | exact Below.refl _ _ | assumption | (refine below_drewN ?_ _) | (refine Below.drew ?_) | (refine Below.alloc ?_ (by first | omega | (simp; omega) | simp) _) | (refine Below.setCell ?_ (by first | omega | (simp; omega) | simp) _) | (refine below_trans ?_ (by assumption) (by first | omega | (simp; omega) | simp))))) hR1.out (by omega) (by omega) hP1.out).mono fun _ _ h => h.got (vs := [1]) (by rw [hu1.out]; decide)).mono ?_
  rintro e w2 ⟨u2, A2, cap2, hu2, rfl, ho2, hb_w2⟩
  obtain ⟨hc_w2, hf_w2⟩ := bcell hb_w2; have hz_w2_w1_0 : w1.heap.size < w2.heap.size := (by have hzz := hb_w2.size; (try simp only [World.size_alloc, World.size_setCell, World.size_drew, World.heap_drewN] at hzz); omega); have hs_w2 := hb_w2.size; (try simp only [World.size_alloc, World.size_setCell, World.size_drew, World.heap_drewN] at hs_w2)
  have hR2 : Hid (Right 4 u2) := Lib.hid (by rw [hu2.out]; exact right4 1 (by omega))
  have hP2 : Hid (RunP u2 2 4 1 0) := Lib.hid (by rw [hu2.out]; exact run4b)
  have t2 : Two w2 w1.heap.size _ _ := (Two.new w1 _ _ _).below hb_w2 (by first | omega | (simp; omega) | simp)
  obtain ⟨q0_w2, q1_w2, _⟩ := id t2
  have s0_w2 : ∀ V, (w2.setCell ⟨w1.heap.size, 0, none⟩ V).cell? ⟨w1.heap.size, 0, none⟩ = some V := fun V => World.cell?_setCell_same _ _ _ q0_w2
  have s1_w2 : ∀ V V', ((w2.setCell ⟨w1.heap.size, 0, none⟩ V).setCell ⟨w1.heap.size, 1, none⟩ V').cell? ⟨w1.heap.size, 1, none⟩ = some V' := fun V V' => (set_two V V' q0_w2 q1_w2).2
  have s2_w2 : ∀ V V', ((w2.setCell ⟨w1.heap.size, 0, none⟩ V).setCell ⟨w1.heap.size, 1, none⟩ V').cell? ⟨w1.heap.size, 0, none⟩ = some V := fun V V' => (set_two V V' q0_w2 q1_w2).1
  have r2 := (ho2.two (g := w1.heap.size) (u := .int .i64 4) (v := .slice A2 u2.length cap2) (by first | omega | (simp; omega) | simp))
  go_wp2_with fail
  go_at_call 11
  refine ((take_fit cap2 2 1 r2.row hR2.out (by omega) (by omega) hP2.out).mono fun _ _ h => h.got (vs := [7]) (by rw [hu2.out]; decide)).mono ?_
  rintro e w3 ⟨u3, A3, cap3, hu3, rfl, ho3, hb_w3⟩
  obtain ⟨hc_w3, hf_w3⟩ := bcell hb_w3; have hz_w3_w1_0 : w1.heap.size < w3.heap.size := (by have hzz := hb_w3.size; (try simp only [World.size_alloc, World.size_setCell, World.size_drew, World.heap_drewN] at hzz); omega); have hs_w3 := hb_w3.size; (try simp only [World.size_alloc, World.size_setCell, World.size_drew, World.heap_drewN] at hs_w3)
  have hR3 : Hid (Right 4 u3) := Lib.hid (by rw [hu3.out]; exact right4 7 (by omega))
  have t3 := (t2.set_ (.int .i64 4) (.slice A2 u2.length cap2)).below hb_w3 (by first | omega | (simp; omega) | simp)
  obtain ⟨q0_w3, q1_w3, _⟩ := id t3
  have s0_w3 : ∀ V, (w3.setCell ⟨w1.heap.size, 0, none⟩ V).cell? ⟨w1.heap.size, 0, none⟩ = some V := fun V => World.cell?_setCell_same _ _ _ q0_w3
  have s1_w3 : ∀ V V', ((w3.setCell ⟨w1.heap.size, 0, none⟩ V).setCell ⟨w1.heap.size, 1, none⟩ V').cell? ⟨w1.heap.size, 1, none⟩ = some V' := fun V V' => (set_two V V' q0_w3 q1_w3).2
  have s2_w3 : ∀ V V', ((w3.setCell ⟨w1.heap.size, 0, none⟩ V).setCell ⟨w1.heap.size, 1, none⟩ V').cell? ⟨w1.heap.size, 0, none⟩ = some V := fun V V' => (set_two V V' q0_w3 q1_w3).1
  have r3 := (ho3.two (g := w1.heap.size) (u := .int .i64 4) (v := .slice A3 u3.length cap3) (by first | omega | (simp; omega) | simp))
  have hG3 : Hid (∀ j : Nat, (0 : Int) ≤ j → (j : Int) < 0 + 1 → tb u3 j = true) := Lib.hid (by
    rw [hu3.out]; intro j _ g
    obtain rfl : j = 0 := by omega
    decide)
  go_wp2_with fail
  go_at_call 13
  refine ((give_ok cap3 0 1 r3.row hR3.out (by omega) (by omega) (by omega) hG3.out).mono fun _ _ h => h.got (vs := [6]) (by rw [hu3.out]; decide)).mono ?_
  rintro e w4 ⟨u4, A4, cap4, hu4, rfl, ho4, hb_w4⟩
  obtain ⟨hc_w4, hf_w4⟩ := bcell hb_w4; have hz_w4_w1_0 : w1.heap.size < w4.heap.size := (by have hzz := hb_w4.size; (try simp only [World.size_alloc, World.size_setCell, World.size_drew, World.heap_drewN] at hzz); omega); have hs_w4 := hb_w4.size; (try simp only [World.size_alloc, World.size_setCell, World.size_drew, World.heap_drewN] at hs_w4)
  have hR4 : Hid (Right 4 u4) := Lib.hid (by rw [hu4.out]; exact right4 6 (by omega))
  have hP4 : Hid (RunP u4 2 4 0 3) := Lib.hid (by rw [hu4.out]; exact run4c)
  have t4 := (t3.set_ (.int .i64 4) (.slice A3 u3.length cap3)).below hb_w4 (by first | omega | (simp; omega) | simp)
  obtain ⟨q0_w4, q1_w4, _⟩ := id t4
  have s0_w4 : ∀ V, (w4.setCell ⟨w1.heap.size, 0, none⟩ V).cell? ⟨w1.heap.size, 0, none⟩ = some V := fun V => World.cell?_setCell_same _ _ _ q0_w4
  have s1_w4 : ∀ V V', ((w4.setCell ⟨w1.heap.size, 0, none⟩ V).setCell ⟨w1.heap.size, 1, none⟩ V').cell? ⟨w1.heap.size, 1, none⟩ = some V' := fun V V' => (set_two V V' q0_w4 q1_w4).2
  have s2_w4 : ∀ V V', ((w4.setCell ⟨w1.heap.size, 0, none⟩ V).setCell ⟨w1.heap.size, 1, none⟩ V').cell? ⟨w1.heap.size, 0, none⟩ = some V := fun V V' => (set_two V V' q0_w4 q1_w4).1
  have r4 := (ho4.two (g := w1.heap.size) (u := .int .i64 4) (v := .slice A4 u4.length cap4) (by first | omega | (simp; omega) | simp))
  have t4' := t4.set_ (.int .i64 4) (.slice A4 u4.length cap4)
  go_wp2_with fail
  go_at_call 11
  refine (take_full cap4 2 r4.row hR4.out (by omega) (by omega) hP4.out).mono ?_
  rintro e w5 ⟨A5, cap5, rfl, ho5, hb_w5⟩
  obtain ⟨hc_w5, hf_w5⟩ := bcell hb_w5; have hz_w5_w1_0 : w1.heap.size < w5.heap.size := (by have hzz := hb_w5.size; (try simp only [World.size_alloc, World.size_setCell, World.size_drew, World.heap_drewN] at hzz); omega); have hs_w5 := hb_w5.size; (try simp only [World.size_alloc, World.size_setCell, World.size_drew, World.heap_drewN] at hs_w5)
  have t5 := t4'.below hb_w5 (by first | omega | (simp; omega) | simp)
  have r5 := r4.later hb_w5
  obtain ⟨q0_w5, q1_w5, _⟩ := id t5
  go_wp2_with fail
  go_at_call 17
  refine (free_ok cap4 (r5.later (by repeat (first | exact Below.refl _ _ | assumption | (refine below_drewN ?_ _) | (refine Below.drew ?_) | (refine Below.alloc ?_ (by first | omega | (simp; omega) | simp) _) | (refine Below.setCell ?_ (by first | omega | (simp; omega) | simp) _) | (refine below_trans ?_ (by assumption) (by first | omega | (simp; omega) | simp))))).row hR4.out).mono ?_
  rintro e w6 ⟨rfl, hb_w6⟩
  obtain ⟨hc_w6, hf_w6⟩ := bcell hb_w6; have hz_w6_w1_0 : w1.heap.size < w6.heap.size := (by have hzz := hb_w6.size; (try simp only [World.size_alloc, World.size_setCell, World.size_drew, World.heap_drewN] at hzz); omega); have hs_w6 := hb_w6.size; (try simp only [World.size_alloc, World.size_setCell, World.size_drew, World.heap_drewN] at hs_w6)
  have t6 := (t5.old (by first | omega | (simp; omega) | simp) (.cells #[.int .i64 4, .slice A5 u4.length cap5] 26)).below hb_w6 (by first | omega | (simp; omega) | simp)
  have r6 := (r5.later ((Below.refl w5.heap.size w5).alloc (Nat.le_refl _) (.cells #[.int .i64 4, .slice A5 u4.length cap5] 26))).later hb_w6
  obtain ⟨q0_w6, q1_w6, _⟩ := id t6
  rw [show (4 : Int) - (countTo u4 (4 : Int).toNat : Nat) = 2 by rw [hu4.out]; decide]
  go_wp2_with fail
  go_at_call 19
  refine (longest_ok cap4 r6.row hR4.out).mono ?_
  rintro e w7 ⟨rfl, hb_w7⟩
  obtain ⟨hc_w7, hf_w7⟩ := bcell hb_w7; have hz_w7_w1_0 : w1.heap.size < w7.heap.size := (by have hzz := hb_w7.size; (try simp only [World.size_alloc, World.size_setCell, World.size_drew, World.heap_drewN] at hzz); omega); have hs_w7 := hb_w7.size; (try simp only [World.size_alloc, World.size_setCell, World.size_drew, World.heap_drewN] at hs_w7)
  have t7 := t6.below hb_w7 (by first | omega | (simp; omega) | simp)
  have r7 := r6.later hb_w7
  obtain ⟨q0_w7, q1_w7, _⟩ := id t7
  rw [show best u4 (4 : Int).toNat = 1 by rw [hu4.out]; decide]
  have hG4 : Hid (∃ j : Nat, (0 : Int) ≤ j ∧ (j : Int) < 0 + 1 ∧ tb u4 j = false) := Lib.hid (by
    rw [hu4.out]; exact ⟨0, by omega, by omega, by decide⟩)
  go_wp2_with fail
  go_at_call 13
  refine (give_state cap4 0 1 r7.row hR4.out (by omega) (by omega) (by omega) hG4.out).mono ?_
  rintro e w8 ⟨A8, cap8, rfl, ho8, hb_w8⟩
  obtain ⟨hc_w8, hf_w8⟩ := bcell hb_w8; have hz_w8_w1_0 : w1.heap.size < w8.heap.size := (by have hzz := hb_w8.size; (try simp only [World.size_alloc, World.size_setCell, World.size_drew, World.heap_drewN] at hzz); omega); have hs_w8 := hb_w8.size; (try simp only [World.size_alloc, World.size_setCell, World.size_drew, World.heap_drewN] at hs_w8)
  go_wp2
  go_ret
  exact ⟨rfl, (by repeat (first | exact Below.refl _ _ | assumption | (refine below_drewN ?_ _) | (refine Below.drew ?_) | (refine Below.alloc ?_ (by first | omega | (simp; omega) | simp) _) | (refine Below.setCell ?_ (by first | omega | (simp; omega) | simp) _) | (refine below_trans ?_ (by assumption) (by first | omega | (simp; omega) | simp))))⟩

theorem FitP.zero {ws : List Nat} {c n i : Int} (h : FitP ws c n i 0) : 0 ≤ i ∧ i + c ≤ n := by
  rcases h with ⟨_, h1, h2, _⟩ | ⟨h, _⟩
  · exact ⟨h1, h2⟩
  · cases h
theorem FitP.three {ws : List Nat} {c n i : Int} (h : FitP ws c n i 3) : i = 0 := by
  rcases h with ⟨h, _⟩ | ⟨_, h1, _⟩
  · cases h
  · exact h1
theorem run_why {ws : List Nat} {c n i why : Int} (h : RunP ws c n i why) : why = 0 ∨ (why = 3 ∧ i = 0) := by
  rcases h with ⟨h, _⟩ | ⟨h, h1, _⟩
  · exact .inl h
  · exact .inr ⟨h, h1⟩
/-- a run is taken: what is told, whatever pages are -/
theorem ptake_both (n c : Int) (ws : List Nat) (h63 : c ≤ 9223372036854775807) : ∃ (N : Int) (us : List Nat) (i why : Int), (∀ (w : World) (A : Option Addr) (cap : Nat), Row w w.heap.size A ws → Calls Try.prog 11 #[.agg #[.int .i64 n, .slice A ws.length cap], .int .i64 c] w fun e w' => FreshT w N us i why e w') ∧
    (∀ (w : World) (A : Option Addr) (cap : Nat), Row w w.heap.size A ws → Calls Try.prog 12 #[.agg #[.int .i64 n, .slice A ws.length cap], .int .i64 c] w fun e w' => FreshT w N us i why e w') ∧ us.length ≤ 64 := by
  by_cases h : Right n ws
  · have hn := h.1
    by_cases h1 : 1 ≤ c
    · obtain ⟨i, why, hp⟩ := run_ex ws c h1 n.toNat
      rw [show ((n.toNat : Nat) : Int) = n by omega] at hp
      have hf := hp.fit h1
      rcases run_why hp with rfl | ⟨rfl, rfl⟩
      · refine ⟨n, _, i, 0, fun w A cap hr => take_fit cap c i hr h h1 h63 hp, fun w A cap hr => (rtake_in cap c hr h h1 (by have := hf.zero; omega)).mono fun e w' hh => ?_, by rw [length_fillW]; exact right_len h⟩
        rcases hh with ⟨i', hi', hh⟩ | ⟨hi', hh⟩
        · obtain ⟨rfl, _⟩ := hi'.one hf
          exact hh
        · obtain ⟨_, h3⟩ := hi'.one hf
          cases h3
      · refine ⟨n, ws, 0, 6, fun w A cap hr => take_full cap c hr h h1 h63 hp, fun w A cap hr => ?_, right_len h⟩
        by_cases hc : c ≤ n
        · refine (rtake_in cap c hr h h1 hc).mono fun e w' hh => ?_
          rcases hh with ⟨i', hi', hh⟩ | ⟨hi', hh⟩
          · obtain ⟨_, h3⟩ := hi'.one hf
            cases h3
          · exact hh
        · exact rtake_long cap c hr h h1 (by omega)
    · exact ⟨n, ws, 0, 1, fun w A cap hr => take_out cap c hr h (by omega), fun w A cap hr => rtake_out cap c hr h (by omega), right_len h⟩
  · exact ⟨0, [], 0, 2, fun w A cap hr => take_bad cap c hr h, fun w A cap hr => rtake_bad cap c hr h, Nat.zero_le _⟩
theorem pgive_both (n a c : Int) (ws : List Nat) (h63 : a ≤ 9223372036854775807) : ∃ (N : Int) (us : List Nat) (why : Int), (∀ (w : World) (A : Option Addr) (cap : Nat), Row w w.heap.size A ws → Calls Try.prog 13 #[.agg #[.int .i64 n, .slice A ws.length cap], .int .i64 a, .int .i64 c] w fun e w' => Fresh w N us why e w') ∧
    (∀ (w : World) (A : Option Addr) (cap : Nat), Row w w.heap.size A ws → Calls Try.prog 14 #[.agg #[.int .i64 n, .slice A ws.length cap], .int .i64 a, .int .i64 c] w fun e w' => Fresh w N us why e w') ∧ us.length ≤ 64 := by
  by_cases h : Right n ws
  · have hn := h.1
    by_cases h1 : 0 ≤ a ∧ 1 ≤ c ∧ c ≤ n - a
    · obtain ⟨h0, h1, h2⟩ := h1
      obtain ⟨a, rfl⟩ := Int.eq_ofNat_of_zero_le h0
      by_cases hx : ∀ j : Nat, (a : Int) ≤ j → (j : Int) < a + c → tb ws j = true
      · refine ⟨n, _, 0, fun w A cap hr => give_ok cap a c hr h h0 h1 h2 hx, fun w A cap hr => (rgive_in cap a c hr h h1 h2).mono fun e w' hh => ?_, by rw [length_fillW]; exact right_len h⟩
        rcases hh with ⟨_, hh⟩ | ⟨⟨j, j1, j2, j3⟩, hh⟩
        · exact hh
        · rw [hx j j1 j2] at j3
          cases j3
      · have hx2 : ∃ j : Nat, (a : Int) ≤ j ∧ (j : Int) < a + c ∧ tb ws j = false := by
          apply Classical.byContradiction
          intro hc
          refine hx fun j j1 j2 => ?_
          cases hb : tb ws j
          · exact absurd ⟨j, j1, j2, hb⟩ hc
          · rfl
        refine ⟨n, ws, 5, fun w A cap hr => give_state cap a c hr h h0 h1 h2 hx2, fun w A cap hr => (rgive_in cap a c hr h h1 h2).mono fun e w' hh => ?_, right_len h⟩
        rcases hh with ⟨hy, hh⟩ | ⟨_, hh⟩
        · exact absurd hy hx
        · exact hh
    · exact ⟨n, ws, 1, fun w A cap hr => give_out cap a c hr h h63 h1, fun w A cap hr => rgive_out cap a c hr h h1, right_len h⟩
  · exact ⟨0, [], 2, fun w A cap hr => give_bad cap a c hr h, fun w A cap hr => rgive_bad cap a c hr h, Nat.zero_le _⟩
theorem pfree_both (n : Int) (ws : List Nat) : ∃ (k why : Int), (∀ (w : World) (A : Option Addr) (cap : Nat), Row w w.heap.size A ws → Calls Try.prog 17 #[.agg #[.int .i64 n, .slice A ws.length cap]] w fun e w' => e = .returned (.tuple #[.int .i64 k, .int .i64 why]) ∧ Below w.heap.size w w') ∧
    (∀ (w : World) (A : Option Addr) (cap : Nat), Row w w.heap.size A ws → Calls Try.prog 18 #[.agg #[.int .i64 n, .slice A ws.length cap]] w fun e w' => e = .returned (.tuple #[.int .i64 k, .int .i64 why]) ∧ Below w.heap.size w w') := by
  by_cases h : Right n ws
  · exact ⟨_, 0, fun w A cap hr => free_ok cap hr h, fun w A cap hr => rpcount_ok cap hr h⟩
  · exact ⟨0, 2, fun w A cap hr => free_bad cap hr h, fun w A cap hr => rpcount_bad cap hr h⟩
theorem plong_both (n : Int) (ws : List Nat) : ∃ (k why : Int), (∀ (w : World) (A : Option Addr) (cap : Nat), Row w w.heap.size A ws → Calls Try.prog 19 #[.agg #[.int .i64 n, .slice A ws.length cap]] w fun e w' => e = .returned (.tuple #[.int .i64 k, .int .i64 why]) ∧ Below w.heap.size w w') ∧
    (∀ (w : World) (A : Option Addr) (cap : Nat), Row w w.heap.size A ws → Calls Try.prog 20 #[.agg #[.int .i64 n, .slice A ws.length cap]] w fun e w' => e = .returned (.tuple #[.int .i64 k, .int .i64 why]) ∧ Below w.heap.size w w') := by
  by_cases h : Right n ws
  · exact ⟨_, 0, fun w A cap hr => longest_ok cap hr h, fun w A cap hr => rlongest_ok cap hr h⟩
  · exact ⟨0, 2, fun w A cap hr => longest_bad cap hr h, fun w A cap hr => rlongest_bad cap hr h⟩
theorem pmake_both (n : Int) : ∃ (N : Int) (us : List Nat) (why : Int), (∀ w, Calls Try.prog 21 #[.int .i64 n] w fun e w' => Fresh w N us why e w') ∧ (∀ w, Calls Try.prog 22 #[.int .i64 n] w fun e w' => Fresh w N us why e w') ∧ us.length ≤ 64 := by
  by_cases h : 0 ≤ n ∧ n ≤ 4096
  · exact ⟨n, wordsN n, 0, fun w => pmake_ok n w h.1 h.2, fun w => rpmake_ok n w h.1 h.2, right_len (right_wordsN n h.1 h.2)⟩
  · exact ⟨0, [], 1, fun w => pmake_bad n w h, fun w => rpmake_bad n w h, Nat.zero_le _⟩
theorem pcheck_both (n : Int) (ws : List Nat) : ∃ why : Int, (∀ (w : World) (A : Option Addr) (cap : Nat), Row w w.heap.size A ws → Calls Try.prog 23 #[.agg #[.int .i64 n, .slice A ws.length cap]] w fun e w' => e = .returned (.int .i64 why) ∧ Below w.heap.size w w') ∧
    (∀ (w : World) (A : Option Addr) (cap : Nat), Row w w.heap.size A ws → Calls Try.prog 24 #[.agg #[.int .i64 n, .slice A ws.length cap]] w fun e w' => e = .returned (.int .i64 why) ∧ Below w.heap.size w w') := by
  by_cases h : Right n ws
  · exact ⟨0, fun w A cap hr => pcheck_ok cap hr h, fun w A cap hr => rpcheck_ok cap hr h⟩
  · exact ⟨2, fun w A cap hr => pcheck_bad cap hr h, fun w A cap hr => rpcheck_bad cap hr h⟩
end Go.Proofs.Ytcokfdgbgeeabaa
