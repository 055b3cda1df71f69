/- The walks of the laws BitsFilled and BitsCommon. -/
import Derived.Test.YtbhblffomlhopaaAsks
import Derived.Test.YtbhblffomlhopaaSpec2
namespace Go.Proofs.Ytbhblffomlhopaa
open Go.RowKit
set_option linter.unusedVariables false
set_option linter.unusedSimpArgs false

section
variable {N : Int} {A : Option Addr} {ws : List Nat} {w : World} (cap : Nat)
theorem filled_err (a c why M : Int) (us : List Nat) (hr : Row w w.heap.size A ws) (hne : (why != 0) = true)
    (P : ∀ (w : World) (A : Option Addr) (cap : Nat), Row w w.heap.size A ws → Calls Try.prog 26 #[.agg #[.int .i64 N, .slice A ws.length cap], .int .i64 a, .int .i64 c, .bool false] w fun e w' => Fresh w M us why e w') :
    Calls Try.prog 11 #[.agg #[.int .i64 N, .slice A ws.length cap], .int .i64 a, .int .i64 c] w fun e w' => e = .returned (.bool true) ∧ Below w.heap.size w w' := by
  have P1 := Lib.hid P
  clear P
  go_enter Try.func11, Try.ntmps11
  go_wp2_with fail
  go_at_call 17
  refine (puts_any _).mono ?_
  rintro e w1 ⟨rfl, hb_w1⟩
  obtain ⟨hc_w1, hf_w1⟩ := bcell hb_w1; have hz_w1_w_0 : w.heap.size < w1.heap.size := (by have hzz := hb_w1.size; (try simp only [World.size_alloc, World.size_setCell, World.size_drew, World.heap_drewN] at hzz); omega); have hs_w1 := hb_w1.size; (try simp only [World.size_alloc, World.size_setCell, World.size_drew, World.heap_drewN] at hs_w1)
  go_wp2_with fail
  go_at_call 34
  refine (asks_any _).mono ?_
  rintro e w2 ⟨rfl, hb_w2⟩
  obtain ⟨hc_w2, hf_w2⟩ := bcell hb_w2; have hz_w2_w_0 : w.heap.size < w2.heap.size := (by have hzz := hb_w2.size; (try simp only [World.size_alloc, World.size_setCell, World.size_drew, World.heap_drewN] at hzz); omega); have hs_w2 := hb_w2.size; (try simp only [World.size_alloc, World.size_setCell, World.size_drew, World.heap_drewN] at hs_w2)
  go_wp2_with fail
  go_at_call 26
  refine (P1.out _ _ _ (hr.later (by repeat (first | exact Below.refl _ _ | assumption | (refine below_drewN ?_ _) | (refine Below.drew ?_) | (refine Below.alloc ?_ (by first | omega | (simp; omega) | simp) _) | (refine Below.setCell ?_ (by first | omega | (simp; omega) | simp) _) | (refine below_trans ?_ (by assumption) (by first | omega | (simp; omega) | simp)))))).mono ?_
  rintro e w4 ⟨A4, cap4, rfl, ho4, hb_w4⟩
  obtain ⟨hc_w4, hf_w4⟩ := bcell hb_w4; have hz_w4_w_0 : w.heap.size < w4.heap.size := (by have hzz := hb_w4.size; (try simp only [World.size_alloc, World.size_setCell, World.size_drew, World.heap_drewN] at hzz); omega); have hs_w4 := hb_w4.size; (try simp only [World.size_alloc, World.size_setCell, World.size_drew, World.heap_drewN] at hs_w4)
  go_wp2
  go_ret
  exact ⟨rfl, (by repeat (first | exact Below.refl _ _ | assumption | (refine below_drewN ?_ _) | (refine Below.drew ?_) | (refine Below.alloc ?_ (by first | omega | (simp; omega) | simp) _) | (refine Below.setCell ?_ (by first | omega | (simp; omega) | simp) _) | (refine below_trans ?_ (by assumption) (by first | omega | (simp; omega) | simp))))⟩
set_option maxHeartbeats 1000000 in
theorem filled_ok (a c n m t y : Int) (us ys : List Nat) (hr : Row w w.heap.size A ws) (hn : 0 ≤ n ∧ n ≤ 4096) (hm : 0 ≤ m ∧ m ≤ 4096) (hd : m - n = c) (hus : us.length ≤ maxLen) (hq : (c == 0) = true ∨ ((c == 0) = false ∧ (y == 0) = true ∧ decide (t ≤ a) = true))
    (X : ∀ (w : World) (A : Option Addr) (cap : Nat), Row w w.heap.size A ws → Calls Try.prog 26 #[.agg #[.int .i64 N, .slice A ws.length cap], .int .i64 a, .int .i64 c, .bool false] w fun e w' => Fresh w N us 0 e w')
    (Y : ∀ (w : World) (A : Option Addr) (cap : Nat), Row w w.heap.size A us → Calls Try.prog 26 #[.agg #[.int .i64 N, .slice A us.length cap], .int .i64 a, .int .i64 c, .bool true] w fun e w' => Fresh w N ys 0 e w')
    (Z : ∀ (w : World) (A : Option Addr) (cap : Nat), Row w w.heap.size A ys → Calls Try.prog 26 #[.agg #[.int .i64 N, .slice A ys.length cap], .int .i64 a, .int .i64 c, .bool false] w fun e w' => Fresh w N us 0 e w')
    (C : ∀ (w : World) (A : Option Addr) (cap : Nat), Row w w.heap.size A us → Calls Try.prog 28 #[.agg #[.int .i64 N, .slice A us.length cap]] w fun e w' => e = .returned (.tuple #[.int .i64 n, .int .i64 0]) ∧ Below w.heap.size w w')
    (C' : ∀ (w : World) (A : Option Addr) (cap : Nat), Row w w.heap.size A ys → Calls Try.prog 28 #[.agg #[.int .i64 N, .slice A ys.length cap]] w fun e w' => e = .returned (.tuple #[.int .i64 m, .int .i64 0]) ∧ Below w.heap.size w w')
    (R : ∀ (w : World) (A : Option Addr) (cap : Nat), Row w w.heap.size A us → Calls Try.prog 32 #[.agg #[.int .i64 N, .slice A us.length cap], .int .i64 c] w fun e w' => e = .returned (.tuple #[.int .i64 t, .int .i64 y]) ∧ Below w.heap.size w w') :
    Calls Try.prog 11 #[.agg #[.int .i64 N, .slice A ws.length cap], .int .i64 a, .int .i64 c] w fun e w' => e = .returned (.bool true) ∧ Below w.heap.size w w' := by
  have X1 := Lib.hid X
  have Y1 := Lib.hid Y
  have Z1 := Lib.hid Z
  have C1 := Lib.hid C
  have C2 := Lib.hid C'
  have R1 := Lib.hid R
  have hd2 : (m - n == c) = true := by simpa using hd
  clear X Y Z C C' R hd
  rcases hq with hq | ⟨hq, hq1, hq2⟩
  all_goals
    go_enter Try.func11, Try.ntmps11
    go_wp2_with fail
    go_at_call 17
    refine (puts_any _).mono ?_
    rintro e w1 ⟨rfl, hb_w1⟩
    obtain ⟨hc_w1, hf_w1⟩ := bcell hb_w1; have hz_w1_w_0 : w.heap.size < w1.heap.size := (by have hzz := hb_w1.size; (try simp only [World.size_alloc, World.size_setCell, World.size_drew, World.heap_drewN] at hzz); omega); have hs_w1 := hb_w1.size; (try simp only [World.size_alloc, World.size_setCell, World.size_drew, World.heap_drewN] at hs_w1)
    go_wp2_with fail
    go_at_call 34
    refine (asks_any _).mono ?_
    rintro e w2 ⟨rfl, hb_w2⟩
    obtain ⟨hc_w2, hf_w2⟩ := bcell hb_w2; have hz_w2_w_0 : w.heap.size < w2.heap.size := (by have hzz := hb_w2.size; (try simp only [World.size_alloc, World.size_setCell, World.size_drew, World.heap_drewN] at hzz); omega); have hs_w2 := hb_w2.size; (try simp only [World.size_alloc, World.size_setCell, World.size_drew, World.heap_drewN] at hs_w2)
    go_wp2_with fail
    go_at_call 26
    refine (X1.out _ _ _ (hr.later (by repeat (first | exact Below.refl _ _ | assumption | (refine below_drewN ?_ _) | (refine Below.drew ?_) | (refine Below.alloc ?_ (by first | omega | (simp; omega) | simp) _) | (refine Below.setCell ?_ (by first | omega | (simp; omega) | simp) _) | (refine below_trans ?_ (by assumption) (by first | omega | (simp; omega) | simp)))))).mono ?_
    rintro e w3 ⟨A3, cap3, rfl, ho3, hb_w3⟩
    obtain ⟨hc_w3, hf_w3⟩ := bcell hb_w3; have hz_w3_w_0 : w.heap.size < w3.heap.size := (by have hzz := hb_w3.size; (try simp only [World.size_alloc, World.size_setCell, World.size_drew, World.heap_drewN] at hzz); omega); have hs_w3 := hb_w3.size; (try simp only [World.size_alloc, World.size_setCell, World.size_drew, World.heap_drewN] at hs_w3)
    go_wp2_with fail
    go_at_call 26
    refine (Y1.out _ _ _ (ho3.row.later (by repeat (first | exact Below.refl _ _ | assumption | (refine below_drewN ?_ _) | (refine Below.drew ?_) | (refine Below.alloc ?_ (by first | omega | (simp; omega) | simp) _) | (refine Below.setCell ?_ (by first | omega | (simp; omega) | simp) _) | (refine below_trans ?_ (by assumption) (by first | omega | (simp; omega) | simp)))))).mono ?_
    rintro e w4 ⟨A4, cap4, rfl, ho4, hb_w4⟩
    obtain ⟨hc_w4, hf_w4⟩ := bcell hb_w4; have hz_w4_w_0 : w.heap.size < w4.heap.size := (by have hzz := hb_w4.size; (try simp only [World.size_alloc, World.size_setCell, World.size_drew, World.heap_drewN] at hzz); omega); have hz_w4_w3_0 : w3.heap.size < w4.heap.size := (by have hzz := hb_w4.size; (try simp only [World.size_alloc, World.size_setCell, World.size_drew, World.heap_drewN] at hzz); omega); have hs_w4 := hb_w4.size; (try simp only [World.size_alloc, World.size_setCell, World.size_drew, World.heap_drewN] at hs_w4)
    go_wp2_with fail
    go_at_call 26
    refine (Z1.out _ _ _ (ho4.row.later (by repeat (first | exact Below.refl _ _ | assumption | (refine below_drewN ?_ _) | (refine Below.drew ?_) | (refine Below.alloc ?_ (by first | omega | (simp; omega) | simp) _) | (refine Below.setCell ?_ (by first | omega | (simp; omega) | simp) _) | (refine below_trans ?_ (by assumption) (by first | omega | (simp; omega) | simp)))))).mono ?_
    rintro e w5 ⟨A5, cap5, rfl, ho5, hb_w5⟩
    obtain ⟨hc_w5, hf_w5⟩ := bcell hb_w5; have hz_w5_w_0 : w.heap.size < w5.heap.size := (by have hzz := hb_w5.size; (try simp only [World.size_alloc, World.size_setCell, World.size_drew, World.heap_drewN] at hzz); omega); have hz_w5_w3_0 : w3.heap.size < w5.heap.size := (by have hzz := hb_w5.size; (try simp only [World.size_alloc, World.size_setCell, World.size_drew, World.heap_drewN] at hzz); omega); have hz_w5_w4_0 : w4.heap.size < w5.heap.size := (by have hzz := hb_w5.size; (try simp only [World.size_alloc, World.size_setCell, World.size_drew, World.heap_drewN] at hzz); omega); have hs_w5 := hb_w5.size; (try simp only [World.size_alloc, World.size_setCell, World.size_drew, World.heap_drewN] at hs_w5)
    go_wp2_with fail
    go_at_call 28
    refine (C1.out _ _ _ (ho3.row.later (by repeat (first | exact Below.refl _ _ | assumption | (refine below_drewN ?_ _) | (refine Below.drew ?_) | (refine Below.alloc ?_ (by first | omega | (simp; omega) | simp) _) | (refine Below.setCell ?_ (by first | omega | (simp; omega) | simp) _) | (refine below_trans ?_ (by assumption) (by first | omega | (simp; omega) | simp)))))).mono ?_
    rintro e w6 ⟨rfl, hb_w6⟩
    obtain ⟨hc_w6, hf_w6⟩ := bcell hb_w6; have hz_w6_w_0 : w.heap.size < w6.heap.size := (by have hzz := hb_w6.size; (try simp only [World.size_alloc, World.size_setCell, World.size_drew, World.heap_drewN] at hzz); omega); have hz_w6_w3_0 : w3.heap.size < w6.heap.size := (by have hzz := hb_w6.size; (try simp only [World.size_alloc, World.size_setCell, World.size_drew, World.heap_drewN] at hzz); omega); have hz_w6_w4_0 : w4.heap.size < w6.heap.size := (by have hzz := hb_w6.size; (try simp only [World.size_alloc, World.size_setCell, World.size_drew, World.heap_drewN] at hzz); omega); have hz_w6_w5_0 : w5.heap.size < w6.heap.size := (by have hzz := hb_w6.size; (try simp only [World.size_alloc, World.size_setCell, World.size_drew, World.heap_drewN] at hzz); omega); have hs_w6 := hb_w6.size; (try simp only [World.size_alloc, World.size_setCell, World.size_drew, World.heap_drewN] at hs_w6)
    go_wp2_with fail
    go_at_call 28
    refine (C2.out _ _ _ (ho4.row.later (by repeat (first | exact Below.refl _ _ | assumption | (refine below_drewN ?_ _) | (refine Below.drew ?_) | (refine Below.alloc ?_ (by first | omega | (simp; omega) | simp) _) | (refine Below.setCell ?_ (by first | omega | (simp; omega) | simp) _) | (refine below_trans ?_ (by assumption) (by first | omega | (simp; omega) | simp)))))).mono ?_
    rintro e w7 ⟨rfl, hb_w7⟩
    obtain ⟨hc_w7, hf_w7⟩ := bcell hb_w7; have hz_w7_w_0 : w.heap.size < w7.heap.size := (by have hzz := hb_w7.size; (try simp only [World.size_alloc, World.size_setCell, World.size_drew, World.heap_drewN] at hzz); omega); have hz_w7_w3_0 : w3.heap.size < w7.heap.size := (by have hzz := hb_w7.size; (try simp only [World.size_alloc, World.size_setCell, World.size_drew, World.heap_drewN] at hzz); omega); have hz_w7_w4_0 : w4.heap.size < w7.heap.size := (by have hzz := hb_w7.size; (try simp only [World.size_alloc, World.size_setCell, World.size_drew, World.heap_drewN] at hzz); omega); have hz_w7_w5_0 : w5.heap.size < w7.heap.size := (by have hzz := hb_w7.size; (try simp only [World.size_alloc, World.size_setCell, World.size_drew, World.heap_drewN] at hzz); omega); have hs_w7 := hb_w7.size; (try simp only [World.size_alloc, World.size_setCell, World.size_drew, World.heap_drewN] at hs_w7)
    go_wp2_with fail
    go_at_call 32
    refine (R1.out _ _ _ (ho3.row.later (by repeat (first | exact Below.refl _ _ | assumption | (refine below_drewN ?_ _) | (refine Below.drew ?_) | (refine Below.alloc ?_ (by first | omega | (simp; omega) | simp) _) | (refine Below.setCell ?_ (by first | omega | (simp; omega) | simp) _) | (refine below_trans ?_ (by assumption) (by first | omega | (simp; omega) | simp)))))).mono ?_
    rintro e w8 ⟨rfl, hb_w8⟩
    obtain ⟨hc_w8, hf_w8⟩ := bcell hb_w8; have hz_w8_w_0 : w.heap.size < w8.heap.size := (by have hzz := hb_w8.size; (try simp only [World.size_alloc, World.size_setCell, World.size_drew, World.heap_drewN] at hzz); omega); have hz_w8_w3_0 : w3.heap.size < w8.heap.size := (by have hzz := hb_w8.size; (try simp only [World.size_alloc, World.size_setCell, World.size_drew, World.heap_drewN] at hzz); omega); have hz_w8_w4_0 : w4.heap.size < w8.heap.size := (by have hzz := hb_w8.size; (try simp only [World.size_alloc, World.size_setCell, World.size_drew, World.heap_drewN] at hzz); omega); have hz_w8_w5_0 : w5.heap.size < w8.heap.size := (by have hzz := hb_w8.size; (try simp only [World.size_alloc, World.size_setCell, World.size_drew, World.heap_drewN] at hzz); omega); have hs_w8 := hb_w8.size; (try simp only [World.size_alloc, World.size_setCell, World.size_drew, World.heap_drewN] at hs_w8)
    go_wp2_with fail
    go_at_call 18
    refine (same_ok N us hus _ _ _ _ _ (ho3.row.later (by repeat (first | exact Below.refl _ _ | assumption | (refine below_drewN ?_ _) | (refine Below.drew ?_) | (refine Below.alloc ?_ (by first | omega | (simp; omega) | simp) _) | (refine Below.setCell ?_ (by first | omega | (simp; omega) | simp) _) | (refine below_trans ?_ (by assumption) (by first | omega | (simp; omega) | simp))))) (ho5.row.later (by repeat (first | exact Below.refl _ _ | assumption | (refine below_drewN ?_ _) | (refine Below.drew ?_) | (refine Below.alloc ?_ (by first | omega | (simp; omega) | simp) _) | (refine Below.setCell ?_ (by first | omega | (simp; omega) | simp) _) | (refine below_trans ?_ (by assumption) (by first | omega | (simp; omega) | simp)))))).mono ?_
    rintro e w9 ⟨rfl, hb_w9⟩
    obtain ⟨hc_w9, hf_w9⟩ := bcell hb_w9; have hz_w9_w_0 : w.heap.size < w9.heap.size := (by have hzz := hb_w9.size; (try simp only [World.size_alloc, World.size_setCell, World.size_drew, World.heap_drewN] at hzz); omega); have hz_w9_w3_0 : w3.heap.size < w9.heap.size := (by have hzz := hb_w9.size; (try simp only [World.size_alloc, World.size_setCell, World.size_drew, World.heap_drewN] at hzz); omega); have hz_w9_w4_0 : w4.heap.size < w9.heap.size := (by have hzz := hb_w9.size; (try simp only [World.size_alloc, World.size_setCell, World.size_drew, World.heap_drewN] at hzz); omega); have hz_w9_w5_0 : w5.heap.size < w9.heap.size := (by have hzz := hb_w9.size; (try simp only [World.size_alloc, World.size_setCell, World.size_drew, World.heap_drewN] at hzz); omega); have hs_w9 := hb_w9.size; (try simp only [World.size_alloc, World.size_setCell, World.size_drew, World.heap_drewN] at hs_w9)
    go_wp2
    go_ret
    exact ⟨rfl, (by repeat (first | exact Below.refl _ _ | assumption | (refine below_drewN ?_ _) | (refine Below.drew ?_) | (refine Below.alloc ?_ (by first | omega | (simp; omega) | simp) _) | (refine Below.setCell ?_ (by first | omega | (simp; omega) | simp) _) | (refine below_trans ?_ (by assumption) (by first | omega | (simp; omega) | simp))))⟩

theorem common_err (M : Int) (us : List Nat) {C : Option Addr} (cap' : Nat) (i : Int) (hr : Row w w.heap.size A ws) (hs : Row w w.heap.size C us)
    (P : ∀ (w : World) (A C : Option Addr) (cap cap' : Nat), Row w w.heap.size A ws → Row w w.heap.size C us → Calls Try.prog 35 #[.agg #[.int .i64 N, .slice A ws.length cap], .agg #[.int .i64 M, .slice C us.length cap']] w fun e w' => Fresh w 0 [] 2 e w') :
    Calls Try.prog 12 #[.agg #[.int .i64 N, .slice A ws.length cap], .agg #[.int .i64 M, .slice C us.length cap'], .int .i64 i] w fun e w' => e = .returned (.bool true) ∧ Below w.heap.size w w' := by
  have P1 := Lib.hid P
  clear P
  go_enter Try.func12, Try.ntmps12
  go_wp2_with fail
  go_at_call 17
  refine (puts_any _).mono ?_
  rintro e w1 ⟨rfl, hb_w1⟩
  obtain ⟨hc_w1, hf_w1⟩ := bcell hb_w1; have hz_w1_w_0 : w.heap.size < w1.heap.size := (by have hzz := hb_w1.size; (try simp only [World.size_alloc, World.size_setCell, World.size_drew, World.heap_drewN] at hzz); omega); have hz_w1_w_1 : w.heap.size + 1 < w1.heap.size := (by have hzz := hb_w1.size; (try simp only [World.size_alloc, World.size_setCell, World.size_drew, World.heap_drewN] at hzz); omega); have hs_w1 := hb_w1.size; (try simp only [World.size_alloc, World.size_setCell, World.size_drew, World.heap_drewN] at hs_w1)
  go_wp2_with fail
  go_at_call 34
  refine (asks_any _).mono ?_
  rintro e w2 ⟨rfl, hb_w2⟩
  obtain ⟨hc_w2, hf_w2⟩ := bcell hb_w2; have hz_w2_w_0 : w.heap.size < w2.heap.size := (by have hzz := hb_w2.size; (try simp only [World.size_alloc, World.size_setCell, World.size_drew, World.heap_drewN] at hzz); omega); have hz_w2_w_1 : w.heap.size + 1 < w2.heap.size := (by have hzz := hb_w2.size; (try simp only [World.size_alloc, World.size_setCell, World.size_drew, World.heap_drewN] at hzz); omega); have hs_w2 := hb_w2.size; (try simp only [World.size_alloc, World.size_setCell, World.size_drew, World.heap_drewN] at hs_w2)
  go_wp2_with fail
  go_at_call 35
  refine (P1.out _ _ _ _ _ (hr.later (by repeat (first | exact Below.refl _ _ | assumption | (refine below_drewN ?_ _) | (refine Below.drew ?_) | (refine Below.alloc ?_ (by first | omega | (simp; omega) | simp) _) | (refine Below.setCell ?_ (by first | omega | (simp; omega) | simp) _) | (refine below_trans ?_ (by assumption) (by first | omega | (simp; omega) | simp))))) (hs.later (by repeat (first | exact Below.refl _ _ | assumption | (refine below_drewN ?_ _) | (refine Below.drew ?_) | (refine Below.alloc ?_ (by first | omega | (simp; omega) | simp) _) | (refine Below.setCell ?_ (by first | omega | (simp; omega) | simp) _) | (refine below_trans ?_ (by assumption) (by first | omega | (simp; omega) | simp)))))).mono ?_
  rintro e w4 ⟨A4, cap4, rfl, ho4, hb_w4⟩
  obtain ⟨hc_w4, hf_w4⟩ := bcell hb_w4; have hz_w4_w_0 : w.heap.size < w4.heap.size := (by have hzz := hb_w4.size; (try simp only [World.size_alloc, World.size_setCell, World.size_drew, World.heap_drewN] at hzz); omega); have hz_w4_w_1 : w.heap.size + 1 < w4.heap.size := (by have hzz := hb_w4.size; (try simp only [World.size_alloc, World.size_setCell, World.size_drew, World.heap_drewN] at hzz); omega); have hs_w4 := hb_w4.size; (try simp only [World.size_alloc, World.size_setCell, World.size_drew, World.heap_drewN] at hs_w4)
  go_wp2
  go_ret
  exact ⟨rfl, (by repeat (first | exact Below.refl _ _ | assumption | (refine below_drewN ?_ _) | (refine Below.drew ?_) | (refine Below.alloc ?_ (by first | omega | (simp; omega) | simp) _) | (refine Below.setCell ?_ (by first | omega | (simp; omega) | simp) _) | (refine below_trans ?_ (by assumption) (by first | omega | (simp; omega) | simp))))⟩
set_option maxHeartbeats 1000000 in
theorem common_ok (us vs : List Nat) {C : Option Addr} (cap' : Nat) (i y : Int) (p q r : Bool) (hr : Row w w.heap.size A ws) (hs : Row w w.heap.size C us) (hvs : vs.length ≤ maxLen) (hws : ws.length ≤ maxLen) (hq : (y != 0) = true ∨ ((y != 0) = false ∧ p = (q && r)))
    (P : ∀ (w : World) (A C : Option Addr) (cap cap' : Nat), Row w w.heap.size A ws → Row w w.heap.size C us → Calls Try.prog 35 #[.agg #[.int .i64 N, .slice A ws.length cap], .agg #[.int .i64 N, .slice C us.length cap']] w fun e w' => Fresh w N vs 0 e w')
    (P' : ∀ (w : World) (A C : Option Addr) (cap cap' : Nat), Row w w.heap.size A ws → Row w w.heap.size C us → Calls Try.prog 35 #[.agg #[.int .i64 N, .slice C us.length cap], .agg #[.int .i64 N, .slice A ws.length cap']] w fun e w' => Fresh w N vs 0 e w')
    (P'' : ∀ (w : World) (A : Option Addr) (cap : Nat), Row w w.heap.size A ws → Calls Try.prog 35 #[.agg #[.int .i64 N, .slice A ws.length cap], .agg #[.int .i64 N, .slice A ws.length cap]] w fun e w' => Fresh w N ws 0 e w')
    (G : ∀ (w : World) (A : Option Addr) (cap : Nat), Row w w.heap.size A vs → Calls Try.prog 22 #[.agg #[.int .i64 N, .slice A vs.length cap], .int .i64 i] w fun e w' => e = .returned (.tuple #[.bool p, .int .i64 y]) ∧ Below w.heap.size w w')
    (G' : ∀ (w : World) (A : Option Addr) (cap : Nat), Row w w.heap.size A ws → Calls Try.prog 22 #[.agg #[.int .i64 N, .slice A ws.length cap], .int .i64 i] w fun e w' => e = .returned (.tuple #[.bool q, .int .i64 y]) ∧ Below w.heap.size w w')
    (G'' : ∀ (w : World) (A : Option Addr) (cap : Nat), Row w w.heap.size A us → Calls Try.prog 22 #[.agg #[.int .i64 N, .slice A us.length cap], .int .i64 i] w fun e w' => e = .returned (.tuple #[.bool r, .int .i64 y]) ∧ Below w.heap.size w w') :
    Calls Try.prog 12 #[.agg #[.int .i64 N, .slice A ws.length cap], .agg #[.int .i64 N, .slice C us.length cap'], .int .i64 i] w fun e w' => e = .returned (.bool true) ∧ Below w.heap.size w w' := by
  have P1 := Lib.hid P
  have P2 := Lib.hid P'
  have P3 := Lib.hid P''
  have G1 := Lib.hid G
  have G2 := Lib.hid G'
  have G3 := Lib.hid G''
  clear P P' P'' G G' G''
  rcases hq with hq | ⟨hq, rfl⟩
  · go_enter Try.func12, Try.ntmps12
    go_wp2_with fail
    go_at_call 17
    refine (puts_any _).mono ?_
    rintro e w1 ⟨rfl, hb_w1⟩
    obtain ⟨hc_w1, hf_w1⟩ := bcell hb_w1; have hz_w1_w_0 : w.heap.size < w1.heap.size := (by have hzz := hb_w1.size; (try simp only [World.size_alloc, World.size_setCell, World.size_drew, World.heap_drewN] at hzz); omega); have hz_w1_w_1 : w.heap.size + 1 < w1.heap.size := (by have hzz := hb_w1.size; (try simp only [World.size_alloc, World.size_setCell, World.size_drew, World.heap_drewN] at hzz); omega); have hs_w1 := hb_w1.size; (try simp only [World.size_alloc, World.size_setCell, World.size_drew, World.heap_drewN] at hs_w1)
    go_wp2_with fail
    go_at_call 34
    refine (asks_any _).mono ?_
    rintro e w2 ⟨rfl, hb_w2⟩
    obtain ⟨hc_w2, hf_w2⟩ := bcell hb_w2; have hz_w2_w_0 : w.heap.size < w2.heap.size := (by have hzz := hb_w2.size; (try simp only [World.size_alloc, World.size_setCell, World.size_drew, World.heap_drewN] at hzz); omega); have hz_w2_w_1 : w.heap.size + 1 < w2.heap.size := (by have hzz := hb_w2.size; (try simp only [World.size_alloc, World.size_setCell, World.size_drew, World.heap_drewN] at hzz); omega); have hs_w2 := hb_w2.size; (try simp only [World.size_alloc, World.size_setCell, World.size_drew, World.heap_drewN] at hs_w2)
    go_wp2_with fail
    go_at_call 35
    refine (P1.out _ _ _ _ _ (hr.later (by repeat (first | exact Below.refl _ _ | assumption | (refine below_drewN ?_ _) | (refine Below.drew ?_) | (refine Below.alloc ?_ (by first | omega | (simp; omega) | simp) _) | (refine Below.setCell ?_ (by first | omega | (simp; omega) | simp) _) | (refine below_trans ?_ (by assumption) (by first | omega | (simp; omega) | simp))))) (hs.later (by repeat (first | exact Below.refl _ _ | assumption | (refine below_drewN ?_ _) | (refine Below.drew ?_) | (refine Below.alloc ?_ (by first | omega | (simp; omega) | simp) _) | (refine Below.setCell ?_ (by first | omega | (simp; omega) | simp) _) | (refine below_trans ?_ (by assumption) (by first | omega | (simp; omega) | simp)))))).mono ?_
    rintro e w3 ⟨A3, cap3, rfl, ho3, hb_w3⟩
    obtain ⟨hc_w3, hf_w3⟩ := bcell hb_w3; have hz_w3_w_0 : w.heap.size < w3.heap.size := (by have hzz := hb_w3.size; (try simp only [World.size_alloc, World.size_setCell, World.size_drew, World.heap_drewN] at hzz); omega); have hz_w3_w_1 : w.heap.size + 1 < w3.heap.size := (by have hzz := hb_w3.size; (try simp only [World.size_alloc, World.size_setCell, World.size_drew, World.heap_drewN] at hzz); omega); have hs_w3 := hb_w3.size; (try simp only [World.size_alloc, World.size_setCell, World.size_drew, World.heap_drewN] at hs_w3)
    go_wp2_with fail
    go_at_call 35
    refine (P2.out _ _ _ _ _ (hr.later (by repeat (first | exact Below.refl _ _ | assumption | (refine below_drewN ?_ _) | (refine Below.drew ?_) | (refine Below.alloc ?_ (by first | omega | (simp; omega) | simp) _) | (refine Below.setCell ?_ (by first | omega | (simp; omega) | simp) _) | (refine below_trans ?_ (by assumption) (by first | omega | (simp; omega) | simp))))) (hs.later (by repeat (first | exact Below.refl _ _ | assumption | (refine below_drewN ?_ _) | (refine Below.drew ?_) | (refine Below.alloc ?_ (by first | omega | (simp; omega) | simp) _) | (refine Below.setCell ?_ (by first | omega | (simp; omega) | simp) _) | (refine below_trans ?_ (by assumption) (by first | omega | (simp; omega) | simp)))))).mono ?_
    rintro e w4 ⟨A4, cap4, rfl, ho4, hb_w4⟩
    obtain ⟨hc_w4, hf_w4⟩ := bcell hb_w4; have hz_w4_w_0 : w.heap.size < w4.heap.size := (by have hzz := hb_w4.size; (try simp only [World.size_alloc, World.size_setCell, World.size_drew, World.heap_drewN] at hzz); omega); have hz_w4_w_1 : w.heap.size + 1 < w4.heap.size := (by have hzz := hb_w4.size; (try simp only [World.size_alloc, World.size_setCell, World.size_drew, World.heap_drewN] at hzz); omega); have hz_w4_w3_0 : w3.heap.size < w4.heap.size := (by have hzz := hb_w4.size; (try simp only [World.size_alloc, World.size_setCell, World.size_drew, World.heap_drewN] at hzz); omega); have hs_w4 := hb_w4.size; (try simp only [World.size_alloc, World.size_setCell, World.size_drew, World.heap_drewN] at hs_w4)
    go_wp2_with fail
    go_at_call 35
    refine (P3.out _ _ _ (hr.later (by repeat (first | exact Below.refl _ _ | assumption | (refine below_drewN ?_ _) | (refine Below.drew ?_) | (refine Below.alloc ?_ (by first | omega | (simp; omega) | simp) _) | (refine Below.setCell ?_ (by first | omega | (simp; omega) | simp) _) | (refine below_trans ?_ (by assumption) (by first | omega | (simp; omega) | simp)))))).mono ?_
    rintro e w5 ⟨A5, cap5, rfl, ho5, hb_w5⟩
    obtain ⟨hc_w5, hf_w5⟩ := bcell hb_w5; have hz_w5_w_0 : w.heap.size < w5.heap.size := (by have hzz := hb_w5.size; (try simp only [World.size_alloc, World.size_setCell, World.size_drew, World.heap_drewN] at hzz); omega); have hz_w5_w_1 : w.heap.size + 1 < w5.heap.size := (by have hzz := hb_w5.size; (try simp only [World.size_alloc, World.size_setCell, World.size_drew, World.heap_drewN] at hzz); omega); have hz_w5_w3_0 : w3.heap.size < w5.heap.size := (by have hzz := hb_w5.size; (try simp only [World.size_alloc, World.size_setCell, World.size_drew, World.heap_drewN] at hzz); omega); have hz_w5_w4_0 : w4.heap.size < w5.heap.size := (by have hzz := hb_w5.size; (try simp only [World.size_alloc, World.size_setCell, World.size_drew, World.heap_drewN] at hzz); omega); have hs_w5 := hb_w5.size; (try simp only [World.size_alloc, World.size_setCell, World.size_drew, World.heap_drewN] at hs_w5)
    go_wp2_with fail
    go_at_call 22
    refine (G1.out _ _ _ (ho3.row.later (by repeat (first | exact Below.refl _ _ | assumption | (refine below_drewN ?_ _) | (refine Below.drew ?_) | (refine Below.alloc ?_ (by first | omega | (simp; omega) | simp) _) | (refine Below.setCell ?_ (by first | omega | (simp; omega) | simp) _) | (refine below_trans ?_ (by assumption) (by first | omega | (simp; omega) | simp)))))).mono ?_
    rintro e w6 ⟨rfl, hb_w6⟩
    obtain ⟨hc_w6, hf_w6⟩ := bcell hb_w6; have hz_w6_w_0 : w.heap.size < w6.heap.size := (by have hzz := hb_w6.size; (try simp only [World.size_alloc, World.size_setCell, World.size_drew, World.heap_drewN] at hzz); omega); have hz_w6_w_1 : w.heap.size + 1 < w6.heap.size := (by have hzz := hb_w6.size; (try simp only [World.size_alloc, World.size_setCell, World.size_drew, World.heap_drewN] at hzz); omega); have hz_w6_w3_0 : w3.heap.size < w6.heap.size := (by have hzz := hb_w6.size; (try simp only [World.size_alloc, World.size_setCell, World.size_drew, World.heap_drewN] at hzz); omega); have hz_w6_w4_0 : w4.heap.size < w6.heap.size := (by have hzz := hb_w6.size; (try simp only [World.size_alloc, World.size_setCell, World.size_drew, World.heap_drewN] at hzz); omega); have hz_w6_w5_0 : w5.heap.size < w6.heap.size := (by have hzz := hb_w6.size; (try simp only [World.size_alloc, World.size_setCell, World.size_drew, World.heap_drewN] at hzz); omega); have hs_w6 := hb_w6.size; (try simp only [World.size_alloc, World.size_setCell, World.size_drew, World.heap_drewN] at hs_w6)
    go_wp2_with fail
    go_at_call 22
    refine (G2.out _ _ _ (hr.later (by repeat (first | exact Below.refl _ _ | assumption | (refine below_drewN ?_ _) | (refine Below.drew ?_) | (refine Below.alloc ?_ (by first | omega | (simp; omega) | simp) _) | (refine Below.setCell ?_ (by first | omega | (simp; omega) | simp) _) | (refine below_trans ?_ (by assumption) (by first | omega | (simp; omega) | simp)))))).mono ?_
    rintro e w7 ⟨rfl, hb_w7⟩
    obtain ⟨hc_w7, hf_w7⟩ := bcell hb_w7; have hz_w7_w_0 : w.heap.size < w7.heap.size := (by have hzz := hb_w7.size; (try simp only [World.size_alloc, World.size_setCell, World.size_drew, World.heap_drewN] at hzz); omega); have hz_w7_w_1 : w.heap.size + 1 < w7.heap.size := (by have hzz := hb_w7.size; (try simp only [World.size_alloc, World.size_setCell, World.size_drew, World.heap_drewN] at hzz); omega); have hz_w7_w3_0 : w3.heap.size < w7.heap.size := (by have hzz := hb_w7.size; (try simp only [World.size_alloc, World.size_setCell, World.size_drew, World.heap_drewN] at hzz); omega); have hz_w7_w4_0 : w4.heap.size < w7.heap.size := (by have hzz := hb_w7.size; (try simp only [World.size_alloc, World.size_setCell, World.size_drew, World.heap_drewN] at hzz); omega); have hz_w7_w5_0 : w5.heap.size < w7.heap.size := (by have hzz := hb_w7.size; (try simp only [World.size_alloc, World.size_setCell, World.size_drew, World.heap_drewN] at hzz); omega); have hs_w7 := hb_w7.size; (try simp only [World.size_alloc, World.size_setCell, World.size_drew, World.heap_drewN] at hs_w7)
    go_wp2_with fail
    go_at_call 22
    refine (G3.out _ _ _ (hs.later (by repeat (first | exact Below.refl _ _ | assumption | (refine below_drewN ?_ _) | (refine Below.drew ?_) | (refine Below.alloc ?_ (by first | omega | (simp; omega) | simp) _) | (refine Below.setCell ?_ (by first | omega | (simp; omega) | simp) _) | (refine below_trans ?_ (by assumption) (by first | omega | (simp; omega) | simp)))))).mono ?_
    rintro e w8 ⟨rfl, hb_w8⟩
    obtain ⟨hc_w8, hf_w8⟩ := bcell hb_w8; have hz_w8_w_0 : w.heap.size < w8.heap.size := (by have hzz := hb_w8.size; (try simp only [World.size_alloc, World.size_setCell, World.size_drew, World.heap_drewN] at hzz); omega); have hz_w8_w_1 : w.heap.size + 1 < w8.heap.size := (by have hzz := hb_w8.size; (try simp only [World.size_alloc, World.size_setCell, World.size_drew, World.heap_drewN] at hzz); omega); have hz_w8_w3_0 : w3.heap.size < w8.heap.size := (by have hzz := hb_w8.size; (try simp only [World.size_alloc, World.size_setCell, World.size_drew, World.heap_drewN] at hzz); omega); have hz_w8_w4_0 : w4.heap.size < w8.heap.size := (by have hzz := hb_w8.size; (try simp only [World.size_alloc, World.size_setCell, World.size_drew, World.heap_drewN] at hzz); omega); have hz_w8_w5_0 : w5.heap.size < w8.heap.size := (by have hzz := hb_w8.size; (try simp only [World.size_alloc, World.size_setCell, World.size_drew, World.heap_drewN] at hzz); omega); have hs_w8 := hb_w8.size; (try simp only [World.size_alloc, World.size_setCell, World.size_drew, World.heap_drewN] at hs_w8)
    go_wp2_with fail
    go_at_call 18
    refine (same_ok N vs hvs _ _ _ _ _ (ho3.row.later (by repeat (first | exact Below.refl _ _ | assumption | (refine below_drewN ?_ _) | (refine Below.drew ?_) | (refine Below.alloc ?_ (by first | omega | (simp; omega) | simp) _) | (refine Below.setCell ?_ (by first | omega | (simp; omega) | simp) _) | (refine below_trans ?_ (by assumption) (by first | omega | (simp; omega) | simp))))) (ho4.row.later (by repeat (first | exact Below.refl _ _ | assumption | (refine below_drewN ?_ _) | (refine Below.drew ?_) | (refine Below.alloc ?_ (by first | omega | (simp; omega) | simp) _) | (refine Below.setCell ?_ (by first | omega | (simp; omega) | simp) _) | (refine below_trans ?_ (by assumption) (by first | omega | (simp; omega) | simp)))))).mono ?_
    rintro e w9 ⟨rfl, hb_w9⟩
    obtain ⟨hc_w9, hf_w9⟩ := bcell hb_w9; have hz_w9_w_0 : w.heap.size < w9.heap.size := (by have hzz := hb_w9.size; (try simp only [World.size_alloc, World.size_setCell, World.size_drew, World.heap_drewN] at hzz); omega); have hz_w9_w_1 : w.heap.size + 1 < w9.heap.size := (by have hzz := hb_w9.size; (try simp only [World.size_alloc, World.size_setCell, World.size_drew, World.heap_drewN] at hzz); omega); have hz_w9_w3_0 : w3.heap.size < w9.heap.size := (by have hzz := hb_w9.size; (try simp only [World.size_alloc, World.size_setCell, World.size_drew, World.heap_drewN] at hzz); omega); have hz_w9_w4_0 : w4.heap.size < w9.heap.size := (by have hzz := hb_w9.size; (try simp only [World.size_alloc, World.size_setCell, World.size_drew, World.heap_drewN] at hzz); omega); have hz_w9_w5_0 : w5.heap.size < w9.heap.size := (by have hzz := hb_w9.size; (try simp only [World.size_alloc, World.size_setCell, World.size_drew, World.heap_drewN] at hzz); omega); have hs_w9 := hb_w9.size; (try simp only [World.size_alloc, World.size_setCell, World.size_drew, World.heap_drewN] at hs_w9)
    go_wp2_with fail
    go_at_call 18
    refine (same_ok N ws hws _ _ _ _ _ (ho5.row.later (by repeat (first | exact Below.refl _ _ | assumption | (refine below_drewN ?_ _) | (refine Below.drew ?_) | (refine Below.alloc ?_ (by first | omega | (simp; omega) | simp) _) | (refine Below.setCell ?_ (by first | omega | (simp; omega) | simp) _) | (refine below_trans ?_ (by assumption) (by first | omega | (simp; omega) | simp))))) (hr.later (by repeat (first | exact Below.refl _ _ | assumption | (refine below_drewN ?_ _) | (refine Below.drew ?_) | (refine Below.alloc ?_ (by first | omega | (simp; omega) | simp) _) | (refine Below.setCell ?_ (by first | omega | (simp; omega) | simp) _) | (refine below_trans ?_ (by assumption) (by first | omega | (simp; omega) | simp)))))).mono ?_
    rintro e w10 ⟨rfl, hb_w10⟩
    obtain ⟨hc_w10, hf_w10⟩ := bcell hb_w10; have hz_w10_w_0 : w.heap.size < w10.heap.size := (by have hzz := hb_w10.size; (try simp only [World.size_alloc, World.size_setCell, World.size_drew, World.heap_drewN] at hzz); omega); have hz_w10_w_1 : w.heap.size + 1 < w10.heap.size := (by have hzz := hb_w10.size; (try simp only [World.size_alloc, World.size_setCell, World.size_drew, World.heap_drewN] at hzz); omega); have hz_w10_w3_0 : w3.heap.size < w10.heap.size := (by have hzz := hb_w10.size; (try simp only [World.size_alloc, World.size_setCell, World.size_drew, World.heap_drewN] at hzz); omega); have hz_w10_w4_0 : w4.heap.size < w10.heap.size := (by have hzz := hb_w10.size; (try simp only [World.size_alloc, World.size_setCell, World.size_drew, World.heap_drewN] at hzz); omega); have hz_w10_w5_0 : w5.heap.size < w10.heap.size := (by have hzz := hb_w10.size; (try simp only [World.size_alloc, World.size_setCell, World.size_drew, World.heap_drewN] at hzz); omega); have hs_w10 := hb_w10.size; (try simp only [World.size_alloc, World.size_setCell, World.size_drew, World.heap_drewN] at hs_w10)
    go_wp2
    go_ret
    exact ⟨rfl, (by repeat (first | exact Below.refl _ _ | assumption | (refine below_drewN ?_ _) | (refine Below.drew ?_) | (refine Below.alloc ?_ (by first | omega | (simp; omega) | simp) _) | (refine Below.setCell ?_ (by first | omega | (simp; omega) | simp) _) | (refine below_trans ?_ (by assumption) (by first | omega | (simp; omega) | simp))))⟩
  · cases q <;> cases r
    all_goals
      go_enter Try.func12, Try.ntmps12
      go_wp2_with fail
      go_at_call 17
      refine (puts_any _).mono ?_
      rintro e w1 ⟨rfl, hb_w1⟩
      obtain ⟨hc_w1, hf_w1⟩ := bcell hb_w1; have hz_w1_w_0 : w.heap.size < w1.heap.size := (by have hzz := hb_w1.size; (try simp only [World.size_alloc, World.size_setCell, World.size_drew, World.heap_drewN] at hzz); omega); have hz_w1_w_1 : w.heap.size + 1 < w1.heap.size := (by have hzz := hb_w1.size; (try simp only [World.size_alloc, World.size_setCell, World.size_drew, World.heap_drewN] at hzz); omega); have hs_w1 := hb_w1.size; (try simp only [World.size_alloc, World.size_setCell, World.size_drew, World.heap_drewN] at hs_w1)
      go_wp2_with fail
      go_at_call 34
      refine (asks_any _).mono ?_
      rintro e w2 ⟨rfl, hb_w2⟩
      obtain ⟨hc_w2, hf_w2⟩ := bcell hb_w2; have hz_w2_w_0 : w.heap.size < w2.heap.size := (by have hzz := hb_w2.size; (try simp only [World.size_alloc, World.size_setCell, World.size_drew, World.heap_drewN] at hzz); omega); have hz_w2_w_1 : w.heap.size + 1 < w2.heap.size := (by have hzz := hb_w2.size; (try simp only [World.size_alloc, World.size_setCell, World.size_drew, World.heap_drewN] at hzz); omega); have hs_w2 := hb_w2.size; (try simp only [World.size_alloc, World.size_setCell, World.size_drew, World.heap_drewN] at hs_w2)
      go_wp2_with fail
      go_at_call 35
      refine (P1.out _ _ _ _ _ (hr.later (by repeat (first | exact Below.refl _ _ | assumption | (refine below_drewN ?_ _) | (refine Below.drew ?_) | (refine Below.alloc ?_ (by first | omega | (simp; omega) | simp) _) | (refine Below.setCell ?_ (by first | omega | (simp; omega) | simp) _) | (refine below_trans ?_ (by assumption) (by first | omega | (simp; omega) | simp))))) (hs.later (by repeat (first | exact Below.refl _ _ | assumption | (refine below_drewN ?_ _) | (refine Below.drew ?_) | (refine Below.alloc ?_ (by first | omega | (simp; omega) | simp) _) | (refine Below.setCell ?_ (by first | omega | (simp; omega) | simp) _) | (refine below_trans ?_ (by assumption) (by first | omega | (simp; omega) | simp)))))).mono ?_
      rintro e w3 ⟨A3, cap3, rfl, ho3, hb_w3⟩
      obtain ⟨hc_w3, hf_w3⟩ := bcell hb_w3; have hz_w3_w_0 : w.heap.size < w3.heap.size := (by have hzz := hb_w3.size; (try simp only [World.size_alloc, World.size_setCell, World.size_drew, World.heap_drewN] at hzz); omega); have hz_w3_w_1 : w.heap.size + 1 < w3.heap.size := (by have hzz := hb_w3.size; (try simp only [World.size_alloc, World.size_setCell, World.size_drew, World.heap_drewN] at hzz); omega); have hs_w3 := hb_w3.size; (try simp only [World.size_alloc, World.size_setCell, World.size_drew, World.heap_drewN] at hs_w3)
      go_wp2_with fail
      go_at_call 35
      refine (P2.out _ _ _ _ _ (hr.later (by repeat (first | exact Below.refl _ _ | assumption | (refine below_drewN ?_ _) | (refine Below.drew ?_) | (refine Below.alloc ?_ (by first | omega | (simp; omega) | simp) _) | (refine Below.setCell ?_ (by first | omega | (simp; omega) | simp) _) | (refine below_trans ?_ (by assumption) (by first | omega | (simp; omega) | simp))))) (hs.later (by repeat (first | exact Below.refl _ _ | assumption | (refine below_drewN ?_ _) | (refine Below.drew ?_) | (refine Below.alloc ?_ (by first | omega | (simp; omega) | simp) _) | (refine Below.setCell ?_ (by first | omega | (simp; omega) | simp) _) | (refine below_trans ?_ (by assumption) (by first | omega | (simp; omega) | simp)))))).mono ?_
      rintro e w4 ⟨A4, cap4, rfl, ho4, hb_w4⟩
      obtain ⟨hc_w4, hf_w4⟩ := bcell hb_w4; have hz_w4_w_0 : w.heap.size < w4.heap.size := (by have hzz := hb_w4.size; (try simp only [World.size_alloc, World.size_setCell, World.size_drew, World.heap_drewN] at hzz); omega); have hz_w4_w_1 : w.heap.size + 1 < w4.heap.size := (by have hzz := hb_w4.size; (try simp only [World.size_alloc, World.size_setCell, World.size_drew, World.heap_drewN] at hzz); omega); have hz_w4_w3_0 : w3.heap.size < w4.heap.size := (by have hzz := hb_w4.size; (try simp only [World.size_alloc, World.size_setCell, World.size_drew, World.heap_drewN] at hzz); omega); have hs_w4 := hb_w4.size; (try simp only [World.size_alloc, World.size_setCell, World.size_drew, World.heap_drewN] at hs_w4)
      go_wp2_with fail
      go_at_call 35
      refine (P3.out _ _ _ (hr.later (by repeat (first | exact Below.refl _ _ | assumption | (refine below_drewN ?_ _) | (refine Below.drew ?_) | (refine Below.alloc ?_ (by first | omega | (simp; omega) | simp) _) | (refine Below.setCell ?_ (by first | omega | (simp; omega) | simp) _) | (refine below_trans ?_ (by assumption) (by first | omega | (simp; omega) | simp)))))).mono ?_
      rintro e w5 ⟨A5, cap5, rfl, ho5, hb_w5⟩
      obtain ⟨hc_w5, hf_w5⟩ := bcell hb_w5; have hz_w5_w_0 : w.heap.size < w5.heap.size := (by have hzz := hb_w5.size; (try simp only [World.size_alloc, World.size_setCell, World.size_drew, World.heap_drewN] at hzz); omega); have hz_w5_w_1 : w.heap.size + 1 < w5.heap.size := (by have hzz := hb_w5.size; (try simp only [World.size_alloc, World.size_setCell, World.size_drew, World.heap_drewN] at hzz); omega); have hz_w5_w3_0 : w3.heap.size < w5.heap.size := (by have hzz := hb_w5.size; (try simp only [World.size_alloc, World.size_setCell, World.size_drew, World.heap_drewN] at hzz); omega); have hz_w5_w4_0 : w4.heap.size < w5.heap.size := (by have hzz := hb_w5.size; (try simp only [World.size_alloc, World.size_setCell, World.size_drew, World.heap_drewN] at hzz); omega); have hs_w5 := hb_w5.size; (try simp only [World.size_alloc, World.size_setCell, World.size_drew, World.heap_drewN] at hs_w5)
      go_wp2_with fail
      go_at_call 22
      refine (G1.out _ _ _ (ho3.row.later (by repeat (first | exact Below.refl _ _ | assumption | (refine below_drewN ?_ _) | (refine Below.drew ?_) | (refine Below.alloc ?_ (by first | omega | (simp; omega) | simp) _) | (refine Below.setCell ?_ (by first | omega | (simp; omega) | simp) _) | (refine below_trans ?_ (by assumption) (by first | omega | (simp; omega) | simp)))))).mono ?_
      rintro e w6 ⟨rfl, hb_w6⟩
      obtain ⟨hc_w6, hf_w6⟩ := bcell hb_w6; have hz_w6_w_0 : w.heap.size < w6.heap.size := (by have hzz := hb_w6.size; (try simp only [World.size_alloc, World.size_setCell, World.size_drew, World.heap_drewN] at hzz); omega); have hz_w6_w_1 : w.heap.size + 1 < w6.heap.size := (by have hzz := hb_w6.size; (try simp only [World.size_alloc, World.size_setCell, World.size_drew, World.heap_drewN] at hzz); omega); have hz_w6_w3_0 : w3.heap.size < w6.heap.size := (by have hzz := hb_w6.size; (try simp only [World.size_alloc, World.size_setCell, World.size_drew, World.heap_drewN] at hzz); omega); have hz_w6_w4_0 : w4.heap.size < w6.heap.size := (by have hzz := hb_w6.size; (try simp only [World.size_alloc, World.size_setCell, World.size_drew, World.heap_drewN] at hzz); omega); have hz_w6_w5_0 : w5.heap.size < w6.heap.size := (by have hzz := hb_w6.size; (try simp only [World.size_alloc, World.size_setCell, World.size_drew, World.heap_drewN] at hzz); omega); have hs_w6 := hb_w6.size; (try simp only [World.size_alloc, World.size_setCell, World.size_drew, World.heap_drewN] at hs_w6)
      go_wp2_with fail
      go_at_call 22
      refine (G2.out _ _ _ (hr.later (by repeat (first | exact Below.refl _ _ | assumption | (refine below_drewN ?_ _) | (refine Below.drew ?_) | (refine Below.alloc ?_ (by first | omega | (simp; omega) | simp) _) | (refine Below.setCell ?_ (by first | omega | (simp; omega) | simp) _) | (refine below_trans ?_ (by assumption) (by first | omega | (simp; omega) | simp)))))).mono ?_
      rintro e w7 ⟨rfl, hb_w7⟩
      obtain ⟨hc_w7, hf_w7⟩ := bcell hb_w7; have hz_w7_w_0 : w.heap.size < w7.heap.size := (by have hzz := hb_w7.size; (try simp only [World.size_alloc, World.size_setCell, World.size_drew, World.heap_drewN] at hzz); omega); have hz_w7_w_1 : w.heap.size + 1 < w7.heap.size := (by have hzz := hb_w7.size; (try simp only [World.size_alloc, World.size_setCell, World.size_drew, World.heap_drewN] at hzz); omega); have hz_w7_w3_0 : w3.heap.size < w7.heap.size := (by have hzz := hb_w7.size; (try simp only [World.size_alloc, World.size_setCell, World.size_drew, World.heap_drewN] at hzz); omega); have hz_w7_w4_0 : w4.heap.size < w7.heap.size := (by have hzz := hb_w7.size; (try simp only [World.size_alloc, World.size_setCell, World.size_drew, World.heap_drewN] at hzz); omega); have hz_w7_w5_0 : w5.heap.size < w7.heap.size := (by have hzz := hb_w7.size; (try simp only [World.size_alloc, World.size_setCell, World.size_drew, World.heap_drewN] at hzz); omega); have hs_w7 := hb_w7.size; (try simp only [World.size_alloc, World.size_setCell, World.size_drew, World.heap_drewN] at hs_w7)
      go_wp2_with fail
      go_at_call 22
      refine (G3.out _ _ _ (hs.later (by repeat (first | exact Below.refl _ _ | assumption | (refine below_drewN ?_ _) | (refine Below.drew ?_) | (refine Below.alloc ?_ (by first | omega | (simp; omega) | simp) _) | (refine Below.setCell ?_ (by first | omega | (simp; omega) | simp) _) | (refine below_trans ?_ (by assumption) (by first | omega | (simp; omega) | simp)))))).mono ?_
      rintro e w8 ⟨rfl, hb_w8⟩
      obtain ⟨hc_w8, hf_w8⟩ := bcell hb_w8; have hz_w8_w_0 : w.heap.size < w8.heap.size := (by have hzz := hb_w8.size; (try simp only [World.size_alloc, World.size_setCell, World.size_drew, World.heap_drewN] at hzz); omega); have hz_w8_w_1 : w.heap.size + 1 < w8.heap.size := (by have hzz := hb_w8.size; (try simp only [World.size_alloc, World.size_setCell, World.size_drew, World.heap_drewN] at hzz); omega); have hz_w8_w3_0 : w3.heap.size < w8.heap.size := (by have hzz := hb_w8.size; (try simp only [World.size_alloc, World.size_setCell, World.size_drew, World.heap_drewN] at hzz); omega); have hz_w8_w4_0 : w4.heap.size < w8.heap.size := (by have hzz := hb_w8.size; (try simp only [World.size_alloc, World.size_setCell, World.size_drew, World.heap_drewN] at hzz); omega); have hz_w8_w5_0 : w5.heap.size < w8.heap.size := (by have hzz := hb_w8.size; (try simp only [World.size_alloc, World.size_setCell, World.size_drew, World.heap_drewN] at hzz); omega); have hs_w8 := hb_w8.size; (try simp only [World.size_alloc, World.size_setCell, World.size_drew, World.heap_drewN] at hs_w8)
      go_wp2_with fail
      go_at_call 18
      refine (same_ok N vs hvs _ _ _ _ _ (ho3.row.later (by repeat (first | exact Below.refl _ _ | assumption | (refine below_drewN ?_ _) | (refine Below.drew ?_) | (refine Below.alloc ?_ (by first | omega | (simp; omega) | simp) _) | (refine Below.setCell ?_ (by first | omega | (simp; omega) | simp) _) | (refine below_trans ?_ (by assumption) (by first | omega | (simp; omega) | simp))))) (ho4.row.later (by repeat (first | exact Below.refl _ _ | assumption | (refine below_drewN ?_ _) | (refine Below.drew ?_) | (refine Below.alloc ?_ (by first | omega | (simp; omega) | simp) _) | (refine Below.setCell ?_ (by first | omega | (simp; omega) | simp) _) | (refine below_trans ?_ (by assumption) (by first | omega | (simp; omega) | simp)))))).mono ?_
      rintro e w9 ⟨rfl, hb_w9⟩
      obtain ⟨hc_w9, hf_w9⟩ := bcell hb_w9; have hz_w9_w_0 : w.heap.size < w9.heap.size := (by have hzz := hb_w9.size; (try simp only [World.size_alloc, World.size_setCell, World.size_drew, World.heap_drewN] at hzz); omega); have hz_w9_w_1 : w.heap.size + 1 < w9.heap.size := (by have hzz := hb_w9.size; (try simp only [World.size_alloc, World.size_setCell, World.size_drew, World.heap_drewN] at hzz); omega); have hz_w9_w3_0 : w3.heap.size < w9.heap.size := (by have hzz := hb_w9.size; (try simp only [World.size_alloc, World.size_setCell, World.size_drew, World.heap_drewN] at hzz); omega); have hz_w9_w4_0 : w4.heap.size < w9.heap.size := (by have hzz := hb_w9.size; (try simp only [World.size_alloc, World.size_setCell, World.size_drew, World.heap_drewN] at hzz); omega); have hz_w9_w5_0 : w5.heap.size < w9.heap.size := (by have hzz := hb_w9.size; (try simp only [World.size_alloc, World.size_setCell, World.size_drew, World.heap_drewN] at hzz); omega); have hs_w9 := hb_w9.size; (try simp only [World.size_alloc, World.size_setCell, World.size_drew, World.heap_drewN] at hs_w9)
      go_wp2_with fail
      go_at_call 18
      refine (same_ok N ws hws _ _ _ _ _ (ho5.row.later (by repeat (first | exact Below.refl _ _ | assumption | (refine below_drewN ?_ _) | (refine Below.drew ?_) | (refine Below.alloc ?_ (by first | omega | (simp; omega) | simp) _) | (refine Below.setCell ?_ (by first | omega | (simp; omega) | simp) _) | (refine below_trans ?_ (by assumption) (by first | omega | (simp; omega) | simp))))) (hr.later (by repeat (first | exact Below.refl _ _ | assumption | (refine below_drewN ?_ _) | (refine Below.drew ?_) | (refine Below.alloc ?_ (by first | omega | (simp; omega) | simp) _) | (refine Below.setCell ?_ (by first | omega | (simp; omega) | simp) _) | (refine below_trans ?_ (by assumption) (by first | omega | (simp; omega) | simp)))))).mono ?_
      rintro e w10 ⟨rfl, hb_w10⟩
      obtain ⟨hc_w10, hf_w10⟩ := bcell hb_w10; have hz_w10_w_0 : w.heap.size < w10.heap.size := (by have hzz := hb_w10.size; (try simp only [World.size_alloc, World.size_setCell, World.size_drew, World.heap_drewN] at hzz); omega); have hz_w10_w_1 : w.heap.size + 1 < w10.heap.size := (by have hzz := hb_w10.size; (try simp only [World.size_alloc, World.size_setCell, World.size_drew, World.heap_drewN] at hzz); omega); have hz_w10_w3_0 : w3.heap.size < w10.heap.size := (by have hzz := hb_w10.size; (try simp only [World.size_alloc, World.size_setCell, World.size_drew, World.heap_drewN] at hzz); omega); have hz_w10_w4_0 : w4.heap.size < w10.heap.size := (by have hzz := hb_w10.size; (try simp only [World.size_alloc, World.size_setCell, World.size_drew, World.heap_drewN] at hzz); omega); have hz_w10_w5_0 : w5.heap.size < w10.heap.size := (by have hzz := hb_w10.size; (try simp only [World.size_alloc, World.size_setCell, World.size_drew, World.heap_drewN] at hzz); omega); have hs_w10 := hb_w10.size; (try simp only [World.size_alloc, World.size_setCell, World.size_drew, World.heap_drewN] at hs_w10)
      go_wp2
      go_ret
      exact ⟨rfl, (by repeat (first | exact Below.refl _ _ | assumption | (refine below_drewN ?_ _) | (refine Below.drew ?_) | (refine Below.alloc ?_ (by first | omega | (simp; omega) | simp) _) | (refine Below.setCell ?_ (by first | omega | (simp; omega) | simp) _) | (refine below_trans ?_ (by assumption) (by first | omega | (simp; omega) | simp))))⟩
end

theorem bitsFilled_walk (N : Int) (A : Option Addr) (cap : Nat) (ws : List Nat) (a c : Int) (w : World) (hr : Row w w.heap.size A ws) (h63 : a ≤ 9223372036854775807) (h63' : c ≤ 9223372036854775807) :
    Calls Try.prog 11 #[.agg #[.int .i64 N, .slice A ws.length cap], .int .i64 a, .int .i64 c] w fun e w' => e = .returned (.bool true) ∧ Below w.heap.size w w' := by
  by_cases h : Right N ws
  · by_cases hi : 0 ≤ a ∧ 0 ≤ c ∧ c ≤ N - a
    · obtain ⟨h0, h1, h2⟩ := hi
      have hl := h.long
      have hN := h.2.1
      have hX : Right N (fillW ws a.toNat c.toNat false) := right_fillW h _ _ _ (by omega)
      have hY : Right N (fillW (fillW ws a.toNat c.toNat false) a.toNat c.toNat true) := right_fillW hX _ _ _ (by omega)
      have hz : ∀ j, a.toNat ≤ j → j < a.toNat + c.toNat → tb (fillW ws a.toNat c.toNat false) j = false := fun j g1 g2 => by
        rw [tb_fillW _ _ _ _ _ (by omega), if_pos ⟨g1, g2⟩]
      have hc := countTo_fill (fillW ws a.toNat c.toNat false) a.toNat c.toNat N.toNat (by omega) (by rw [length_fillW]; omega) hz
      have c1 := countTo_le (fillW ws a.toNat c.toNat false) N.toNat
      have c2 := countTo_le (fillW (fillW ws a.toNat c.toNat false) a.toNat c.toNat true) N.toNat
      have Z : ∀ (w : World) (A : Option Addr) (cap : Nat), Row w w.heap.size A (fillW (fillW ws a.toNat c.toNat false) a.toNat c.toNat true) → Calls Try.prog 26 #[.agg #[.int .i64 N, .slice A (fillW (fillW ws a.toNat c.toNat false) a.toNat c.toNat true).length cap], .int .i64 a, .int .i64 c, .bool false] w fun e w' => Fresh w N (fillW ws a.toNat c.toNat false) 0 e w' := fun w A cap hs => by
        have := fill_in cap a c false hs hY h0 h1 h2
        rwa [fill_again ws hr.words a.toNat c.toNat (by omega)] at this
      by_cases e : c = 0
      · exact filled_ok cap a c (countTo (fillW ws a.toNat c.toNat false) N.toNat : Nat) (countTo (fillW (fillW ws a.toNat c.toNat false) a.toNat c.toNat true) N.toNat : Nat) 0 1 _ _ hr (by omega) (by omega) (by omega) (by have := right_len hX; unfold maxLen; omega) (.inl (by simpa using e))
          (fun w A cap hr => fill_in cap a c false hr h h0 h1 h2) (fun w A cap hr => fill_in cap a c true hr hX h0 h1 h2) Z (fun w A cap hr => count_ok cap hr hX) (fun w A cap hr => count_ok cap hr hY) (fun w A cap hr => run_out cap c hr hX (by omega))
      · obtain ⟨t, y, hp⟩ := run_ex (fillW ws a.toNat c.toNat false) c (by omega) N.toNat
        rw [show ((N.toNat : Nat) : Int) = N by omega] at hp
        obtain ⟨rfl, ht⟩ := run_within _ a.toNat c.toNat N t y (by omega) (by omega) hz (by rw [show ((c.toNat : Nat) : Int) = c by omega]; exact hp)
        exact filled_ok cap a c (countTo (fillW ws a.toNat c.toNat false) N.toNat : Nat) (countTo (fillW (fillW ws a.toNat c.toNat false) a.toNat c.toNat true) N.toNat : Nat) t 0 _ _ hr (by omega) (by omega) (by omega) (by have := right_len hX; unfold maxLen; omega) (.inr ⟨by simpa using e, rfl, by simp; omega⟩)
          (fun w A cap hr => fill_in cap a c false hr h h0 h1 h2) (fun w A cap hr => fill_in cap a c true hr hX h0 h1 h2) Z (fun w A cap hr => count_ok cap hr hX) (fun w A cap hr => count_ok cap hr hY)
          (fun w A cap hr => (bits_run_in cap c hr hX (by omega) h63').mono fun _ _ ⟨g1, g2⟩ => ⟨g1.is (fun i' why' h' => h'.one hp), g2⟩)
    · exact filled_err cap a c 1 N ws hr rfl (fun w A cap hr => fill_out cap a c false hr h h63 hi)
  · exact filled_err cap a c 2 0 [] hr rfl (fun w A cap hr => fill_bad cap a c false hr h)

theorem bitsCommon_walk (N M : Int) (A C : Option Addr) (cap cap' : Nat) (ws us : List Nat) (i : Int) (w : World) (hr : Row w w.heap.size A ws) (hs : Row w w.heap.size C us) :
    Calls Try.prog 12 #[.agg #[.int .i64 N, .slice A ws.length cap], .agg #[.int .i64 M, .slice C us.length cap'], .int .i64 i] w fun e w' => e = .returned (.bool true) ∧ Below w.heap.size w w' := by
  by_cases h : Right N ws
  · by_cases h' : Right M us
    · by_cases hne : N = M
      · subst hne
        have hl := right_same h h'
        have hV : Right N (bothTo ws us us.length) := by
          refine ⟨h.1, h.2.1, by rw [length_bothTo]; exact h.2.2.1, fun j g1 g2 => ?_⟩
          rw [length_bothTo] at g2
          rw [← hl, tb_both ws us j hl, h.2.2.2 j g1 g2, Bool.false_and]
        have hvs : (bothTo ws us us.length).length ≤ maxLen := by have := right_len hV; unfold maxLen; omega
        have hws : ws.length ≤ maxLen := by have := right_len h; unfold maxLen; omega
        have P' : ∀ (w : World) (A C : Option Addr) (cap cap' : Nat), Row w w.heap.size A ws → Row w w.heap.size C us → Calls Try.prog 35 #[.agg #[.int .i64 N, .slice C us.length cap], .agg #[.int .i64 N, .slice A ws.length cap']] w fun e w' => Fresh w N (bothTo ws us us.length) 0 e w' := fun w A C cap cap' hr hs => by
          have := both_ok cap cap' hs hr h' h
          rwa [both_comm ws us hr.words hs.words hl] at this
        have P'' : ∀ (w : World) (A : Option Addr) (cap : Nat), Row w w.heap.size A ws → Calls Try.prog 35 #[.agg #[.int .i64 N, .slice A ws.length cap], .agg #[.int .i64 N, .slice A ws.length cap]] w fun e w' => Fresh w N ws 0 e w' := fun w A cap hr => by
          have := both_ok cap cap hr hr h h
          rwa [both_self ws hr.words] at this
        by_cases hi : 0 ≤ i ∧ i < N
        · exact common_ok cap us (bothTo ws us us.length) cap' i 0 (tb (bothTo ws us us.length) i.toNat) (tb ws i.toNat) (tb us i.toNat) hr hs hvs hws (.inr ⟨rfl, by rw [← hl, tb_both ws us _ hl]⟩) (fun w A C cap cap' hr hs => both_ok cap cap' hr hs h h') P' P''
            (fun w A cap hr => get_in cap i hr hV hi.1 hi.2) (fun w A cap hr => get_in cap i hr h hi.1 hi.2) (fun w A cap hr => get_in cap i hr h' hi.1 hi.2)
        · exact common_ok cap us (bothTo ws us us.length) cap' i 1 false false false hr hs hvs hws (.inl rfl) (fun w A C cap cap' hr hs => both_ok cap cap' hr hs h h') P' P''
            (fun w A cap hr => get_out cap i hr hV hi) (fun w A cap hr => get_out cap i hr h hi) (fun w A cap hr => get_out cap i hr h' hi)
      · exact common_err cap M us cap' i hr hs fun w A C cap cap' hr hs => both_len cap cap' hr hs h h' hne
    · exact common_err cap M us cap' i hr hs fun w A C cap cap' hr hs => both_bad2 cap cap' hr hs h h'
  · exact common_err cap M us cap' i hr hs fun w A C cap cap' hr hs => both_bad1 cap cap' hr h
end Go.Proofs.Ytbhblffomlhopaa
