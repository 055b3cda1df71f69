/- The walk of the law BitsRun. -/
import Derived.Test.YtbhblffomlhopaaAsks
import Derived.Test.YtbhblffomlhopaaSpec2
namespace Go.Proofs.Ytbhblffomlhopaa
open Go.RowKit
set_option linter.unusedVariables false
set_option linter.unusedSimpArgs false

section
variable {N : Int} {A : Option Addr} {ws : List Nat} {w : World} (cap : Nat)
theorem run_err (c why : Int) (hr : Row w w.heap.size A ws) (hne : (why != 0) = true)
    (R : ∀ (w : World) (A : Option Addr) (cap : Nat), Row w w.heap.size A ws → Calls Try.prog 32 #[.agg #[.int .i64 N, .slice A ws.length cap], .int .i64 c] w fun e w' => e = .returned (.tuple #[.int .i64 0, .int .i64 why]) ∧ Below w.heap.size w w') :
    Calls Try.prog 9 #[.agg #[.int .i64 N, .slice A ws.length cap], .int .i64 c] w fun e w' => e = .returned (.bool true) ∧ Below w.heap.size w w' := by
  have R1 := Lib.hid R
  clear R
  go_enter Try.func9, Try.ntmps9
  go_wp2_with fail
  go_at_call 17
  refine (puts_any _).mono ?_
  rintro e w1 ⟨rfl, hb_w1⟩
  obtain ⟨hc_w1, hf_w1⟩ := bcell hb_w1; have hz_w1_w_0 : w.heap.size < w1.heap.size := (by have hzz := hb_w1.size; (try simp only [World.size_alloc, World.size_setCell, World.size_drew, World.heap_drewN] at hzz); omega); have hs_w1 := hb_w1.size; (try simp only [World.size_alloc, World.size_setCell, World.size_drew, World.heap_drewN] at hs_w1)
  go_wp2_with fail
  go_at_call 34
  refine (asks_any _).mono ?_
  rintro e w2 ⟨rfl, hb_w2⟩
  obtain ⟨hc_w2, hf_w2⟩ := bcell hb_w2; have hz_w2_w_0 : w.heap.size < w2.heap.size := (by have hzz := hb_w2.size; (try simp only [World.size_alloc, World.size_setCell, World.size_drew, World.heap_drewN] at hzz); omega); have hs_w2 := hb_w2.size; (try simp only [World.size_alloc, World.size_setCell, World.size_drew, World.heap_drewN] at hs_w2)
  go_wp2_with fail
  go_at_call 32
  refine (R1.out _ _ _ (hr.later (by repeat (first | exact Below.refl _ _ | assumption | (refine below_drewN ?_ _) | (refine Below.drew ?_) | (refine Below.alloc ?_ (by first | omega | (simp; omega) | simp) _) | (refine Below.setCell ?_ (by first | omega | (simp; omega) | simp) _) | (refine below_trans ?_ (by assumption) (by first | omega | (simp; omega) | simp)))))).mono ?_
  rintro e w3 ⟨rfl, hb_w3⟩
  obtain ⟨hc_w3, hf_w3⟩ := bcell hb_w3; have hz_w3_w_0 : w.heap.size < w3.heap.size := (by have hzz := hb_w3.size; (try simp only [World.size_alloc, World.size_setCell, World.size_drew, World.heap_drewN] at hzz); omega); have hs_w3 := hb_w3.size; (try simp only [World.size_alloc, World.size_setCell, World.size_drew, World.heap_drewN] at hs_w3)
  go_wp2
  go_ret
  exact ⟨rfl, (by repeat (first | exact Below.refl _ _ | assumption | (refine below_drewN ?_ _) | (refine Below.drew ?_) | (refine Below.alloc ?_ (by first | omega | (simp; omega) | simp) _) | (refine Below.setCell ?_ (by first | omega | (simp; omega) | simp) _) | (refine below_trans ?_ (by assumption) (by first | omega | (simp; omega) | simp))))⟩
set_option maxHeartbeats 4000000 in
theorem run_ok (c t n m t2 y2 : Int) (us : List Nat) (hr : Row w w.heap.size A ws) (hc : 1 ≤ c ∧ c ≤ 4096) (ht : 0 ≤ t ∧ t ≤ 4096) (hn : 0 ≤ n ∧ n ≤ 4096) (hm : 0 ≤ m ∧ m ≤ 4096) (hd : m - n = c) (hq : (y2 == 3) = true ∨ ((y2 == 3) = false ∧ (y2 == 0) = true ∧ decide (t + c ≤ t2) = true))
    (R : ∀ (w : World) (A : Option Addr) (cap : Nat), Row w w.heap.size A ws → Calls Try.prog 32 #[.agg #[.int .i64 N, .slice A ws.length cap], .int .i64 c] w fun e w' => e = .returned (.tuple #[.int .i64 t, .int .i64 0]) ∧ Below w.heap.size w w')
    (G : ∀ i : Int, 0 ≤ i → i < c → ∀ (w : World) (A : Option Addr) (cap : Nat), Row w w.heap.size A ws → Calls Try.prog 22 #[.agg #[.int .i64 N, .slice A ws.length cap], .int .i64 (t + i)] w fun e w' => e = .returned (.tuple #[.bool false, .int .i64 0]) ∧ Below w.heap.size w w')
    (H : 0 < t → ∀ (w : World) (A : Option Addr) (cap : Nat), Row w w.heap.size A ws → Calls Try.prog 22 #[.agg #[.int .i64 N, .slice A ws.length cap], .int .i64 (t - 1)] w fun e w' => e = .returned (.tuple #[.bool true, .int .i64 0]) ∧ Below w.heap.size w w')
    (F : ∀ (w : World) (A : Option Addr) (cap : Nat), Row w w.heap.size A ws → Calls Try.prog 26 #[.agg #[.int .i64 N, .slice A ws.length cap], .int .i64 t, .int .i64 c, .bool true] w fun e w' => Fresh w N us 0 e w')
    (R' : ∀ (w : World) (A : Option Addr) (cap : Nat), Row w w.heap.size A us → Calls Try.prog 32 #[.agg #[.int .i64 N, .slice A us.length cap], .int .i64 c] w fun e w' => e = .returned (.tuple #[.int .i64 t2, .int .i64 y2]) ∧ Below w.heap.size w w')
    (C : ∀ (w : World) (A : Option Addr) (cap : Nat), Row w w.heap.size A ws → Calls Try.prog 28 #[.agg #[.int .i64 N, .slice A ws.length cap]] w fun e w' => e = .returned (.tuple #[.int .i64 n, .int .i64 0]) ∧ Below w.heap.size w w')
    (C' : ∀ (w : World) (A : Option Addr) (cap : Nat), Row w w.heap.size A us → Calls Try.prog 28 #[.agg #[.int .i64 N, .slice A us.length cap]] w fun e w' => e = .returned (.tuple #[.int .i64 m, .int .i64 0]) ∧ Below w.heap.size w w') :
    Calls Try.prog 9 #[.agg #[.int .i64 N, .slice A ws.length cap], .int .i64 c] w fun e w' => e = .returned (.bool true) ∧ Below w.heap.size w w' := by
  have R1 := Lib.hid R
  have R2 := Lib.hid R'
  have G1 := Lib.hid G
  have H1 := Lib.hid H
  have F1 := Lib.hid F
  have C1 := Lib.hid C
  have C2 := Lib.hid C'
  have hd2 : (m - n == c) = true := by simpa using hd
  clear R R' G H F C C' hd
  rcases hq with hq | ⟨hq, hq1, hq2⟩
  all_goals
    go_enter Try.func9, Try.ntmps9
    go_wp2_with fail
    go_at_call 17
    refine (puts_any _).mono ?_
    rintro e w1 ⟨rfl, hb_w1⟩
    obtain ⟨hc_w1, hf_w1⟩ := bcell hb_w1; have hz_w1_w_0 : w.heap.size < w1.heap.size := (by have hzz := hb_w1.size; (try simp only [World.size_alloc, World.size_setCell, World.size_drew, World.heap_drewN] at hzz); omega); have hs_w1 := hb_w1.size; (try simp only [World.size_alloc, World.size_setCell, World.size_drew, World.heap_drewN] at hs_w1)
    go_wp2_with fail
    go_at_call 34
    refine (asks_any _).mono ?_
    rintro e w2 ⟨rfl, hb_w2⟩
    obtain ⟨hc_w2, hf_w2⟩ := bcell hb_w2; have hz_w2_w_0 : w.heap.size < w2.heap.size := (by have hzz := hb_w2.size; (try simp only [World.size_alloc, World.size_setCell, World.size_drew, World.heap_drewN] at hzz); omega); have hs_w2 := hb_w2.size; (try simp only [World.size_alloc, World.size_setCell, World.size_drew, World.heap_drewN] at hs_w2)
    go_wp2_with fail
    go_at_call 32
    refine (R1.out _ _ _ (hr.later (by repeat (first | exact Below.refl _ _ | assumption | (refine below_drewN ?_ _) | (refine Below.drew ?_) | (refine Below.alloc ?_ (by first | omega | (simp; omega) | simp) _) | (refine Below.setCell ?_ (by first | omega | (simp; omega) | simp) _) | (refine below_trans ?_ (by assumption) (by first | omega | (simp; omega) | simp)))))).mono ?_
    rintro e w3 ⟨rfl, hb_w3⟩
    obtain ⟨hc_w3, hf_w3⟩ := bcell hb_w3; have hz_w3_w_0 : w.heap.size < w3.heap.size := (by have hzz := hb_w3.size; (try simp only [World.size_alloc, World.size_setCell, World.size_drew, World.heap_drewN] at hzz); omega); have hs_w3 := hb_w3.size; (try simp only [World.size_alloc, World.size_setCell, World.size_drew, World.heap_drewN] at hs_w3)
    have q0 : w3.cell? ⟨w.heap.size, 0, none⟩ = some (.int .i64 N) := (hc_w3 _ _ (by first | omega | (simp; omega) | simp)).trans ((hc_w2 _ _ (by first | omega | (simp; omega) | simp)).trans ((hc_w1 _ _ (by first | omega | (simp; omega) | simp)).trans (by simp [go_sem])))
    have q1 : w3.cell? ⟨w.heap.size, 1, none⟩ = some (.slice A ws.length cap) := (hc_w3 _ _ (by first | omega | (simp; omega) | simp)).trans ((hc_w2 _ _ (by first | omega | (simp; omega) | simp)).trans ((hc_w1 _ _ (by first | omega | (simp; omega) | simp)).trans (by simp [go_sem])))
    have hbw : Below w.heap.size w w3 := (by repeat (first | exact Below.refl _ _ | assumption | (refine below_drewN ?_ _) | (refine Below.drew ?_) | (refine Below.alloc ?_ (by first | omega | (simp; omega) | simp) _) | (refine Below.setCell ?_ (by first | omega | (simp; omega) | simp) _) | (refine below_trans ?_ (by assumption) (by first | omega | (simp; omega) | simp))))
    clear hc_w1 hf_w1 hc_w2 hf_w2 hc_w3 hf_w3
    go_wp2_with fail
    go_loopw [7] (fun i wr => ∃ k : Nat, i = .int .i64 k ∧ (k : Int) ≤ c ∧ Below w3.heap.size w3 wr) (fun i _ => c.toNat - (intOf i).toNat)
    case atStart => exact ⟨0, rfl, by omega, Below.refl _ _⟩
    case round =>
      obtain ⟨k, rfl, hk, hb_wr⟩ := hrel
      have hz_wr1 := hb_wr.size
      have hz_wr : w.heap.size < wr.heap.size := by omega
      have z0 := ((bcell hb_wr).1 _ 0 hz_w3_w_0).trans q0
      have z1 := ((bcell hb_wr).1 _ 1 hz_w3_w_0).trans q1
      have hbr : Below w.heap.size w wr := below_trans hbw hb_wr hbw.size
      by_cases hlt : (k : Int) < c
      · skip
        go_wp2_with fail
        go_at_call 22
        refine (G1.out k (by omega) hlt _ _ _ (hr.later hbr)).mono ?_
        rintro e w4 ⟨rfl, hb_w4⟩
        obtain ⟨hc_w4, hf_w4⟩ := bcell hb_w4; have hz_w4_w_0 : w.heap.size < w4.heap.size := (by have hzz := hb_w4.size; (try simp only [World.size_alloc, World.size_setCell, World.size_drew, World.heap_drewN] at hzz); omega); have hs_w4 := hb_w4.size; (try simp only [World.size_alloc, World.size_setCell, World.size_drew, World.heap_drewN] at hs_w4)
        go_wp2
        go_roundw
        case rel => exact ⟨k + 1, by go_num, by omega, (by repeat (first | exact Below.refl _ _ | assumption | (refine below_drewN ?_ _) | (refine Below.drew ?_) | (refine Below.alloc ?_ (by first | omega | (simp; omega) | simp) _) | (refine Below.setCell ?_ (by first | omega | (simp; omega) | simp) _) | (refine below_trans ?_ (by assumption) (by first | omega | (simp; omega) | simp))))⟩
        case measure => simp [intOf]; omega
      · by_cases ht0 : 0 < t
        · skip
          go_wp2_with fail
          go_at_call 22
          refine (H1.out ht0 _ _ _ (hr.later hbr)).mono ?_
          rintro e w5 ⟨rfl, hb_w5⟩
          obtain ⟨hc_w5, hf_w5⟩ := bcell hb_w5; have hz_w5_w_0 : w.heap.size < w5.heap.size := (by have hzz := hb_w5.size; (try simp only [World.size_alloc, World.size_setCell, World.size_drew, World.heap_drewN] at hzz); omega); have hs_w5 := hb_w5.size; (try simp only [World.size_alloc, World.size_setCell, World.size_drew, World.heap_drewN] at hs_w5)
          go_wp2_with fail
          go_at_call 26
          refine (F1.out _ _ _ (hr.later (by repeat (first | exact Below.refl _ _ | assumption | (refine below_drewN ?_ _) | (refine Below.drew ?_) | (refine Below.alloc ?_ (by first | omega | (simp; omega) | simp) _) | (refine Below.setCell ?_ (by first | omega | (simp; omega) | simp) _) | (refine below_trans ?_ (by assumption) (by first | omega | (simp; omega) | simp)))))).mono ?_
          rintro e w6 ⟨A6, cap6, rfl, ho6, hb_w6⟩
          obtain ⟨hc_w6, hf_w6⟩ := bcell hb_w6; have hz_w6_w_0 : w.heap.size < w6.heap.size := (by have hzz := hb_w6.size; (try simp only [World.size_alloc, World.size_setCell, World.size_drew, World.heap_drewN] at hzz); omega); have hs_w6 := hb_w6.size; (try simp only [World.size_alloc, World.size_setCell, World.size_drew, World.heap_drewN] at hs_w6)
          go_wp2_with fail
          go_at_call 32
          refine (R2.out _ _ _ (ho6.row.later (by repeat (first | exact Below.refl _ _ | assumption | (refine below_drewN ?_ _) | (refine Below.drew ?_) | (refine Below.alloc ?_ (by first | omega | (simp; omega) | simp) _) | (refine Below.setCell ?_ (by first | omega | (simp; omega) | simp) _) | (refine below_trans ?_ (by assumption) (by first | omega | (simp; omega) | simp)))))).mono ?_
          rintro e w7 ⟨rfl, hb_w7⟩
          obtain ⟨hc_w7, hf_w7⟩ := bcell hb_w7; have hz_w7_w_0 : w.heap.size < w7.heap.size := (by have hzz := hb_w7.size; (try simp only [World.size_alloc, World.size_setCell, World.size_drew, World.heap_drewN] at hzz); omega); have hz_w7_w6_0 : w6.heap.size < w7.heap.size := (by have hzz := hb_w7.size; (try simp only [World.size_alloc, World.size_setCell, World.size_drew, World.heap_drewN] at hzz); omega); have hs_w7 := hb_w7.size; (try simp only [World.size_alloc, World.size_setCell, World.size_drew, World.heap_drewN] at hs_w7)
          go_wp2_with fail
          go_at_call 28
          refine (C1.out _ _ _ (hr.later (by repeat (first | exact Below.refl _ _ | assumption | (refine below_drewN ?_ _) | (refine Below.drew ?_) | (refine Below.alloc ?_ (by first | omega | (simp; omega) | simp) _) | (refine Below.setCell ?_ (by first | omega | (simp; omega) | simp) _) | (refine below_trans ?_ (by assumption) (by first | omega | (simp; omega) | simp)))))).mono ?_
          rintro e w8 ⟨rfl, hb_w8⟩
          obtain ⟨hc_w8, hf_w8⟩ := bcell hb_w8; have hz_w8_w_0 : w.heap.size < w8.heap.size := (by have hzz := hb_w8.size; (try simp only [World.size_alloc, World.size_setCell, World.size_drew, World.heap_drewN] at hzz); omega); have hz_w8_w6_0 : w6.heap.size < w8.heap.size := (by have hzz := hb_w8.size; (try simp only [World.size_alloc, World.size_setCell, World.size_drew, World.heap_drewN] at hzz); omega); have hs_w8 := hb_w8.size; (try simp only [World.size_alloc, World.size_setCell, World.size_drew, World.heap_drewN] at hs_w8)
          go_wp2_with fail
          go_at_call 28
          refine (C2.out _ _ _ (ho6.row.later (by repeat (first | exact Below.refl _ _ | assumption | (refine below_drewN ?_ _) | (refine Below.drew ?_) | (refine Below.alloc ?_ (by first | omega | (simp; omega) | simp) _) | (refine Below.setCell ?_ (by first | omega | (simp; omega) | simp) _) | (refine below_trans ?_ (by assumption) (by first | omega | (simp; omega) | simp)))))).mono ?_
          rintro e w9 ⟨rfl, hb_w9⟩
          obtain ⟨hc_w9, hf_w9⟩ := bcell hb_w9; have hz_w9_w_0 : w.heap.size < w9.heap.size := (by have hzz := hb_w9.size; (try simp only [World.size_alloc, World.size_setCell, World.size_drew, World.heap_drewN] at hzz); omega); have hz_w9_w6_0 : w6.heap.size < w9.heap.size := (by have hzz := hb_w9.size; (try simp only [World.size_alloc, World.size_setCell, World.size_drew, World.heap_drewN] at hzz); omega); have hs_w9 := hb_w9.size; (try simp only [World.size_alloc, World.size_setCell, World.size_drew, World.heap_drewN] at hs_w9)
          go_wp2
          go_ret
          exact ⟨rfl, (by repeat (first | exact Below.refl _ _ | assumption | (refine below_drewN ?_ _) | (refine Below.drew ?_) | (refine Below.alloc ?_ (by first | omega | (simp; omega) | simp) _) | (refine Below.setCell ?_ (by first | omega | (simp; omega) | simp) _) | (refine below_trans ?_ (by assumption) (by first | omega | (simp; omega) | simp))))⟩
        · skip
          go_wp2_with fail
          go_at_call 26
          refine (F1.out _ _ _ (hr.later (by repeat (first | exact Below.refl _ _ | assumption | (refine below_drewN ?_ _) | (refine Below.drew ?_) | (refine Below.alloc ?_ (by first | omega | (simp; omega) | simp) _) | (refine Below.setCell ?_ (by first | omega | (simp; omega) | simp) _) | (refine below_trans ?_ (by assumption) (by first | omega | (simp; omega) | simp)))))).mono ?_
          rintro e w6 ⟨A6, cap6, rfl, ho6, hb_w6⟩
          obtain ⟨hc_w6, hf_w6⟩ := bcell hb_w6; have hz_w6_w_0 : w.heap.size < w6.heap.size := (by have hzz := hb_w6.size; (try simp only [World.size_alloc, World.size_setCell, World.size_drew, World.heap_drewN] at hzz); omega); have hs_w6 := hb_w6.size; (try simp only [World.size_alloc, World.size_setCell, World.size_drew, World.heap_drewN] at hs_w6)
          go_wp2_with fail
          go_at_call 32
          refine (R2.out _ _ _ (ho6.row.later (by repeat (first | exact Below.refl _ _ | assumption | (refine below_drewN ?_ _) | (refine Below.drew ?_) | (refine Below.alloc ?_ (by first | omega | (simp; omega) | simp) _) | (refine Below.setCell ?_ (by first | omega | (simp; omega) | simp) _) | (refine below_trans ?_ (by assumption) (by first | omega | (simp; omega) | simp)))))).mono ?_
          rintro e w7 ⟨rfl, hb_w7⟩
          obtain ⟨hc_w7, hf_w7⟩ := bcell hb_w7; have hz_w7_w_0 : w.heap.size < w7.heap.size := (by have hzz := hb_w7.size; (try simp only [World.size_alloc, World.size_setCell, World.size_drew, World.heap_drewN] at hzz); omega); have hz_w7_w6_0 : w6.heap.size < w7.heap.size := (by have hzz := hb_w7.size; (try simp only [World.size_alloc, World.size_setCell, World.size_drew, World.heap_drewN] at hzz); omega); have hs_w7 := hb_w7.size; (try simp only [World.size_alloc, World.size_setCell, World.size_drew, World.heap_drewN] at hs_w7)
          go_wp2_with fail
          go_at_call 28
          refine (C1.out _ _ _ (hr.later (by repeat (first | exact Below.refl _ _ | assumption | (refine below_drewN ?_ _) | (refine Below.drew ?_) | (refine Below.alloc ?_ (by first | omega | (simp; omega) | simp) _) | (refine Below.setCell ?_ (by first | omega | (simp; omega) | simp) _) | (refine below_trans ?_ (by assumption) (by first | omega | (simp; omega) | simp)))))).mono ?_
          rintro e w8 ⟨rfl, hb_w8⟩
          obtain ⟨hc_w8, hf_w8⟩ := bcell hb_w8; have hz_w8_w_0 : w.heap.size < w8.heap.size := (by have hzz := hb_w8.size; (try simp only [World.size_alloc, World.size_setCell, World.size_drew, World.heap_drewN] at hzz); omega); have hz_w8_w6_0 : w6.heap.size < w8.heap.size := (by have hzz := hb_w8.size; (try simp only [World.size_alloc, World.size_setCell, World.size_drew, World.heap_drewN] at hzz); omega); have hs_w8 := hb_w8.size; (try simp only [World.size_alloc, World.size_setCell, World.size_drew, World.heap_drewN] at hs_w8)
          go_wp2_with fail
          go_at_call 28
          refine (C2.out _ _ _ (ho6.row.later (by repeat (first | exact Below.refl _ _ | assumption | (refine below_drewN ?_ _) | (refine Below.drew ?_) | (refine Below.alloc ?_ (by first | omega | (simp; omega) | simp) _) | (refine Below.setCell ?_ (by first | omega | (simp; omega) | simp) _) | (refine below_trans ?_ (by assumption) (by first | omega | (simp; omega) | simp)))))).mono ?_
          rintro e w9 ⟨rfl, hb_w9⟩
          obtain ⟨hc_w9, hf_w9⟩ := bcell hb_w9; have hz_w9_w_0 : w.heap.size < w9.heap.size := (by have hzz := hb_w9.size; (try simp only [World.size_alloc, World.size_setCell, World.size_drew, World.heap_drewN] at hzz); omega); have hz_w9_w6_0 : w6.heap.size < w9.heap.size := (by have hzz := hb_w9.size; (try simp only [World.size_alloc, World.size_setCell, World.size_drew, World.heap_drewN] at hzz); omega); have hs_w9 := hb_w9.size; (try simp only [World.size_alloc, World.size_setCell, World.size_drew, World.heap_drewN] at hs_w9)
          go_wp2
          go_ret
          exact ⟨rfl, (by repeat (first | exact Below.refl _ _ | assumption | (refine below_drewN ?_ _) | (refine Below.drew ?_) | (refine Below.alloc ?_ (by first | omega | (simp; omega) | simp) _) | (refine Below.setCell ?_ (by first | omega | (simp; omega) | simp) _) | (refine below_trans ?_ (by assumption) (by first | omega | (simp; omega) | simp))))⟩
end

theorem bitsRun_walk (N : Int) (A : Option Addr) (cap : Nat) (ws : List Nat) (c : Int) (w : World) (hr : Row w w.heap.size A ws) (h63 : c ≤ 9223372036854775807) :
    Calls Try.prog 9 #[.agg #[.int .i64 N, .slice A ws.length cap], .int .i64 c] w fun e w' => e = .returned (.bool true) ∧ Below w.heap.size w w' := by
  by_cases h : Right N ws
  · by_cases hi : 1 ≤ c
    · have hl := h.long
      have hN := h.2.1
      have hN0 := h.1
      obtain ⟨t, y, hp⟩ := run_ex ws c hi N.toNat
      rw [show ((N.toNat : Nat) : Int) = N by omega] at hp
      have R : ∀ (w : World) (A : Option Addr) (cap : Nat), Row w w.heap.size A ws → Calls Try.prog 32 #[.agg #[.int .i64 N, .slice A ws.length cap], .int .i64 c] w fun e w' => e = .returned (.tuple #[.int .i64 t, .int .i64 y]) ∧ Below w.heap.size w w' :=
        fun w A cap hr => (bits_run_in cap c hr h hi h63).mono fun _ _ ⟨g1, g2⟩ => ⟨g1.is (fun i' why' h' => h'.one hp), g2⟩
      rcases hp with ⟨rfl, k, p1, p2, p3, rfl⟩ | ⟨rfl, rfl, p4⟩
      · have hzl := zs_le ws (k + 1)
        have hz : ∀ j, ((k : Int) - c + 1).toNat ≤ j → j < ((k : Int) - c + 1).toNat + c.toNat → tb ws j = false := fun j g1 g2 => zs_zero ws (k + 1) j (by omega) (by omega)
        have hY : Right N (fillW ws ((k : Int) - c + 1).toNat c.toNat true) := right_fillW h _ _ _ (by omega)
        have hc := countTo_fill ws ((k : Int) - c + 1).toNat c.toNat N.toNat (by omega) (by omega) hz
        have c1 := countTo_le ws N.toNat
        have c2 := countTo_le (fillW ws ((k : Int) - c + 1).toNat c.toNat true) N.toNat
        obtain ⟨t2, y2, hp2⟩ := run_ex (fillW ws ((k : Int) - c + 1).toNat c.toNat true) c hi N.toNat
        rw [show ((N.toNat : Nat) : Int) = N by omega] at hp2
        have hx := run_next ws c N t2 y2 k hi p1 hl p2 p3 hp2
        refine run_ok cap c ((k : Int) - c + 1) (countTo ws N.toNat : Nat) (countTo (fillW ws ((k : Int) - c + 1).toNat c.toNat true) N.toNat : Nat) t2 y2 _ hr (by omega) (by omega) (by omega) (by omega) (by omega) ?_ R ?_ ?_
          (fun w A cap hr => fill_in cap _ c true hr h (by omega) (by omega) (by omega)) (fun w A cap hr => (bits_run_in cap c hr hY hi h63).mono fun _ _ ⟨g1, g2⟩ => ⟨g1.is (fun i' why' h' => h'.one hp2), g2⟩) (fun w A cap hr => count_ok cap hr h) (fun w A cap hr => count_ok cap hr hY)
        · rcases hx with rfl | ⟨rfl, hx⟩
          · exact .inl rfl
          · exact .inr ⟨rfl, rfl, by simp only [decide_eq_true_eq]; omega⟩
        · intro i g0 g1 w A cap hr
          have := get_in cap ((k : Int) - c + 1 + i) hr h (by omega) (by omega)
          rwa [hz _ (by omega) (by omega)] at this
        · intro g0 w A cap hr
          have := get_in cap ((k : Int) - c + 1 - 1) hr h (by omega) (by omega)
          rwa [show ((k : Int) - c + 1 - 1).toNat = k + 1 - zs ws (k + 1) - 1 by omega, zs_ahead ws (k + 1) (by omega)] at this
      · exact run_err cap c 3 hr rfl R
    · exact run_err cap c 1 hr rfl (fun w A cap hr => run_out cap c hr h (by omega))
  · exact run_err cap c 2 hr rfl (fun w A cap hr => run_bad cap c hr h)
end Go.Proofs.Ytbhblffomlhopaa
