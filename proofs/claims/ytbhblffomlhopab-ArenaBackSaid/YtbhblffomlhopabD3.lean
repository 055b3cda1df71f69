/- The walk of the law ArenaBack. -/
import Derived.Test.YtbhblffomlhopabD2
namespace Go.Proofs.Ytbhblffomlhopab
open Go.RowKit
set_option linter.unusedVariables false
set_option linter.unusedSimpArgs false

set_option maxHeartbeats 1000000 in
theorem aback_err (t i n : Int) (cap : Nat) {A : Option Addr} {ws : List Nat} {w : World} (us : List Nat) (why : Int) (hr : Row w w.heap.size A ws) (hne : (why != 0) = true)
    (S : ∀ (w : World), Row w w.heap.size A ws → Calls Try.prog 15 #[.agg #[.slice A ws.length cap], .int .u64 t, .int .u64 i, .int .u64 n] w fun e w' => FreshA w us why e w') :
    Calls Try.prog 6 #[.agg #[.slice A ws.length cap], .int .u64 t, .int .u64 i, .int .u64 n] w fun e w' => e = .returned (.bool true) ∧ Below w.heap.size w w' := by
  have P := Lib.hid S
  clear S
  go_enter Try.func6, Try.ntmps6
  go_wp2_with fail
  go_at_call 19
  refine (moves_any _).mono ?_
  rintro e w1 ⟨rfl, hb_w1⟩
  obtain ⟨hc_w1, hf_w1⟩ := bcell hb_w1; have hs_w1 := hb_w1.size; (try simp only [World.size_alloc, World.size_setCell, World.size_drew, World.heap_drewN] at hs_w1)
  go_wp2_with fail
  go_at_call 15
  refine (P.out _ (hr.later (by repeat (first | exact Below.refl _ _ | assumption | (refine below_drewN ?_ _) | (refine Below.drew ?_) | (refine Below.alloc ?_ (by first | omega | (simp; omega) | simp) _) | (refine Below.setCell ?_ (by first | omega | (simp; omega) | simp) _) | (refine below_trans ?_ (by assumption) (by first | omega | (simp; omega) | simp)))))).mono ?_
  rintro e w2 ⟨A2, cap2, rfl, ho2, hb_w2⟩
  obtain ⟨hc_w2, hf_w2⟩ := bcell hb_w2; have hs_w2 := hb_w2.size; (try simp only [World.size_alloc, World.size_setCell, World.size_drew, World.heap_drewN] at hs_w2)
  go_wp2
  go_ret
  exact ⟨rfl, (by repeat (first | exact Below.refl _ _ | assumption | (refine below_drewN ?_ _) | (refine Below.drew ?_) | (refine Below.alloc ?_ (by first | omega | (simp; omega) | simp) _) | (refine Below.setCell ?_ (by first | omega | (simp; omega) | simp) _) | (refine below_trans ?_ (by assumption) (by first | omega | (simp; omega) | simp))))⟩
set_option maxHeartbeats 1000000 in
theorem aback_over (t i n : Nat) (cap : Nat) {A : Option Addr} {ws : List Nat} {w : World} (us : List Nat) (hr : Row w w.heap.size A ws) (ht : t < W64) (hi : i < W64) (hn : n < W64) (ho : (t < i ∧ i < t + n) ∨ (i ≤ t ∧ t < i + n))
    (S : ∀ (w : World), Row w w.heap.size A ws → Calls Try.prog 15 #[.agg #[.slice A ws.length cap], .int .u64 (t : Nat), .int .u64 (i : Nat), .int .u64 (n : Nat)] w fun e w' => FreshA w us 0 e w') :
    Calls Try.prog 6 #[.agg #[.slice A ws.length cap], .int .u64 (t : Nat), .int .u64 (i : Nat), .int .u64 (n : Nat)] w fun e w' => e = .returned (.bool true) ∧ Below w.heap.size w w' := by
  have P := Lib.hid S
  clear S
  unfold W64 at ht hi hn
  rcases ho with ⟨h1, h2⟩ | ⟨h1, h2⟩
  · have d1 : decide ((t : Int) < (i : Int)) = true := by simpa using h1
    have d2 : decide ((i : Int) - (t : Int) < (n : Int)) = true := by simp; omega
    go_enter Try.func6, Try.ntmps6
    go_wp2_with fail
    go_at_call 19
    refine (moves_any _).mono ?_
    rintro e w1 ⟨rfl, hb_w1⟩
    obtain ⟨hc_w1, hf_w1⟩ := bcell hb_w1; have hs_w1 := hb_w1.size; (try simp only [World.size_alloc, World.size_setCell, World.size_drew, World.heap_drewN] at hs_w1)
    go_wp2_with fail
    go_at_call 15
    refine (P.out _ (hr.later (by repeat (first | exact Below.refl _ _ | assumption | (refine below_drewN ?_ _) | (refine Below.drew ?_) | (refine Below.alloc ?_ (by first | omega | (simp; omega) | simp) _) | (refine Below.setCell ?_ (by first | omega | (simp; omega) | simp) _) | (refine below_trans ?_ (by assumption) (by first | omega | (simp; omega) | simp)))))).mono ?_
    rintro e w2 ⟨A2, cap2, rfl, ho2, hb_w2⟩
    obtain ⟨hc_w2, hf_w2⟩ := bcell hb_w2; have hs_w2 := hb_w2.size; (try simp only [World.size_alloc, World.size_setCell, World.size_drew, World.heap_drewN] at hs_w2)
    go_wp2
    go_ret
    exact ⟨rfl, (by repeat (first | exact Below.refl _ _ | assumption | (refine below_drewN ?_ _) | (refine Below.drew ?_) | (refine Below.alloc ?_ (by first | omega | (simp; omega) | simp) _) | (refine Below.setCell ?_ (by first | omega | (simp; omega) | simp) _) | (refine below_trans ?_ (by assumption) (by first | omega | (simp; omega) | simp))))⟩
  · have d1 : decide ((t : Int) < (i : Int)) = false := by simp; omega
    have d2 : decide ((i : Int) ≤ (t : Int)) = true := by simpa using h1
    have d3 : decide ((t : Int) - (i : Int) < (n : Int)) = true := by simp; omega
    go_enter Try.func6, Try.ntmps6
    go_wp2_with fail
    go_at_call 19
    refine (moves_any _).mono ?_
    rintro e w1 ⟨rfl, hb_w1⟩
    obtain ⟨hc_w1, hf_w1⟩ := bcell hb_w1; have hs_w1 := hb_w1.size; (try simp only [World.size_alloc, World.size_setCell, World.size_drew, World.heap_drewN] at hs_w1)
    go_wp2_with fail
    go_at_call 15
    refine (P.out _ (hr.later (by repeat (first | exact Below.refl _ _ | assumption | (refine below_drewN ?_ _) | (refine Below.drew ?_) | (refine Below.alloc ?_ (by first | omega | (simp; omega) | simp) _) | (refine Below.setCell ?_ (by first | omega | (simp; omega) | simp) _) | (refine below_trans ?_ (by assumption) (by first | omega | (simp; omega) | simp)))))).mono ?_
    rintro e w2 ⟨A2, cap2, rfl, ho2, hb_w2⟩
    obtain ⟨hc_w2, hf_w2⟩ := bcell hb_w2; have hs_w2 := hb_w2.size; (try simp only [World.size_alloc, World.size_setCell, World.size_drew, World.heap_drewN] at hs_w2)
    go_wp2
    go_ret
    exact ⟨rfl, (by repeat (first | exact Below.refl _ _ | assumption | (refine below_drewN ?_ _) | (refine Below.drew ?_) | (refine Below.alloc ?_ (by first | omega | (simp; omega) | simp) _) | (refine Below.setCell ?_ (by first | omega | (simp; omega) | simp) _) | (refine below_trans ?_ (by assumption) (by first | omega | (simp; omega) | simp))))⟩
set_option maxRecDepth 20000 in
set_option maxHeartbeats 2000000 in
theorem aback_ok (t i n : Nat) (cap : Nat) {A : Option Addr} {ws : List Nat} {w : World} (u1 u2 u3 : List Nat) (hr : Row w w.heap.size A ws) (ht : t < W64) (hi : i < W64) (hn : n < W64) (h1 : t + n ≤ ws.length) (h2 : i + n ≤ ws.length) (hm : ws.length ≤ 16384) (ho : (t < i ∧ t + n ≤ i) ∨ (i ≤ t ∧ i + n ≤ t))
    (S1 : ∀ (w : World), Row w w.heap.size A ws → Calls Try.prog 15 #[.agg #[.slice A ws.length cap], .int .u64 (t : Nat), .int .u64 (i : Nat), .int .u64 (n : Nat)] w fun e w' => FreshN w ws.length u1 0 e w')
    (S2 : ∀ (w : World) (A : Option Addr) (cap : Nat), Row w w.heap.size A u1 → Calls Try.prog 17 #[.agg #[.slice A ws.length cap], .int .u64 (i : Nat), .int .u64 (n : Nat)] w fun e w' => FreshN w ws.length u2 0 e w')
    (S3 : ∀ (w : World) (A : Option Addr) (cap : Nat), Row w w.heap.size A u2 → u2.length ≤ cap → Calls Try.prog 15 #[.agg #[.slice A ws.length cap], .int .u64 (i : Nat), .int .u64 (t : Nat), .int .u64 (n : Nat)] w fun e w' => FreshN w ws.length u3 0 e w')
    (L : ∀ k, k < n → ∃ x : Nat, (∀ (w : World) (A : Option Addr) (cap : Nat), Row w w.heap.size A ws → Calls Try.prog 20 #[.agg #[.slice A ws.length cap], .int .u64 ((i : Int) + (k : Int))] w fun e w' => e = .returned (.tuple #[.int .u64 (x : Nat), .int .i64 0]) ∧ Below w.heap.size w w') ∧
      (∀ (w : World) (A : Option Addr) (cap : Nat), Row w w.heap.size A u3 → Calls Try.prog 20 #[.agg #[.slice A ws.length cap], .int .u64 ((i : Int) + (k : Int))] w fun e w' => e = .returned (.tuple #[.int .u64 (x : Nat), .int .i64 0]) ∧ Below w.heap.size w w') ∧
      (∀ (w : World) (A : Option Addr) (cap : Nat), Row w w.heap.size A u3 → Calls Try.prog 20 #[.agg #[.slice A ws.length cap], .int .u64 ((t : Int) + (k : Int))] w fun e w' => e = .returned (.tuple #[.int .u64 (x : Nat), .int .i64 0]) ∧ Below w.heap.size w w')) :
    Calls Try.prog 6 #[.agg #[.slice A ws.length cap], .int .u64 (t : Nat), .int .u64 (i : Nat), .int .u64 (n : Nat)] w fun e w' => e = .returned (.bool true) ∧ Below w.heap.size w w' := by
  have P1 := Lib.hid S1
  have P2 := Lib.hid S2
  have P3 := Lib.hid S3
  have HL := Lib.hid L
  have HO := Lib.hid ho
  clear S1 S2 S3 L
  unfold W64 at ht hi hn
  rcases ho with ⟨c1, c2⟩ | ⟨c1, c2⟩
  · have d1 : decide ((t : Int) < (i : Int)) = true := by simpa using c1
    have d2 : decide ((i : Int) - (t : Int) < (n : Int)) = false := by simp; omega
    have d3 : decide ((i : Int) ≤ (t : Int)) = false := by simp; omega
    go_enter Try.func6, Try.ntmps6
    go_wp2_with fail
    go_at_call 19
    refine (moves_any _).mono ?_
    rintro e w1 ⟨rfl, hb_w1⟩
    obtain ⟨hc_w1, hf_w1⟩ := bcell hb_w1; have hz_w1_w_0 : w.heap.size < w1.heap.size := (by have hzz := hb_w1.size; (try simp only [World.size_alloc, World.size_setCell, World.size_drew, World.heap_drewN] at hzz); omega); have hs_w1 := hb_w1.size; (try simp only [World.size_alloc, World.size_setCell, World.size_drew, World.heap_drewN] at hs_w1)
    go_wp2_with fail
    go_at_call 15
    refine (P1.out _ (hr.later (by repeat (first | exact Below.refl _ _ | assumption | (refine below_drewN ?_ _) | (refine Below.drew ?_) | (refine Below.alloc ?_ (by first | omega | (simp; omega) | simp) _) | (refine Below.setCell ?_ (by first | omega | (simp; omega) | simp) _) | (refine below_trans ?_ (by assumption) (by first | omega | (simp; omega) | simp)))))).mono ?_
    rintro e w2 ⟨A2, cap2, rfl, ho2, hb_w2⟩
    obtain ⟨hc_w2, hf_w2⟩ := bcell hb_w2; have hz_w2_w_0 : w.heap.size < w2.heap.size := (by have hzz := hb_w2.size; (try simp only [World.size_alloc, World.size_setCell, World.size_drew, World.heap_drewN] at hzz); omega); have hs_w2 := hb_w2.size; (try simp only [World.size_alloc, World.size_setCell, World.size_drew, World.heap_drewN] at hs_w2)
    go_wp2_with fail
    go_at_call 17
    refine (P2.out _ _ _ (ho2.1.row.later (by repeat (first | exact Below.refl _ _ | assumption | (refine below_drewN ?_ _) | (refine Below.drew ?_) | (refine Below.alloc ?_ (by first | omega | (simp; omega) | simp) _) | (refine Below.setCell ?_ (by first | omega | (simp; omega) | simp) _) | (refine below_trans ?_ (by assumption) (by first | omega | (simp; omega) | simp)))))).mono ?_
    rintro e w3 ⟨A3, cap3, rfl, ho3, hb_w3⟩
    obtain ⟨hc_w3, hf_w3⟩ := bcell hb_w3; have hz_w3_w_0 : w.heap.size < w3.heap.size := (by have hzz := hb_w3.size; (try simp only [World.size_alloc, World.size_setCell, World.size_drew, World.heap_drewN] at hzz); omega); have hs_w3 := hb_w3.size; (try simp only [World.size_alloc, World.size_setCell, World.size_drew, World.heap_drewN] at hs_w3)
    go_wp2_with fail
    go_at_call 15
    refine (P3.out _ _ _ (ho3.1.row.later (by repeat (first | exact Below.refl _ _ | assumption | (refine below_drewN ?_ _) | (refine Below.drew ?_) | (refine Below.alloc ?_ (by first | omega | (simp; omega) | simp) _) | (refine Below.setCell ?_ (by first | omega | (simp; omega) | simp) _) | (refine below_trans ?_ (by assumption) (by first | omega | (simp; omega) | simp))))) ho3.2).mono ?_
    rintro e w4 ⟨A4, cap4, rfl, ho4, hb_w4⟩
    obtain ⟨hc_w4, hf_w4⟩ := bcell hb_w4; have hz_w4_w_0 : w.heap.size < w4.heap.size := (by have hzz := hb_w4.size; (try simp only [World.size_alloc, World.size_setCell, World.size_drew, World.heap_drewN] at hzz); omega); have hs_w4 := hb_w4.size; (try simp only [World.size_alloc, World.size_setCell, World.size_drew, World.heap_drewN] at hs_w4)
    have f1 : w1.cell? ⟨w.heap.size, 0, none⟩ = some (.slice A ws.length cap) := (hc_w1 _ _ (by first | omega | (simp; omega) | simp)).trans (by simp [go_sem])
    have f2 : w2.cell? ⟨w.heap.size, 0, none⟩ = some (.slice A ws.length cap) := (hc_w2 _ _ (by first | omega | (simp; omega) | simp)).trans f1
    have f3 : w3.cell? ⟨w.heap.size, 0, none⟩ = some (.slice A ws.length cap) := (hc_w3 _ _ (by first | omega | (simp; omega) | simp)).trans ((World.cell?_alloc_lt _ _ ⟨_, _, _⟩ (by first | omega | (simp; omega) | simp)).trans f2)
    have f4 : w4.cell? ⟨w.heap.size, 0, none⟩ = some (.slice A ws.length cap) := (hc_w4 _ _ (by first | omega | (simp; omega) | simp)).trans ((World.cell?_alloc_lt _ _ ⟨_, _, _⟩ (by first | omega | (simp; omega) | simp)).trans f3)
    go_wp2_with fail
    go_loopw [15] (fun x wr => ∃ k : Nat, x = .int .u64 k ∧ k ≤ n ∧ wr.cell? ⟨w.heap.size, 0, none⟩ = some (.slice A ws.length cap) ∧ wr.cell? ⟨w4.heap.size, 0, none⟩ = some (.slice A4 ws.length cap4) ∧ w4.heap.size + 1 ≤ wr.heap.size ∧ Below w.heap.size w wr ∧ Below w4.heap.size w4 wr)
      (fun x _ => n - (intOf x).toNat)
    case atStart => exact ⟨0, rfl, Nat.zero_le _, (World.cell?_alloc_lt _ _ ⟨_, _, _⟩ (by first | omega | (simp; omega) | simp)).trans f4, by simp [go_sem], (by first | omega | (simp; omega) | simp), (by repeat (first | exact Below.refl _ _ | assumption | (refine below_drewN ?_ _) | (refine Below.drew ?_) | (refine Below.alloc ?_ (by first | omega | (simp; omega) | simp) _) | (refine Below.setCell ?_ (by first | omega | (simp; omega) | simp) _) | (refine below_trans ?_ (by assumption) (by first | omega | (simp; omega) | simp)))), (by repeat (first | exact Below.refl _ _ | assumption | (refine below_drewN ?_ _) | (refine Below.drew ?_) | (refine Below.alloc ?_ (by first | omega | (simp; omega) | simp) _) | (refine Below.setCell ?_ (by first | omega | (simp; omega) | simp) _) | (refine below_trans ?_ (by assumption) (by first | omega | (simp; omega) | simp))))⟩
    case round =>
      obtain ⟨k, rfl, hk, g0, g1, hsz, hb_wr, hb_w4r⟩ := hrel
      by_cases hlt : k < n
      · obtain ⟨x, l1, l2, l3⟩ := HL.out k hlt
        have Q1 := Lib.hid l1
        have Q2 := Lib.hid l2
        have Q3 := Lib.hid l3
        clear l1 l2 l3
        have e0 : ((x : Int) != (x : Int)) = false := by simp
        have e1 : IntKind.u64.wrap ((i : Int) + k) = i + k := IntWalk.u64_in _ (by omega)
        have e2 : IntKind.u64.wrap ((t : Int) + k) = t + k := IntWalk.u64_in _ (by omega)
        have e3 : IntKind.u64.wrap ((k : Int) + 1) = k + 1 := IntWalk.u64_in _ (by omega)
        clear hc_w1 hf_w1 hc_w2 hf_w2 hc_w3 hf_w3 hc_w4 hf_w4
        go_wp2_with fail
        go_at_call 20
        refine (Q1.out _ _ _ (hr.later (by repeat (first | exact Below.refl _ _ | assumption | (refine below_drewN ?_ _) | (refine Below.drew ?_) | (refine Below.alloc ?_ (by first | omega | (simp; omega) | simp) _) | (refine Below.setCell ?_ (by first | omega | (simp; omega) | simp) _) | (refine below_trans ?_ (by assumption) (by first | omega | (simp; omega) | simp)))))).mono ?_
        rintro e w5 ⟨rfl, hb_w5⟩
        obtain ⟨hc_w5, hf_w5⟩ := bcell hb_w5; have hs_w5 := hb_w5.size; (try simp only [World.size_alloc, World.size_setCell, World.size_drew, World.heap_drewN] at hs_w5)
        have g5 : w5.cell? ⟨w.heap.size, 0, none⟩ = some (.slice A ws.length cap) := (hc_w5 _ _ (by first | omega | (simp; omega) | simp)).trans g0
        have k5 : w5.cell? ⟨w4.heap.size, 0, none⟩ = some (.slice A4 ws.length cap4) := (hc_w5 _ _ (by first | omega | (simp; omega) | simp)).trans g1
        go_wp2_with fail
        go_at_call 20
        refine (Q2.out _ _ _ (ho4.1.row.later (by repeat (first | exact Below.refl _ _ | assumption | (refine below_drewN ?_ _) | (refine Below.drew ?_) | (refine Below.alloc ?_ (by first | omega | (simp; omega) | simp) _) | (refine Below.setCell ?_ (by first | omega | (simp; omega) | simp) _) | (refine below_trans ?_ (by assumption) (by first | omega | (simp; omega) | simp)))))).mono ?_
        rintro e w6 ⟨rfl, hb_w6⟩
        obtain ⟨hc_w6, hf_w6⟩ := bcell hb_w6; have hs_w6 := hb_w6.size; (try simp only [World.size_alloc, World.size_setCell, World.size_drew, World.heap_drewN] at hs_w6)
        have g6 : w6.cell? ⟨w.heap.size, 0, none⟩ = some (.slice A ws.length cap) := (hc_w6 _ _ (by first | omega | (simp; omega) | simp)).trans g5
        have k6 : w6.cell? ⟨w4.heap.size, 0, none⟩ = some (.slice A4 ws.length cap4) := (hc_w6 _ _ (by first | omega | (simp; omega) | simp)).trans k5
        go_wp2_with fail
        go_at_call 20
        refine (Q3.out _ _ _ (ho4.1.row.later (by repeat (first | exact Below.refl _ _ | assumption | (refine below_drewN ?_ _) | (refine Below.drew ?_) | (refine Below.alloc ?_ (by first | omega | (simp; omega) | simp) _) | (refine Below.setCell ?_ (by first | omega | (simp; omega) | simp) _) | (refine below_trans ?_ (by assumption) (by first | omega | (simp; omega) | simp)))))).mono ?_
        rintro e w7 ⟨rfl, hb_w7⟩
        obtain ⟨hc_w7, hf_w7⟩ := bcell hb_w7; have hs_w7 := hb_w7.size; (try simp only [World.size_alloc, World.size_setCell, World.size_drew, World.heap_drewN] at hs_w7)
        have g7 : w7.cell? ⟨w.heap.size, 0, none⟩ = some (.slice A ws.length cap) := (hc_w7 _ _ (by first | omega | (simp; omega) | simp)).trans g6
        have k7 : w7.cell? ⟨w4.heap.size, 0, none⟩ = some (.slice A4 ws.length cap4) := (hc_w7 _ _ (by first | omega | (simp; omega) | simp)).trans k6
        clear hc_w5 hf_w5 hc_w6 hf_w6 hc_w7 hf_w7 g5 k5 g6 k6 g0 g1
        go_wp2_with fail
        go_roundw
        case rel => exact ⟨k + 1, by go_num, by omega, g7, k7, (by first | omega | (simp; omega) | simp), (by repeat (first | exact Below.refl _ _ | assumption | (refine below_drewN ?_ _) | (refine Below.drew ?_) | (refine Below.alloc ?_ (by first | omega | (simp; omega) | simp) _) | (refine Below.setCell ?_ (by first | omega | (simp; omega) | simp) _) | (refine below_trans ?_ (by assumption) (by first | omega | (simp; omega) | simp)))), (by repeat (first | exact Below.refl _ _ | assumption | (refine below_drewN ?_ _) | (refine Below.drew ?_) | (refine Below.alloc ?_ (by first | omega | (simp; omega) | simp) _) | (refine Below.setCell ?_ (by first | omega | (simp; omega) | simp) _) | (refine below_trans ?_ (by assumption) (by first | omega | (simp; omega) | simp))))⟩
        case measure => simp [intOf]; omega
      · go_wp2
        go_ret
        exact ⟨rfl, (by repeat (first | exact Below.refl _ _ | assumption | (refine below_drewN ?_ _) | (refine Below.drew ?_) | (refine Below.alloc ?_ (by first | omega | (simp; omega) | simp) _) | (refine Below.setCell ?_ (by first | omega | (simp; omega) | simp) _) | (refine below_trans ?_ (by assumption) (by first | omega | (simp; omega) | simp))))⟩
  · have d1 : decide ((t : Int) < (i : Int)) = false := by simp; omega
    have d2 : decide ((i : Int) ≤ (t : Int)) = true := by simpa using c1
    have d3 : decide ((t : Int) - (i : Int) < (n : Int)) = false := by simp; omega
    go_enter Try.func6, Try.ntmps6
    go_wp2_with fail
    go_at_call 19
    refine (moves_any _).mono ?_
    rintro e w1 ⟨rfl, hb_w1⟩
    obtain ⟨hc_w1, hf_w1⟩ := bcell hb_w1; have hz_w1_w_0 : w.heap.size < w1.heap.size := (by have hzz := hb_w1.size; (try simp only [World.size_alloc, World.size_setCell, World.size_drew, World.heap_drewN] at hzz); omega); have hs_w1 := hb_w1.size; (try simp only [World.size_alloc, World.size_setCell, World.size_drew, World.heap_drewN] at hs_w1)
    go_wp2_with fail
    go_at_call 15
    refine (P1.out _ (hr.later (by repeat (first | exact Below.refl _ _ | assumption | (refine below_drewN ?_ _) | (refine Below.drew ?_) | (refine Below.alloc ?_ (by first | omega | (simp; omega) | simp) _) | (refine Below.setCell ?_ (by first | omega | (simp; omega) | simp) _) | (refine below_trans ?_ (by assumption) (by first | omega | (simp; omega) | simp)))))).mono ?_
    rintro e w2 ⟨A2, cap2, rfl, ho2, hb_w2⟩
    obtain ⟨hc_w2, hf_w2⟩ := bcell hb_w2; have hz_w2_w_0 : w.heap.size < w2.heap.size := (by have hzz := hb_w2.size; (try simp only [World.size_alloc, World.size_setCell, World.size_drew, World.heap_drewN] at hzz); omega); have hs_w2 := hb_w2.size; (try simp only [World.size_alloc, World.size_setCell, World.size_drew, World.heap_drewN] at hs_w2)
    go_wp2_with fail
    go_at_call 17
    refine (P2.out _ _ _ (ho2.1.row.later (by repeat (first | exact Below.refl _ _ | assumption | (refine below_drewN ?_ _) | (refine Below.drew ?_) | (refine Below.alloc ?_ (by first | omega | (simp; omega) | simp) _) | (refine Below.setCell ?_ (by first | omega | (simp; omega) | simp) _) | (refine below_trans ?_ (by assumption) (by first | omega | (simp; omega) | simp)))))).mono ?_
    rintro e w3 ⟨A3, cap3, rfl, ho3, hb_w3⟩
    obtain ⟨hc_w3, hf_w3⟩ := bcell hb_w3; have hz_w3_w_0 : w.heap.size < w3.heap.size := (by have hzz := hb_w3.size; (try simp only [World.size_alloc, World.size_setCell, World.size_drew, World.heap_drewN] at hzz); omega); have hs_w3 := hb_w3.size; (try simp only [World.size_alloc, World.size_setCell, World.size_drew, World.heap_drewN] at hs_w3)
    go_wp2_with fail
    go_at_call 15
    refine (P3.out _ _ _ (ho3.1.row.later (by repeat (first | exact Below.refl _ _ | assumption | (refine below_drewN ?_ _) | (refine Below.drew ?_) | (refine Below.alloc ?_ (by first | omega | (simp; omega) | simp) _) | (refine Below.setCell ?_ (by first | omega | (simp; omega) | simp) _) | (refine below_trans ?_ (by assumption) (by first | omega | (simp; omega) | simp))))) ho3.2).mono ?_
    rintro e w4 ⟨A4, cap4, rfl, ho4, hb_w4⟩
    obtain ⟨hc_w4, hf_w4⟩ := bcell hb_w4; have hz_w4_w_0 : w.heap.size < w4.heap.size := (by have hzz := hb_w4.size; (try simp only [World.size_alloc, World.size_setCell, World.size_drew, World.heap_drewN] at hzz); omega); have hs_w4 := hb_w4.size; (try simp only [World.size_alloc, World.size_setCell, World.size_drew, World.heap_drewN] at hs_w4)
    have f1 : w1.cell? ⟨w.heap.size, 0, none⟩ = some (.slice A ws.length cap) := (hc_w1 _ _ (by first | omega | (simp; omega) | simp)).trans (by simp [go_sem])
    have f2 : w2.cell? ⟨w.heap.size, 0, none⟩ = some (.slice A ws.length cap) := (hc_w2 _ _ (by first | omega | (simp; omega) | simp)).trans f1
    have f3 : w3.cell? ⟨w.heap.size, 0, none⟩ = some (.slice A ws.length cap) := (hc_w3 _ _ (by first | omega | (simp; omega) | simp)).trans ((World.cell?_alloc_lt _ _ ⟨_, _, _⟩ (by first | omega | (simp; omega) | simp)).trans f2)
    have f4 : w4.cell? ⟨w.heap.size, 0, none⟩ = some (.slice A ws.length cap) := (hc_w4 _ _ (by first | omega | (simp; omega) | simp)).trans ((World.cell?_alloc_lt _ _ ⟨_, _, _⟩ (by first | omega | (simp; omega) | simp)).trans f3)
    go_wp2_with fail
    go_loopw [15] (fun x wr => ∃ k : Nat, x = .int .u64 k ∧ k ≤ n ∧ wr.cell? ⟨w.heap.size, 0, none⟩ = some (.slice A ws.length cap) ∧ wr.cell? ⟨w4.heap.size, 0, none⟩ = some (.slice A4 ws.length cap4) ∧ w4.heap.size + 1 ≤ wr.heap.size ∧ Below w.heap.size w wr ∧ Below w4.heap.size w4 wr)
      (fun x _ => n - (intOf x).toNat)
    case atStart => exact ⟨0, rfl, Nat.zero_le _, (World.cell?_alloc_lt _ _ ⟨_, _, _⟩ (by first | omega | (simp; omega) | simp)).trans f4, by simp [go_sem], (by first | omega | (simp; omega) | simp), (by repeat (first | exact Below.refl _ _ | assumption | (refine below_drewN ?_ _) | (refine Below.drew ?_) | (refine Below.alloc ?_ (by first | omega | (simp; omega) | simp) _) | (refine Below.setCell ?_ (by first | omega | (simp; omega) | simp) _) | (refine below_trans ?_ (by assumption) (by first | omega | (simp; omega) | simp)))), (by repeat (first | exact Below.refl _ _ | assumption | (refine below_drewN ?_ _) | (refine Below.drew ?_) | (refine Below.alloc ?_ (by first | omega | (simp; omega) | simp) _) | (refine Below.setCell ?_ (by first | omega | (simp; omega) | simp) _) | (refine below_trans ?_ (by assumption) (by first | omega | (simp; omega) | simp))))⟩
    case round =>
      obtain ⟨k, rfl, hk, g0, g1, hsz, hb_wr, hb_w4r⟩ := hrel
      by_cases hlt : k < n
      · obtain ⟨x, l1, l2, l3⟩ := HL.out k hlt
        have Q1 := Lib.hid l1
        have Q2 := Lib.hid l2
        have Q3 := Lib.hid l3
        clear l1 l2 l3
        have e0 : ((x : Int) != (x : Int)) = false := by simp
        have e1 : IntKind.u64.wrap ((i : Int) + k) = i + k := IntWalk.u64_in _ (by omega)
        have e2 : IntKind.u64.wrap ((t : Int) + k) = t + k := IntWalk.u64_in _ (by omega)
        have e3 : IntKind.u64.wrap ((k : Int) + 1) = k + 1 := IntWalk.u64_in _ (by omega)
        clear hc_w1 hf_w1 hc_w2 hf_w2 hc_w3 hf_w3 hc_w4 hf_w4
        go_wp2_with fail
        go_at_call 20
        refine (Q1.out _ _ _ (hr.later (by repeat (first | exact Below.refl _ _ | assumption | (refine below_drewN ?_ _) | (refine Below.drew ?_) | (refine Below.alloc ?_ (by first | omega | (simp; omega) | simp) _) | (refine Below.setCell ?_ (by first | omega | (simp; omega) | simp) _) | (refine below_trans ?_ (by assumption) (by first | omega | (simp; omega) | simp)))))).mono ?_
        rintro e w5 ⟨rfl, hb_w5⟩
        obtain ⟨hc_w5, hf_w5⟩ := bcell hb_w5; have hs_w5 := hb_w5.size; (try simp only [World.size_alloc, World.size_setCell, World.size_drew, World.heap_drewN] at hs_w5)
        have g5 : w5.cell? ⟨w.heap.size, 0, none⟩ = some (.slice A ws.length cap) := (hc_w5 _ _ (by first | omega | (simp; omega) | simp)).trans g0
        have k5 : w5.cell? ⟨w4.heap.size, 0, none⟩ = some (.slice A4 ws.length cap4) := (hc_w5 _ _ (by first | omega | (simp; omega) | simp)).trans g1
        go_wp2_with fail
        go_at_call 20
        refine (Q2.out _ _ _ (ho4.1.row.later (by repeat (first | exact Below.refl _ _ | assumption | (refine below_drewN ?_ _) | (refine Below.drew ?_) | (refine Below.alloc ?_ (by first | omega | (simp; omega) | simp) _) | (refine Below.setCell ?_ (by first | omega | (simp; omega) | simp) _) | (refine below_trans ?_ (by assumption) (by first | omega | (simp; omega) | simp)))))).mono ?_
        rintro e w6 ⟨rfl, hb_w6⟩
        obtain ⟨hc_w6, hf_w6⟩ := bcell hb_w6; have hs_w6 := hb_w6.size; (try simp only [World.size_alloc, World.size_setCell, World.size_drew, World.heap_drewN] at hs_w6)
        have g6 : w6.cell? ⟨w.heap.size, 0, none⟩ = some (.slice A ws.length cap) := (hc_w6 _ _ (by first | omega | (simp; omega) | simp)).trans g5
        have k6 : w6.cell? ⟨w4.heap.size, 0, none⟩ = some (.slice A4 ws.length cap4) := (hc_w6 _ _ (by first | omega | (simp; omega) | simp)).trans k5
        go_wp2_with fail
        go_at_call 20
        refine (Q3.out _ _ _ (ho4.1.row.later (by repeat (first | exact Below.refl _ _ | assumption | (refine below_drewN ?_ _) | (refine Below.drew ?_) | (refine Below.alloc ?_ (by first | omega | (simp; omega) | simp) _) | (refine Below.setCell ?_ (by first | omega | (simp; omega) | simp) _) | (refine below_trans ?_ (by assumption) (by first | omega | (simp; omega) | simp)))))).mono ?_
        rintro e w7 ⟨rfl, hb_w7⟩
        obtain ⟨hc_w7, hf_w7⟩ := bcell hb_w7; have hs_w7 := hb_w7.size; (try simp only [World.size_alloc, World.size_setCell, World.size_drew, World.heap_drewN] at hs_w7)
        have g7 : w7.cell? ⟨w.heap.size, 0, none⟩ = some (.slice A ws.length cap) := (hc_w7 _ _ (by first | omega | (simp; omega) | simp)).trans g6
        have k7 : w7.cell? ⟨w4.heap.size, 0, none⟩ = some (.slice A4 ws.length cap4) := (hc_w7 _ _ (by first | omega | (simp; omega) | simp)).trans k6
        clear hc_w5 hf_w5 hc_w6 hf_w6 hc_w7 hf_w7 g5 k5 g6 k6 g0 g1
        go_wp2_with fail
        go_roundw
        case rel => exact ⟨k + 1, by go_num, by omega, g7, k7, (by first | omega | (simp; omega) | simp), (by repeat (first | exact Below.refl _ _ | assumption | (refine below_drewN ?_ _) | (refine Below.drew ?_) | (refine Below.alloc ?_ (by first | omega | (simp; omega) | simp) _) | (refine Below.setCell ?_ (by first | omega | (simp; omega) | simp) _) | (refine below_trans ?_ (by assumption) (by first | omega | (simp; omega) | simp)))), (by repeat (first | exact Below.refl _ _ | assumption | (refine below_drewN ?_ _) | (refine Below.drew ?_) | (refine Below.alloc ?_ (by first | omega | (simp; omega) | simp) _) | (refine Below.setCell ?_ (by first | omega | (simp; omega) | simp) _) | (refine below_trans ?_ (by assumption) (by first | omega | (simp; omega) | simp))))⟩
        case measure => simp [intOf]; omega
      · go_wp2
        go_ret
        exact ⟨rfl, (by repeat (first | exact Below.refl _ _ | assumption | (refine below_drewN ?_ _) | (refine Below.drew ?_) | (refine Below.alloc ?_ (by first | omega | (simp; omega) | simp) _) | (refine Below.setCell ?_ (by first | omega | (simp; omega) | simp) _) | (refine below_trans ?_ (by assumption) (by first | omega | (simp; omega) | simp))))⟩
theorem arenaBack_walk (A : Option Addr) (cap : Nat) (ws : List Nat) (t i n : Nat) (w : World) (hr : Row w w.heap.size A ws) (hcap : ws.length ≤ cap) (hl : ws.length ≤ 17592186044416) (ht : t < W64) (hi : i < W64) (hn : n < W64) :
    Calls Try.prog 6 #[.agg #[.slice A ws.length cap], .int .u64 (t : Nat), .int .u64 (i : Nat), .int .u64 (n : Nat)] w fun e w' => e = .returned (.bool true) ∧ Below w.heap.size w w' := by
  by_cases h : ws.length ≤ 16384
  · by_cases hp : t + n ≤ ws.length ∧ i + n ≤ ws.length
    · by_cases ho : (t < i ∧ i < t + n) ∨ (i ≤ t ∧ t < i + n)
      · refine aback_over t i n cap (movedA ws t i n) hr ht hi hn ho (fun w hr => (move_any cap t i n hr hl hcap hi hn ht).mono fun e w' hh => ?_)
        rwa [(resA_in (us := movedA ws t i n) h hp).1, (resA_in (us := movedA ws t i n) h hp).2] at hh
      · have l1 : (movedA ws t i n).length = ws.length := length_movedA _ _ _ _
        have l2 : (overTo (movedA ws t i n) i (fun _ => 0) n).length = ws.length := (length_overTo _ _ _ _).trans l1
        have l3 : (movedA (overTo (movedA ws t i n) i (fun _ => 0) n) i t n).length = ws.length := (length_movedA _ _ _ _).trans l2
        refine aback_ok t i n cap (movedA ws t i n) (overTo (movedA ws t i n) i (fun _ => 0) n) (movedA (overTo (movedA ws t i n) i (fun _ => 0) n) i t n) hr ht hi hn hp.1 hp.2 h (by omega)
          (fun w hr => (move_any cap t i n hr hl hcap hi hn ht).mono fun e w' hh => ?_) (fun w A cap hr => ?_) (fun w A cap hr hc => ?_) (fun k hk => ?_)
        · rw [(resA_in (us := movedA ws t i n) h hp).1, (resA_in (us := movedA ws t i n) h hp).2] at hh
          exact hh.n l1
        · have := clear_any cap i n hr (by omega) hi hn
          rw [l1] at this
          refine this.mono fun e w' hh => ?_
          have hq : (movedA ws t i n).length ≤ 16384 := by omega
          rw [(resA_in (us := overTo (movedA ws t i n) i (fun _ => 0) n) hq hp.2).1, (resA_in (us := overTo (movedA ws t i n) i (fun _ => 0) n) hq hp.2).2] at hh
          exact hh.n l2
        · have := move_any cap i t n hr (by omega) (by omega) ht hn hi
          rw [l2] at this
          refine this.mono fun e w' hh => ?_
          have hq : (overTo (movedA ws t i n) i (fun _ => 0) n).length ≤ 16384 := by omega
          have hp' : i + n ≤ ws.length ∧ t + n ≤ ws.length := ⟨hp.2, hp.1⟩
          rw [(resA_in (us := movedA (overTo (movedA ws t i n) i (fun _ => 0) n) i t n) hq hp').1, (resA_in (us := movedA (overTo (movedA ws t i n) i (fun _ => 0) n) i t n) hq hp').2] at hh
          exact hh.n l3
        · have hti : t + k < i ∨ i + n ≤ t + k := by omega
          have v1 : (movedA ws t i n).getD (t + k) 0 = ws.getD (i + k) 0 := by
            unfold movedA
            rw [overTo_at, if_pos ⟨by omega, by omega, by omega⟩, Nat.add_sub_cancel_left]
          have v2 : (overTo (movedA ws t i n) i (fun _ => 0) n).getD (t + k) 0 = ws.getD (i + k) 0 := by
            rw [overTo_at, if_neg (by omega), v1]
          have v3 : (movedA (overTo (movedA ws t i n) i (fun _ => 0) n) i t n).getD (i + k) 0 = ws.getD (i + k) 0 := by
            rw [movedA, overTo_at, if_pos ⟨by omega, by omega, by omega⟩, Nat.add_sub_cancel_left, v2]
          have v4 : (movedA (overTo (movedA ws t i n) i (fun _ => 0) n) i t n).getD (t + k) 0 = ws.getD (i + k) 0 := by
            rw [movedA, overTo_at, if_neg (by omega), v2]
          have hW : ws.length < W64 := by unfold W64; omega
          refine ⟨ws.getD (i + k) 0, fun w A cap hr => ?_, fun w A cap hr => ?_, fun w A cap hr => ?_⟩
          · have := load_any cap (i + k) hr (by omega)
            have g : gotA ws (i + k) = ws.getD (i + k) 0 := by unfold gotA; rw [if_pos h, if_pos (by omega)]
            rw [g, (resA_in (us := []) h (show i + k + 1 ≤ ws.length by omega)).2] at this
            simpa using this
          · have hq : (movedA (overTo (movedA ws t i n) i (fun _ => 0) n) i t n).length ≤ 16384 := by omega
            have := load_n cap (i + k) _ l3 hr (by omega)
            have g : gotA (movedA (overTo (movedA ws t i n) i (fun _ => 0) n) i t n) (i + k) = ws.getD (i + k) 0 := by unfold gotA; rw [if_pos hq, if_pos (by omega), v3]
            rw [g, (resA_in (us := []) hq (show i + k + 1 ≤ ws.length by omega)).2] at this
            simpa using this
          · have hq : (movedA (overTo (movedA ws t i n) i (fun _ => 0) n) i t n).length ≤ 16384 := by omega
            have := load_n cap (t + k) _ l3 hr (by omega)
            have g : gotA (movedA (overTo (movedA ws t i n) i (fun _ => 0) n) i t n) (t + k) = ws.getD (i + k) 0 := by unfold gotA; rw [if_pos hq, if_pos (by omega), v4]
            rw [g, (resA_in (us := []) hq (show t + k + 1 ≤ ws.length by omega)).2] at this
            simpa using this
    · exact aback_err t i n cap _ _ hr (by rw [(resA_out (us := movedA ws t i n) h hp).2]; decide) (fun w hr => move_any cap t i n hr hl hcap hi hn ht)
  · exact aback_err t i n cap _ _ hr (by rw [(resA_bad (us := movedA ws t i n) (p := t + n ≤ ws.length ∧ i + n ≤ ws.length) h).2]; decide) (fun w hr => move_any cap t i n hr hl hcap hi hn ht)
theorem arenaBack_walkI (A : Option Addr) (cap : Nat) (ws : List Nat) (t i n : Int) (w : World) (hr : Row w w.heap.size A ws) (hcap : ws.length ≤ cap) (hl : ws.length ≤ 17592186044416) (ht : 0 ≤ t ∧ t ≤ 18446744073709551615) (hi : 0 ≤ i ∧ i ≤ 18446744073709551615) (hn : 0 ≤ n ∧ n ≤ 18446744073709551615) :
    Calls Try.prog 6 #[.agg #[.slice A ws.length cap], .int .u64 t, .int .u64 i, .int .u64 n] w fun e w' => e = .returned (.bool true) ∧ Below w.heap.size w w' := by
  obtain ⟨t, rfl⟩ := Int.eq_ofNat_of_zero_le ht.1
  obtain ⟨i, rfl⟩ := Int.eq_ofNat_of_zero_le hi.1
  obtain ⟨n, rfl⟩ := Int.eq_ofNat_of_zero_le hn.1
  exact arenaBack_walk A cap ws t i n w hr hcap hl (by unfold W64; omega) (by unfold W64; omega) (by unfold W64; omega)
end Go.Proofs.Ytbhblffomlhopab
