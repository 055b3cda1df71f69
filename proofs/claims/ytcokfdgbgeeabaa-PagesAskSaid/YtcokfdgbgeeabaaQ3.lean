/- The walk of the law PagesAsk. -/
import Derived.Test.YtcokfdgbgeeabaaQ1
import Derived.Deep.RegionHeld3
namespace Go.Proofs.Ytcokfdgbgeeabaa
open Go.RowKit
set_option linter.unusedVariables false
set_option linter.unusedSimpArgs false

set_option maxHeartbeats 8000000 in
theorem pagesAsk_walk (n : Int) (A : Option Addr) (cap : Nat) (ws : List Nat) (c : Int) (w : World) (hr : Row w w.heap.size A ws) :
    Calls Try.prog 4 #[.agg #[.int .i64 n, .slice A ws.length cap], .int .i64 c] w fun e w' => e = .returned (.bool true) ∧ Below w.heap.size w w' := by
  obtain ⟨k1, y1, a1, b1⟩ := pfree_both n ws
  obtain ⟨k2, y2, a2, b2⟩ := plong_both n ws
  obtain ⟨N, us, why, m1, m2, hu⟩ := pmake_both c
  obtain ⟨ck, c1, c2⟩ := pcheck_both n ws
  have hus : us.length ≤ maxLen := by unfold maxLen; omega
  have A1 := Lib.hid a1
  have B1 := Lib.hid b1
  have A2 := Lib.hid a2
  have B2 := Lib.hid b2
  have M1 := Lib.hid m1
  have M2 := Lib.hid m2
  have C1 := Lib.hid c1
  have C2 := Lib.hid c2
  have e1 : (k1 == k1) = true := by simp
  have e2 : (y1 == y1) = true := by simp
  have e3 : (k2 == k2) = true := by simp
  have e4 : (y2 == y2) = true := by simp
  have e5 : (why == why) = true := by simp
  have e6 : (ck == ck) = true := by simp
  clear a1 b1 a2 b2 m1 m2 c1 c2
  go_enter Try.func4, Try.ntmps4
  go_wp2_with fail
  go_at_call 17
  refine (A1.out _ _ _ (hr.later (by repeat (first | exact Below.refl _ _ | assumption | (refine below_drewN ?_ _) | (refine Below.drew ?_) | (refine Below.alloc ?_ (by first | omega | (simp; omega) | simp) _) | (refine Below.setCell ?_ (by first | omega | (simp; omega) | simp) _) | (refine below_trans ?_ (by assumption) (by first | omega | (simp; omega) | simp)))))).mono ?_
  rintro e w1 ⟨rfl, hb_w1⟩
  obtain ⟨hc_w1, hf_w1⟩ := bcell hb_w1; have hz_w1_w_0 : w.heap.size < w1.heap.size := (by have hzz := hb_w1.size; (try simp only [World.size_alloc, World.size_setCell, World.size_drew, World.heap_drewN] at hzz); omega); have hs_w1 := hb_w1.size; (try simp only [World.size_alloc, World.size_setCell, World.size_drew, World.heap_drewN] at hs_w1)
  go_wp2_with fail
  go_at_call 18
  refine (B1.out _ _ _ (hr.later (by repeat (first | exact Below.refl _ _ | assumption | (refine below_drewN ?_ _) | (refine Below.drew ?_) | (refine Below.alloc ?_ (by first | omega | (simp; omega) | simp) _) | (refine Below.setCell ?_ (by first | omega | (simp; omega) | simp) _) | (refine below_trans ?_ (by assumption) (by first | omega | (simp; omega) | simp)))))).mono ?_
  rintro e w2 ⟨rfl, hb_w2⟩
  obtain ⟨hc_w2, hf_w2⟩ := bcell hb_w2; have hz_w2_w_0 : w.heap.size < w2.heap.size := (by have hzz := hb_w2.size; (try simp only [World.size_alloc, World.size_setCell, World.size_drew, World.heap_drewN] at hzz); omega); have hs_w2 := hb_w2.size; (try simp only [World.size_alloc, World.size_setCell, World.size_drew, World.heap_drewN] at hs_w2)
  go_wp2_with fail
  go_at_call 19
  refine (A2.out _ _ _ (hr.later (by repeat (first | exact Below.refl _ _ | assumption | (refine below_drewN ?_ _) | (refine Below.drew ?_) | (refine Below.alloc ?_ (by first | omega | (simp; omega) | simp) _) | (refine Below.setCell ?_ (by first | omega | (simp; omega) | simp) _) | (refine below_trans ?_ (by assumption) (by first | omega | (simp; omega) | simp)))))).mono ?_
  rintro e w3 ⟨rfl, hb_w3⟩
  obtain ⟨hc_w3, hf_w3⟩ := bcell hb_w3; have hz_w3_w_0 : w.heap.size < w3.heap.size := (by have hzz := hb_w3.size; (try simp only [World.size_alloc, World.size_setCell, World.size_drew, World.heap_drewN] at hzz); omega); have hs_w3 := hb_w3.size; (try simp only [World.size_alloc, World.size_setCell, World.size_drew, World.heap_drewN] at hs_w3)
  go_wp2_with fail
  go_at_call 20
  refine (B2.out _ _ _ (hr.later (by repeat (first | exact Below.refl _ _ | assumption | (refine below_drewN ?_ _) | (refine Below.drew ?_) | (refine Below.alloc ?_ (by first | omega | (simp; omega) | simp) _) | (refine Below.setCell ?_ (by first | omega | (simp; omega) | simp) _) | (refine below_trans ?_ (by assumption) (by first | omega | (simp; omega) | simp)))))).mono ?_
  rintro e w4 ⟨rfl, hb_w4⟩
  obtain ⟨hc_w4, hf_w4⟩ := bcell hb_w4; have hz_w4_w_0 : w.heap.size < w4.heap.size := (by have hzz := hb_w4.size; (try simp only [World.size_alloc, World.size_setCell, World.size_drew, World.heap_drewN] at hzz); omega); have hs_w4 := hb_w4.size; (try simp only [World.size_alloc, World.size_setCell, World.size_drew, World.heap_drewN] at hs_w4)
  go_wp2_with fail
  go_at_call 21
  refine (M1.out _).mono ?_
  rintro e w5 ⟨A5, cap5, rfl, ho5, hb_w5⟩
  obtain ⟨hc_w5, hf_w5⟩ := bcell hb_w5; have hz_w5_w_0 : w.heap.size < w5.heap.size := (by have hzz := hb_w5.size; (try simp only [World.size_alloc, World.size_setCell, World.size_drew, World.heap_drewN] at hzz); omega); have hs_w5 := hb_w5.size; (try simp only [World.size_alloc, World.size_setCell, World.size_drew, World.heap_drewN] at hs_w5)
  go_wp2_with fail
  go_at_call 22
  refine (M2.out _).mono ?_
  rintro e w6 ⟨A6, cap6, rfl, ho6, hb_w6⟩
  obtain ⟨hc_w6, hf_w6⟩ := bcell hb_w6; have hz_w6_w_0 : w.heap.size < w6.heap.size := (by have hzz := hb_w6.size; (try simp only [World.size_alloc, World.size_setCell, World.size_drew, World.heap_drewN] at hzz); omega); have hz_w6_w5_0 : w5.heap.size < w6.heap.size := (by have hzz := hb_w6.size; (try simp only [World.size_alloc, World.size_setCell, World.size_drew, World.heap_drewN] at hzz); omega); have hs_w6 := hb_w6.size; (try simp only [World.size_alloc, World.size_setCell, World.size_drew, World.heap_drewN] at hs_w6)
  go_wp2_with fail
  have p0 : w6.cell? ⟨w.heap.size, 0, none⟩ = some (.int .i64 n) := (hc_w6 _ _ (by first | omega | (simp; omega) | simp)).trans ((World.cell?_alloc_lt _ _ ⟨_, _, _⟩ (by first | omega | (simp; omega) | simp)).trans ((hc_w5 _ _ (by first | omega | (simp; omega) | simp)).trans ((hc_w4 _ _ (by first | omega | (simp; omega) | simp)).trans ((hc_w3 _ _ (by first | omega | (simp; omega) | simp)).trans ((hc_w2 _ _ (by first | omega | (simp; omega) | simp)).trans ((hc_w1 _ _ (by first | omega | (simp; omega) | simp)).trans (by simp [go_sem])))))))
  have p1 : w6.cell? ⟨w.heap.size, 1, none⟩ = some (.slice A ws.length cap) := (hc_w6 _ _ (by first | omega | (simp; omega) | simp)).trans ((World.cell?_alloc_lt _ _ ⟨_, _, _⟩ (by first | omega | (simp; omega) | simp)).trans ((hc_w5 _ _ (by first | omega | (simp; omega) | simp)).trans ((hc_w4 _ _ (by first | omega | (simp; omega) | simp)).trans ((hc_w3 _ _ (by first | omega | (simp; omega) | simp)).trans ((hc_w2 _ _ (by first | omega | (simp; omega) | simp)).trans ((hc_w1 _ _ (by first | omega | (simp; omega) | simp)).trans (by simp [go_sem])))))))
  have x0 : w6.cell? ⟨w5.heap.size, 0, none⟩ = some (.int .i64 N) := (hc_w6 _ _ (by first | omega | (simp; omega) | simp)).trans new_two.1
  have x1 : w6.cell? ⟨w5.heap.size, 1, none⟩ = some (.slice A5 us.length cap5) := (hc_w6 _ _ (by first | omega | (simp; omega) | simp)).trans new_two.2
  have d0 : (w6.alloc (.cells #[.int .i64 N, .slice A6 us.length cap6] 26)).cell? ⟨w6.heap.size, 0, none⟩ = some (.int .i64 N) := new_two.1
  have d1 : (w6.alloc (.cells #[.int .i64 N, .slice A6 us.length cap6] 26)).cell? ⟨w6.heap.size, 1, none⟩ = some (.slice A6 us.length cap6) := new_two.2
  have P0 := (World.cell?_alloc_lt w6 (.cells #[.int .i64 N, .slice A6 us.length cap6] 26) ⟨w.heap.size, 0, none⟩ (by first | omega | (simp; omega) | simp)).trans p0
  have P1 := (World.cell?_alloc_lt w6 (.cells #[.int .i64 N, .slice A6 us.length cap6] 26) ⟨w.heap.size, 1, none⟩ (by first | omega | (simp; omega) | simp)).trans p1
  have X0 := (World.cell?_alloc_lt w6 (.cells #[.int .i64 N, .slice A6 us.length cap6] 26) ⟨w5.heap.size, 0, none⟩ (by first | omega | (simp; omega) | simp)).trans x0
  have X1 := (World.cell?_alloc_lt w6 (.cells #[.int .i64 N, .slice A6 us.length cap6] 26) ⟨w5.heap.size, 1, none⟩ (by first | omega | (simp; omega) | simp)).trans x1
  clear hc_w1 hc_w2 hc_w3 hc_w4 hc_w5 hc_w6 hf_w1 hf_w2 hf_w3 hf_w4 hf_w5 hf_w6
  go_region_held3 (fun X : World => X.cell? ⟨w.heap.size, 0, none⟩ = some (.int .i64 n) ∧ X.cell? ⟨w.heap.size, 1, none⟩ = some (.slice A ws.length cap) ∧ X.cell? ⟨w5.heap.size, 0, none⟩ = some (.int .i64 N) ∧ X.cell? ⟨w5.heap.size, 1, none⟩ = some (.slice A5 us.length cap5) ∧ X.cell? ⟨w6.heap.size, 0, none⟩ = some (.int .i64 N) ∧ X.cell? ⟨w6.heap.size, 1, none⟩ = some (.slice A6 us.length cap6))
    ((refine ⟨?_, ?_, ?_, ?_, ?_, ?_⟩ <;> first | assumption | (simp [go_sem]; done)))
    ((first
      | (go_at_call 15; refine (plives_any _).mono ?_; rintro e w7 ⟨rfl, hb_w7⟩; obtain ⟨hc_w7, hf_w7⟩ := bcell hb_w7; have hz_w7_w_0 : w.heap.size < w7.heap.size := (by have hzz := hb_w7.size; (try simp only [World.size_alloc, World.size_setCell, World.size_drew, World.heap_drewN] at hzz); omega); have hz_w7_w5_0 : w5.heap.size < w7.heap.size := (by have hzz := hb_w7.size; (try simp only [World.size_alloc, World.size_setCell, World.size_drew, World.heap_drewN] at hzz); omega); have hz_w7_w6_0 : w6.heap.size < w7.heap.size := (by have hzz := hb_w7.size; (try simp only [World.size_alloc, World.size_setCell, World.size_drew, World.heap_drewN] at hzz); omega); have hs_w7 := hb_w7.size; (try simp only [World.size_alloc, World.size_setCell, World.size_drew, World.heap_drewN] at hs_w7); have p07 := (hc_w7 _ _ (by first | omega | (simp; omega) | simp)).trans P0; have p17 := (hc_w7 _ _ (by first | omega | (simp; omega) | simp)).trans P1; have x07 := (hc_w7 _ _ (by first | omega | (simp; omega) | simp)).trans X0; have x17 := (hc_w7 _ _ (by first | omega | (simp; omega) | simp)).trans X1; have d07 := (hc_w7 _ _ (by first | omega | (simp; omega) | simp)).trans d0; have d17 := (hc_w7 _ _ (by first | omega | (simp; omega) | simp)).trans d1; clear hc_w7 hf_w7)
      | (go_at_call 16; refine (rpsame_ok _ hus _ _ (ho5.row.later (by repeat (first | exact Below.refl _ _ | assumption | (refine below_drewN ?_ _) | (refine Below.drew ?_) | (refine Below.alloc ?_ (by first | omega | (simp; omega) | simp) _) | (refine Below.setCell ?_ (by first | omega | (simp; omega) | simp) _) | (refine below_trans ?_ (by assumption) (by first | omega | (simp; omega) | simp))))) (ho6.row.later (by repeat (first | exact Below.refl _ _ | assumption | (refine below_drewN ?_ _) | (refine Below.drew ?_) | (refine Below.alloc ?_ (by first | omega | (simp; omega) | simp) _) | (refine Below.setCell ?_ (by first | omega | (simp; omega) | simp) _) | (refine below_trans ?_ (by assumption) (by first | omega | (simp; omega) | simp)))))).mono ?_; rintro e w8 ⟨rfl, hb_w8⟩; obtain ⟨hc_w8, hf_w8⟩ := bcell hb_w8; have hz_w8_w_0 : w.heap.size < w8.heap.size := (by have hzz := hb_w8.size; (try simp only [World.size_alloc, World.size_setCell, World.size_drew, World.heap_drewN] at hzz); omega); have hz_w8_w5_0 : w5.heap.size < w8.heap.size := (by have hzz := hb_w8.size; (try simp only [World.size_alloc, World.size_setCell, World.size_drew, World.heap_drewN] at hzz); omega); have hz_w8_w6_0 : w6.heap.size < w8.heap.size := (by have hzz := hb_w8.size; (try simp only [World.size_alloc, World.size_setCell, World.size_drew, World.heap_drewN] at hzz); omega); have hs_w8 := hb_w8.size; (try simp only [World.size_alloc, World.size_setCell, World.size_drew, World.heap_drewN] at hs_w8); have p08 := (hc_w8 _ _ (by first | omega | (simp; omega) | simp)).trans p07; have p18 := (hc_w8 _ _ (by first | omega | (simp; omega) | simp)).trans p17; have x08 := (hc_w8 _ _ (by first | omega | (simp; omega) | simp)).trans x07; have x18 := (hc_w8 _ _ (by first | omega | (simp; omega) | simp)).trans x17; have d08 := (hc_w8 _ _ (by first | omega | (simp; omega) | simp)).trans d07; have d18 := (hc_w8 _ _ (by first | omega | (simp; omega) | simp)).trans d17; clear hc_w8 hf_w8)
      | (go_at_call 23; refine (C1.out _ _ _ (hr.later (by repeat (first | exact Below.refl _ _ | assumption | (refine below_drewN ?_ _) | (refine Below.drew ?_) | (refine Below.alloc ?_ (by first | omega | (simp; omega) | simp) _) | (refine Below.setCell ?_ (by first | omega | (simp; omega) | simp) _) | (refine below_trans ?_ (by assumption) (by first | omega | (simp; omega) | simp)))))).mono ?_; rintro e w9 ⟨rfl, hb_w9⟩; obtain ⟨hc_w9, hf_w9⟩ := bcell hb_w9; have hz_w9_w_0 : w.heap.size < w9.heap.size := (by have hzz := hb_w9.size; (try simp only [World.size_alloc, World.size_setCell, World.size_drew, World.heap_drewN] at hzz); omega); have hz_w9_w5_0 : w5.heap.size < w9.heap.size := (by have hzz := hb_w9.size; (try simp only [World.size_alloc, World.size_setCell, World.size_drew, World.heap_drewN] at hzz); omega); have hz_w9_w6_0 : w6.heap.size < w9.heap.size := (by have hzz := hb_w9.size; (try simp only [World.size_alloc, World.size_setCell, World.size_drew, World.heap_drewN] at hzz); omega); have hs_w9 := hb_w9.size; (try simp only [World.size_alloc, World.size_setCell, World.size_drew, World.heap_drewN] at hs_w9); have p09 := (hc_w9 w.heap.size 0 (by first | omega | (simp; omega) | simp)).trans (by assumption : _ = some (.int .i64 n)); have p19 := (hc_w9 w.heap.size 1 (by first | omega | (simp; omega) | simp)).trans (by assumption : _ = some (.slice A ws.length cap)); have x09 := (hc_w9 w5.heap.size 0 (by first | omega | (simp; omega) | simp)).trans (by assumption : _ = some (.int .i64 N)); have x19 := (hc_w9 w5.heap.size 1 (by first | omega | (simp; omega) | simp)).trans (by assumption : _ = some (.slice A5 us.length cap5)); have d09 := (hc_w9 w6.heap.size 0 (by first | omega | (simp; omega) | simp)).trans (by assumption : _ = some (.int .i64 N)); have d19 := (hc_w9 w6.heap.size 1 (by first | omega | (simp; omega) | simp)).trans (by assumption : _ = some (.slice A6 us.length cap6)); clear hc_w9 hf_w9)
      | (go_at_call 24; refine (C2.out _ _ _ (hr.later (by repeat (first | exact Below.refl _ _ | assumption | (refine below_drewN ?_ _) | (refine Below.drew ?_) | (refine Below.alloc ?_ (by first | omega | (simp; omega) | simp) _) | (refine Below.setCell ?_ (by first | omega | (simp; omega) | simp) _) | (refine below_trans ?_ (by assumption) (by first | omega | (simp; omega) | simp)))))).mono ?_; rintro e w10 ⟨rfl, hb_w10⟩; obtain ⟨hc_w10, hf_w10⟩ := bcell hb_w10; have hz_w10_w_0 : w.heap.size < w10.heap.size := (by have hzz := hb_w10.size; (try simp only [World.size_alloc, World.size_setCell, World.size_drew, World.heap_drewN] at hzz); omega); have hz_w10_w5_0 : w5.heap.size < w10.heap.size := (by have hzz := hb_w10.size; (try simp only [World.size_alloc, World.size_setCell, World.size_drew, World.heap_drewN] at hzz); omega); have hz_w10_w6_0 : w6.heap.size < w10.heap.size := (by have hzz := hb_w10.size; (try simp only [World.size_alloc, World.size_setCell, World.size_drew, World.heap_drewN] at hzz); omega); have hs_w10 := hb_w10.size; (try simp only [World.size_alloc, World.size_setCell, World.size_drew, World.heap_drewN] at hs_w10); have p0x := (hc_w10 w.heap.size 0 (by first | omega | (simp; omega) | simp)).trans (by assumption : _ = some (.int .i64 n)); have p1x := (hc_w10 w.heap.size 1 (by first | omega | (simp; omega) | simp)).trans (by assumption : _ = some (.slice A ws.length cap)); have x0x := (hc_w10 w5.heap.size 0 (by first | omega | (simp; omega) | simp)).trans (by assumption : _ = some (.int .i64 N)); have x1x := (hc_w10 w5.heap.size 1 (by first | omega | (simp; omega) | simp)).trans (by assumption : _ = some (.slice A5 us.length cap5)); have d0x := (hc_w10 w6.heap.size 0 (by first | omega | (simp; omega) | simp)).trans (by assumption : _ = some (.int .i64 N)); have d1x := (hc_w10 w6.heap.size 1 (by first | omega | (simp; omega) | simp)).trans (by assumption : _ = some (.slice A6 us.length cap6)); clear hc_w10 hf_w10)))
  all_goals
    go_wp2
    go_ret
    exact ⟨rfl, (by repeat (first | exact Below.refl _ _ | assumption | (refine below_drewN ?_ _) | (refine Below.drew ?_) | (refine Below.alloc ?_ (by first | omega | (simp; omega) | simp) _) | (refine Below.setCell ?_ (by first | omega | (simp; omega) | simp) _) | (refine below_trans ?_ (by assumption) (by first | omega | (simp; omega) | simp))))⟩
end Go.Proofs.Ytcokfdgbgeeabaa
