/- The walk of the law ArenaLoads. -/
import Derived.Test.YtofkdpgnngbkfaaE1
import Derived.Deep.RegionHeld3
namespace Go.Proofs.Ytofkdpgnngbkfaa
open Go.RowKit
set_option linter.unusedVariables false
set_option linter.unusedSimpArgs false

section
variable {A B : Option Addr} {ws ps : List Nat} {w : World} (cap cap' : Nat)
theorem rasum_bad (h : ¬ ws.length ≤ 16384) : Calls Try.prog 8 #[.agg #[.slice A ws.length cap], .slice B ps.length cap'] w fun e w' => e = .returned (.tuple #[.int .u64 0, .int .i64 2]) ∧ Below w.heap.size w w' := by
  have HR := Lib.hid h
  clear h
  go_enter Try.func8, Try.ntmps8
  go_wp2_with (go_at_call 14; refine (racheck_bad _ _ HR.out).mono ?_; rintro e w1 ⟨rfl, hb_w1⟩; obtain ⟨hc_w1, hf_w1⟩ := bcell hb_w1; have hz_w1_w_0 : w.heap.size < w1.heap.size := (by have hzz := hb_w1.size; (try simp only [World.size_alloc, World.size_setCell, World.size_drew, World.heap_drewN] at hzz); omega))
  go_ret2
  exact ⟨rfl, (by repeat (first | exact Below.refl _ _ | assumption | (refine below_drewN ?_ _) | (refine Below.drew ?_) | (refine Below.alloc ?_ (by first | omega | (simp; omega) | simp) _) | (refine Below.setCell ?_ (by first | omega | (simp; omega) | simp) _) | (refine below_trans ?_ (by assumption) (by first | omega | (simp; omega) | simp))))⟩
theorem rasum_ok (hr : Row w w.heap.size A ws) (hp : Row w w.heap.size B ps) (hl : ps.length ≤ 17592186044416) (h : ws.length ≤ 16384) : Calls Try.prog 8 #[.agg #[.slice A ws.length cap], .slice B ps.length cap'] w fun e w' => SumE ws ps e ∧ Below w.heap.size w w' := by
  go_enter Try.func8, Try.ntmps8
  go_wp2_with fail
  go_at_call 14
  refine (racheck_ok _ _ h).mono ?_
  rintro e w1 ⟨rfl, hb_w1⟩
  obtain ⟨hc_w1, hf_w1⟩ := bcell hb_w1; have hz_w1_w_0 : w.heap.size < w1.heap.size := (by have hzz := hb_w1.size; (try simp only [World.size_alloc, World.size_setCell, World.size_drew, World.heap_drewN] at hzz); omega); have hs_w1 := hb_w1.size; (try simp only [World.size_alloc, World.size_setCell, World.size_drew, World.heap_drewN] at hs_w1)
  have t1 : w1.cell? ⟨w.heap.size, 0, none⟩ = some (.slice A ws.length cap) := (hc_w1 _ _ (by first | omega | (simp; omega) | simp)).trans (by simp [go_sem])
  go_wp2_with fail
  go_loopw [6, 14] (fun s i wr => ∃ k : Nat, i = .int .i64 k ∧ k ≤ ps.length ∧ s = .int .u64 (sumTo ws ps k : Nat) ∧ AllIn ws ps k ∧ wr.cell? ⟨w.heap.size, 0, none⟩ = some (.slice A ws.length cap) ∧ w.heap.size + 1 ≤ wr.heap.size ∧ Below w.heap.size w wr)
    (fun _ i _ => ps.length - (intOf i).toNat)
  case atStart => exact ⟨0, rfl, Nat.zero_le _, rfl, fun j h => by omega, t1, (by first | omega | (simp; omega) | simp), (by repeat (first | exact Below.refl _ _ | assumption | (refine below_drewN ?_ _) | (refine Below.drew ?_) | (refine Below.alloc ?_ (by first | omega | (simp; omega) | simp) _) | (refine Below.setCell ?_ (by first | omega | (simp; omega) | simp) _) | (refine below_trans ?_ (by assumption) (by first | omega | (simp; omega) | simp))))⟩
  case round =>
    obtain ⟨k, rfl, hk, rfl, hs, hc0, hsz, hb_wr⟩ := hrel
    by_cases hlt : k < ps.length
    · obtain ⟨b, off, rfl, hb, hc⟩ := (hp.later hb_wr).at_ (by omega)
      have hck := hc k hlt
      have hpk := hp.words.at_ k
      obtain ⟨y, hy⟩ := named ps k
      rw [hy.out] at hck hpk
      clear hc
      have HP := Lib.hid hpk
      clear hpk
      by_cases hin : y + 1 ≤ ws.length
      · obtain ⟨x, hx⟩ := named ws y
        obtain ⟨ba, oa, rfl, hba, hca⟩ := (hr.later hb_wr).at_ (by omega)
        have hcx := hca y (by omega)
        rw [hx.out] at hcx
        clear hca
        have e3 := wrap_add (sumTo ws ps k) x
        have E : Hid (sumTo ws ps (k + 1) = (sumTo ws ps k + x) % W64) := Lib.hid (by rw [sumTo, hy.out, hx.out])
        have HI := Lib.hid hin
        have hi2 : y < ws.length := by omega
        clear hin
        go_wp2_with fail
        go_at_call 22
        refine (athere_any _ ws.length y 1 true (by omega) HP.out (by decide) (.inl ⟨rfl, HI.out⟩)).mono ?_
        rintro e w3 ⟨rfl, hb_w3⟩
        obtain ⟨hc_w3, hf_w3⟩ := bcell hb_w3; have hs_w3 := hb_w3.size; (try simp only [World.size_alloc, World.size_setCell, World.size_drew, World.heap_drewN] at hs_w3)
        have t3 : w3.cell? ⟨w.heap.size, 0, none⟩ = some (.slice (some ⟨ba, oa, none⟩) ws.length cap) := (hc_w3 _ _ (by first | omega | (simp; omega) | simp)).trans hc0
        have t4 : w3.cell? ⟨ba, oa + y, none⟩ = some (.int .u64 (x : Nat)) := (hc_w3 _ _ (by first | omega | (simp; omega) | simp)).trans hcx
        go_wp2_with fail
        go_roundw
        case rel =>
          exact ⟨k + 1, by go_num, by omega, by rw [E.out]; first | done | rfl | (simp only [W64]; push_cast; rfl) | (congr 1; unfold W64; omega), fun j hj => by
            by_cases ej : j = k
            · rw [ej, hy.out]; omega
            · exact hs j (by omega), t3, (by first | omega | (simp; omega) | simp), (by repeat (first | exact Below.refl _ _ | assumption | (refine below_drewN ?_ _) | (refine Below.drew ?_) | (refine Below.alloc ?_ (by first | omega | (simp; omega) | simp) _) | (refine Below.setCell ?_ (by first | omega | (simp; omega) | simp) _) | (refine below_trans ?_ (by assumption) (by first | omega | (simp; omega) | simp))))⟩
        case measure => simp [intOf]; omega
      · have HI := Lib.hid hin
        clear hin
        go_wp2_with fail
        go_at_call 22
        refine (athere_any _ ws.length y 1 false (by omega) HP.out (by decide) (.inr ⟨rfl, HI.out⟩)).mono ?_
        rintro e w3 ⟨rfl, hb_w3⟩
        obtain ⟨hc_w3, hf_w3⟩ := bcell hb_w3; have hs_w3 := hb_w3.size; (try simp only [World.size_alloc, World.size_setCell, World.size_drew, World.heap_drewN] at hs_w3)
        go_wp2_with fail
        go_ret2
        exact ⟨.inr ⟨fun hh => by have := hh k hlt; rw [hy.out] at this; exact HI.out this, rfl⟩, (by repeat (first | exact Below.refl _ _ | assumption | (refine below_drewN ?_ _) | (refine Below.drew ?_) | (refine Below.alloc ?_ (by first | omega | (simp; omega) | simp) _) | (refine Below.setCell ?_ (by first | omega | (simp; omega) | simp) _) | (refine below_trans ?_ (by assumption) (by first | omega | (simp; omega) | simp))))⟩
    · obtain rfl : k = ps.length := by omega
      go_wp2
      go_ret2
      exact ⟨.inl ⟨hs, rfl⟩, (by repeat (first | exact Below.refl _ _ | assumption | (refine below_drewN ?_ _) | (refine Below.drew ?_) | (refine Below.alloc ?_ (by first | omega | (simp; omega) | simp) _) | (refine Below.setCell ?_ (by first | omega | (simp; omega) | simp) _) | (refine below_trans ?_ (by assumption) (by first | omega | (simp; omega) | simp))))⟩
end
theorem lsum_both (ws ps : List Nat) (hl : ps.length ≤ 17592186044416) : ∃ (s : Nat) (y : Int),
    (∀ (w : World) (A B : Option Addr) (cap cap' : Nat), Row w w.heap.size A ws → Row w w.heap.size B ps → Calls Try.prog 7 #[.agg #[.slice A ws.length cap], .slice B ps.length cap'] w fun e w' => e = .returned (.tuple #[.int .u64 (s : Nat), .int .i64 y]) ∧ Below w.heap.size w w') ∧
    (∀ (w : World) (A B : Option Addr) (cap cap' : Nat), Row w w.heap.size A ws → Row w w.heap.size B ps → Calls Try.prog 8 #[.agg #[.slice A ws.length cap], .slice B ps.length cap'] w fun e w' => e = .returned (.tuple #[.int .u64 (s : Nat), .int .i64 y]) ∧ Below w.heap.size w w') := by
  by_cases h : ws.length ≤ 16384
  · by_cases ha : AllIn ws ps ps.length
    · refine ⟨sumTo ws ps ps.length, 0, fun w A B cap cap' hr hp => (sum_ok cap cap' hr hp hl h).mono fun e w' ⟨he, hb⟩ => ⟨?_, hb⟩, fun w A B cap cap' hr hp => (rasum_ok cap cap' hr hp hl h).mono fun e w' ⟨he, hb⟩ => ⟨?_, hb⟩⟩
      all_goals
        rcases he with ⟨_, he⟩ | ⟨hn, _⟩
        · exact he
        · exact absurd ha hn
    · refine ⟨0, 1, fun w A B cap cap' hr hp => (sum_ok cap cap' hr hp hl h).mono fun e w' ⟨he, hb⟩ => ⟨?_, hb⟩, fun w A B cap cap' hr hp => (rasum_ok cap cap' hr hp hl h).mono fun e w' ⟨he, hb⟩ => ⟨?_, hb⟩⟩
      all_goals
        rcases he with ⟨hn, _⟩ | ⟨_, he⟩
        · exact absurd hn ha
        · exact he
  · exact ⟨0, 2, fun w A B cap cap' hr hp => sum_bad cap cap' h, fun w A B cap cap' hr hp => rasum_bad cap cap' h⟩
theorem lmake_both (n : Int) : ∃ (us : List Nat) (why : Int), (∀ w, Calls Try.prog 9 #[.int .i64 n] w fun e w' => FreshA w us why e w') ∧ (∀ w, Calls Try.prog 10 #[.int .i64 n] w fun e w' => FreshA w us why e w') ∧ us.length ≤ 16384 := by
  by_cases h : 0 ≤ n ∧ n ≤ 16384
  · exact ⟨_, 0, fun w => amake_ok n w h.1 h.2, fun w => ramake_ok n w h.1 h.2, by rw [List.length_replicate]; omega⟩
  · exact ⟨[], 1, fun w => amake_bad n w h, fun w => ramake_bad n w h, by simp⟩
set_option maxHeartbeats 8000000 in
theorem arenaLoads_walk (A B : Option Addr) (cap cap' : Nat) (ws ps : List Nat) (i : Nat) (n : Int) (w : World) (hr : Row w w.heap.size A ws) (hp : Row w w.heap.size B ps) (hl : ps.length ≤ 17592186044416) (hi : i < W64) :
    Calls Try.prog 3 #[.agg #[.slice A ws.length cap], .int .u64 (i : Nat), .slice B ps.length cap', .int .i64 n] w fun e w' => e = .returned (.bool true) ∧ Below w.heap.size w w' := by
  obtain ⟨s, y, s1, s2⟩ := lsum_both ws ps hl
  obtain ⟨us, why, m1, m2, hu⟩ := lmake_both n
  have hus : us.length ≤ maxLen := by unfold maxLen; omega
  have S1 := Lib.hid s1
  have S2 := Lib.hid s2
  have M1 := Lib.hid m1
  have M2 := Lib.hid m2
  obtain ⟨x, hx⟩ : ∃ x, Hid (gotA ws i = x) := ⟨_, rfl⟩
  obtain ⟨z, hz⟩ : ∃ z, Hid (errA ws (i + 1 ≤ ws.length) = z) := ⟨_, rfl⟩
  obtain ⟨c, hc⟩ : ∃ c, Hid (errA ws True = c) := ⟨_, rfl⟩
  have L1 : Hid (∀ (w : World) (A : Option Addr) (cap : Nat), Row w w.heap.size A ws → Calls Try.prog 5 #[.agg #[.slice A ws.length cap], .int .u64 (i : Nat)] w fun e w' => e = .returned (.tuple #[.int .u64 (x : Nat), .int .i64 z]) ∧ Below w.heap.size w w') := Lib.hid (by rw [← hx.out, ← hz.out]; exact fun w A cap hr => load_any cap i hr hi)
  have L2 : Hid (∀ (w : World) (A : Option Addr) (cap : Nat), Row w w.heap.size A ws → Calls Try.prog 6 #[.agg #[.slice A ws.length cap], .int .u64 (i : Nat)] w fun e w' => e = .returned (.tuple #[.int .u64 (x : Nat), .int .i64 z]) ∧ Below w.heap.size w w') := Lib.hid (by rw [← hx.out, ← hz.out]; exact fun w A cap hr => raload_any cap i hr hi)
  have C1 : Hid (∀ (w : World) (A : Option Addr) (cap : Nat), Calls Try.prog 13 #[.agg #[.slice A ws.length cap]] w fun e w' => e = .returned (.int .i64 c) ∧ Below w.heap.size w w') := Lib.hid (by rw [← hc.out]; exact fun w A cap => acheck_any cap)
  have C2 : Hid (∀ (w : World) (A : Option Addr) (cap : Nat), Calls Try.prog 14 #[.agg #[.slice A ws.length cap]] w fun e w' => e = .returned (.int .i64 c) ∧ Below w.heap.size w w') := Lib.hid (by rw [← hc.out]; exact fun w A cap => racheck_any cap)
  have e1 : ((x : Int) == (x : Int)) = true := by simp
  have e2 : (z == z) = true := by simp
  have e3 : ((s : Int) == (s : Int)) = true := by simp
  have e4 : (y == y) = true := by simp
  have e5 : (why == why) = true := by simp
  have e6 : (c == c) = true := by simp
  clear s1 s2 m1 m2
  go_enter Try.func3, Try.ntmps3
  go_wp2_with fail
  go_at_call 5
  refine (L1.out _ _ _ (hr.later (by repeat (first | exact Below.refl _ _ | assumption | (refine below_drewN ?_ _) | (refine Below.drew ?_) | (refine Below.alloc ?_ (by first | omega | (simp; omega) | simp) _) | (refine Below.setCell ?_ (by first | omega | (simp; omega) | simp) _) | (refine below_trans ?_ (by assumption) (by first | omega | (simp; omega) | simp)))))).mono ?_
  rintro e w1 ⟨rfl, hb_w1⟩
  obtain ⟨hc_w1, hf_w1⟩ := bcell hb_w1; have hz_w1_w_0 : w.heap.size < w1.heap.size := (by have hzz := hb_w1.size; (try simp only [World.size_alloc, World.size_setCell, World.size_drew, World.heap_drewN] at hzz); omega); have hs_w1 := hb_w1.size; (try simp only [World.size_alloc, World.size_setCell, World.size_drew, World.heap_drewN] at hs_w1)
  go_wp2_with fail
  go_at_call 6
  refine (L2.out _ _ _ (hr.later (by repeat (first | exact Below.refl _ _ | assumption | (refine below_drewN ?_ _) | (refine Below.drew ?_) | (refine Below.alloc ?_ (by first | omega | (simp; omega) | simp) _) | (refine Below.setCell ?_ (by first | omega | (simp; omega) | simp) _) | (refine below_trans ?_ (by assumption) (by first | omega | (simp; omega) | simp)))))).mono ?_
  rintro e w2 ⟨rfl, hb_w2⟩
  obtain ⟨hc_w2, hf_w2⟩ := bcell hb_w2; have hz_w2_w_0 : w.heap.size < w2.heap.size := (by have hzz := hb_w2.size; (try simp only [World.size_alloc, World.size_setCell, World.size_drew, World.heap_drewN] at hzz); omega); have hs_w2 := hb_w2.size; (try simp only [World.size_alloc, World.size_setCell, World.size_drew, World.heap_drewN] at hs_w2)
  go_wp2_with fail
  go_at_call 7
  refine (S1.out _ _ _ _ _ (hr.later (by repeat (first | exact Below.refl _ _ | assumption | (refine below_drewN ?_ _) | (refine Below.drew ?_) | (refine Below.alloc ?_ (by first | omega | (simp; omega) | simp) _) | (refine Below.setCell ?_ (by first | omega | (simp; omega) | simp) _) | (refine below_trans ?_ (by assumption) (by first | omega | (simp; omega) | simp))))) (hp.later (by repeat (first | exact Below.refl _ _ | assumption | (refine below_drewN ?_ _) | (refine Below.drew ?_) | (refine Below.alloc ?_ (by first | omega | (simp; omega) | simp) _) | (refine Below.setCell ?_ (by first | omega | (simp; omega) | simp) _) | (refine below_trans ?_ (by assumption) (by first | omega | (simp; omega) | simp)))))).mono ?_
  rintro e w3 ⟨rfl, hb_w3⟩
  obtain ⟨hc_w3, hf_w3⟩ := bcell hb_w3; have hz_w3_w_0 : w.heap.size < w3.heap.size := (by have hzz := hb_w3.size; (try simp only [World.size_alloc, World.size_setCell, World.size_drew, World.heap_drewN] at hzz); omega); have hs_w3 := hb_w3.size; (try simp only [World.size_alloc, World.size_setCell, World.size_drew, World.heap_drewN] at hs_w3)
  go_wp2_with fail
  go_at_call 8
  refine (S2.out _ _ _ _ _ (hr.later (by repeat (first | exact Below.refl _ _ | assumption | (refine below_drewN ?_ _) | (refine Below.drew ?_) | (refine Below.alloc ?_ (by first | omega | (simp; omega) | simp) _) | (refine Below.setCell ?_ (by first | omega | (simp; omega) | simp) _) | (refine below_trans ?_ (by assumption) (by first | omega | (simp; omega) | simp))))) (hp.later (by repeat (first | exact Below.refl _ _ | assumption | (refine below_drewN ?_ _) | (refine Below.drew ?_) | (refine Below.alloc ?_ (by first | omega | (simp; omega) | simp) _) | (refine Below.setCell ?_ (by first | omega | (simp; omega) | simp) _) | (refine below_trans ?_ (by assumption) (by first | omega | (simp; omega) | simp)))))).mono ?_
  rintro e w4 ⟨rfl, hb_w4⟩
  obtain ⟨hc_w4, hf_w4⟩ := bcell hb_w4; have hz_w4_w_0 : w.heap.size < w4.heap.size := (by have hzz := hb_w4.size; (try simp only [World.size_alloc, World.size_setCell, World.size_drew, World.heap_drewN] at hzz); omega); have hs_w4 := hb_w4.size; (try simp only [World.size_alloc, World.size_setCell, World.size_drew, World.heap_drewN] at hs_w4)
  go_wp2_with fail
  go_at_call 9
  refine (M1.out _).mono ?_
  rintro e w5 ⟨A5, cap5, rfl, ho5, hb_w5⟩
  obtain ⟨hc_w5, hf_w5⟩ := bcell hb_w5; have hz_w5_w_0 : w.heap.size < w5.heap.size := (by have hzz := hb_w5.size; (try simp only [World.size_alloc, World.size_setCell, World.size_drew, World.heap_drewN] at hzz); omega); have hs_w5 := hb_w5.size; (try simp only [World.size_alloc, World.size_setCell, World.size_drew, World.heap_drewN] at hs_w5)
  go_wp2_with fail
  go_at_call 10
  refine (M2.out _).mono ?_
  rintro e w6 ⟨A6, cap6, rfl, ho6, hb_w6⟩
  obtain ⟨hc_w6, hf_w6⟩ := bcell hb_w6; have hz_w6_w_0 : w.heap.size < w6.heap.size := (by have hzz := hb_w6.size; (try simp only [World.size_alloc, World.size_setCell, World.size_drew, World.heap_drewN] at hzz); omega); have hz_w6_w5_0 : w5.heap.size < w6.heap.size := (by have hzz := hb_w6.size; (try simp only [World.size_alloc, World.size_setCell, World.size_drew, World.heap_drewN] at hzz); omega); have hs_w6 := hb_w6.size; (try simp only [World.size_alloc, World.size_setCell, World.size_drew, World.heap_drewN] at hs_w6)
  go_wp2_with fail
  have p0 : w6.cell? ⟨w.heap.size, 0, none⟩ = some (.slice A ws.length cap) := (hc_w6 _ _ (by first | omega | (simp; omega) | simp)).trans ((World.cell?_alloc_lt _ _ ⟨_, _, _⟩ (by first | omega | (simp; omega) | simp)).trans ((hc_w5 _ _ (by first | omega | (simp; omega) | simp)).trans ((hc_w4 _ _ (by first | omega | (simp; omega) | simp)).trans ((hc_w3 _ _ (by first | omega | (simp; omega) | simp)).trans ((hc_w2 _ _ (by first | omega | (simp; omega) | simp)).trans ((hc_w1 _ _ (by first | omega | (simp; omega) | simp)).trans (by simp [go_sem])))))))
  have x0 : w6.cell? ⟨w5.heap.size, 0, none⟩ = some (.slice A5 us.length cap5) := (hc_w6 _ _ (by first | omega | (simp; omega) | simp)).trans (by simp [go_sem])
  have d0 : (w6.alloc (.cells #[.slice A6 us.length cap6] 24)).cell? ⟨w6.heap.size, 0, none⟩ = some (.slice A6 us.length cap6) := by simp [go_sem]
  have P0 := (World.cell?_alloc_lt w6 (.cells #[.slice A6 us.length cap6] 24) ⟨w.heap.size, 0, none⟩ (by first | omega | (simp; omega) | simp)).trans p0
  have X0 := (World.cell?_alloc_lt w6 (.cells #[.slice A6 us.length cap6] 24) ⟨w5.heap.size, 0, none⟩ (by first | omega | (simp; omega) | simp)).trans x0
  clear hc_w1 hc_w2 hc_w3 hc_w4 hc_w5 hc_w6 hf_w1 hf_w2 hf_w3 hf_w4 hf_w5 hf_w6
  go_region_held3 (fun X : World => X.cell? ⟨w.heap.size, 0, none⟩ = some (.slice A ws.length cap) ∧ X.cell? ⟨w5.heap.size, 0, none⟩ = some (.slice A5 us.length cap5) ∧ X.cell? ⟨w6.heap.size, 0, none⟩ = some (.slice A6 us.length cap6))
    ((refine ⟨?_, ?_, ?_⟩ <;> first | assumption | (simp [go_sem]; done)))
    ((first
      | (go_at_call 11; refine (words_any _).mono ?_; rintro e w7 ⟨rfl, hb_w7⟩; obtain ⟨hc_w7, hf_w7⟩ := bcell hb_w7; have hz_w7_w_0 : w.heap.size < w7.heap.size := (by have hzz := hb_w7.size; (try simp only [World.size_alloc, World.size_setCell, World.size_drew, World.heap_drewN] at hzz); omega); have hz_w7_w5_0 : w5.heap.size < w7.heap.size := (by have hzz := hb_w7.size; (try simp only [World.size_alloc, World.size_setCell, World.size_drew, World.heap_drewN] at hzz); omega); have hz_w7_w6_0 : w6.heap.size < w7.heap.size := (by have hzz := hb_w7.size; (try simp only [World.size_alloc, World.size_setCell, World.size_drew, World.heap_drewN] at hzz); omega); have hs_w7 := hb_w7.size; (try simp only [World.size_alloc, World.size_setCell, World.size_drew, World.heap_drewN] at hs_w7); have p07 := (hc_w7 _ _ (by first | omega | (simp; omega) | simp)).trans P0; have x07 := (hc_w7 _ _ (by first | omega | (simp; omega) | simp)).trans X0; have d07 := (hc_w7 _ _ (by first | omega | (simp; omega) | simp)).trans d0; clear hc_w7 hf_w7)
      | (go_at_call 12; refine (asame_ok us hus _ _ _ _ _ (ho5.1.row.later (by repeat (first | exact Below.refl _ _ | assumption | (refine below_drewN ?_ _) | (refine Below.drew ?_) | (refine Below.alloc ?_ (by first | omega | (simp; omega) | simp) _) | (refine Below.setCell ?_ (by first | omega | (simp; omega) | simp) _) | (refine below_trans ?_ (by assumption) (by first | omega | (simp; omega) | simp))))) (ho6.1.row.later (by repeat (first | exact Below.refl _ _ | assumption | (refine below_drewN ?_ _) | (refine Below.drew ?_) | (refine Below.alloc ?_ (by first | omega | (simp; omega) | simp) _) | (refine Below.setCell ?_ (by first | omega | (simp; omega) | simp) _) | (refine below_trans ?_ (by assumption) (by first | omega | (simp; omega) | simp)))))).mono ?_; rintro e w8 ⟨rfl, hb_w8⟩; obtain ⟨hc_w8, hf_w8⟩ := bcell hb_w8; have hz_w8_w_0 : w.heap.size < w8.heap.size := (by have hzz := hb_w8.size; (try simp only [World.size_alloc, World.size_setCell, World.size_drew, World.heap_drewN] at hzz); omega); have hz_w8_w5_0 : w5.heap.size < w8.heap.size := (by have hzz := hb_w8.size; (try simp only [World.size_alloc, World.size_setCell, World.size_drew, World.heap_drewN] at hzz); omega); have hz_w8_w6_0 : w6.heap.size < w8.heap.size := (by have hzz := hb_w8.size; (try simp only [World.size_alloc, World.size_setCell, World.size_drew, World.heap_drewN] at hzz); omega); have hs_w8 := hb_w8.size; (try simp only [World.size_alloc, World.size_setCell, World.size_drew, World.heap_drewN] at hs_w8); have p08 := (hc_w8 _ _ (by first | omega | (simp; omega) | simp)).trans p07; have x08 := (hc_w8 _ _ (by first | omega | (simp; omega) | simp)).trans x07; have d08 := (hc_w8 _ _ (by first | omega | (simp; omega) | simp)).trans d07; clear hc_w8 hf_w8)
      | (go_at_call 13; refine (C1.out _ _ _).mono ?_; rintro e w9 ⟨rfl, hb_w9⟩; obtain ⟨hc_w9, hf_w9⟩ := bcell hb_w9; have hz_w9_w_0 : w.heap.size < w9.heap.size := (by have hzz := hb_w9.size; (try simp only [World.size_alloc, World.size_setCell, World.size_drew, World.heap_drewN] at hzz); omega); have hz_w9_w5_0 : w5.heap.size < w9.heap.size := (by have hzz := hb_w9.size; (try simp only [World.size_alloc, World.size_setCell, World.size_drew, World.heap_drewN] at hzz); omega); have hz_w9_w6_0 : w6.heap.size < w9.heap.size := (by have hzz := hb_w9.size; (try simp only [World.size_alloc, World.size_setCell, World.size_drew, World.heap_drewN] at hzz); omega); have hs_w9 := hb_w9.size; (try simp only [World.size_alloc, World.size_setCell, World.size_drew, World.heap_drewN] at hs_w9); have p09 := (hc_w9 w.heap.size 0 (by first | omega | (simp; omega) | simp)).trans (by assumption : _ = some (.slice A ws.length cap)); have x09 := (hc_w9 w5.heap.size 0 (by first | omega | (simp; omega) | simp)).trans (by assumption : _ = some (.slice A5 us.length cap5)); have d09 := (hc_w9 w6.heap.size 0 (by first | omega | (simp; omega) | simp)).trans (by assumption : _ = some (.slice A6 us.length cap6)); clear hc_w9 hf_w9)
      | (go_at_call 14; refine (C2.out _ _ _).mono ?_; rintro e w10 ⟨rfl, hb_w10⟩; obtain ⟨hc_w10, hf_w10⟩ := bcell hb_w10; have hz_w10_w_0 : w.heap.size < w10.heap.size := (by have hzz := hb_w10.size; (try simp only [World.size_alloc, World.size_setCell, World.size_drew, World.heap_drewN] at hzz); omega); have hz_w10_w5_0 : w5.heap.size < w10.heap.size := (by have hzz := hb_w10.size; (try simp only [World.size_alloc, World.size_setCell, World.size_drew, World.heap_drewN] at hzz); omega); have hz_w10_w6_0 : w6.heap.size < w10.heap.size := (by have hzz := hb_w10.size; (try simp only [World.size_alloc, World.size_setCell, World.size_drew, World.heap_drewN] at hzz); omega); have hs_w10 := hb_w10.size; (try simp only [World.size_alloc, World.size_setCell, World.size_drew, World.heap_drewN] at hs_w10); have p0x := (hc_w10 w.heap.size 0 (by first | omega | (simp; omega) | simp)).trans (by assumption : _ = some (.slice A ws.length cap)); have x0x := (hc_w10 w5.heap.size 0 (by first | omega | (simp; omega) | simp)).trans (by assumption : _ = some (.slice A5 us.length cap5)); have d0x := (hc_w10 w6.heap.size 0 (by first | omega | (simp; omega) | simp)).trans (by assumption : _ = some (.slice A6 us.length cap6)); clear hc_w10 hf_w10)))
  all_goals
    go_wp2
    go_ret
    exact ⟨rfl, (by repeat (first | exact Below.refl _ _ | assumption | (refine below_drewN ?_ _) | (refine Below.drew ?_) | (refine Below.alloc ?_ (by first | omega | (simp; omega) | simp) _) | (refine Below.setCell ?_ (by first | omega | (simp; omega) | simp) _) | (refine below_trans ?_ (by assumption) (by first | omega | (simp; omega) | simp))))⟩
theorem arenaLoads_walkI (A B : Option Addr) (cap cap' : Nat) (ws ps : List Nat) (i n : Int) (w : World) (hr : Row w w.heap.size A ws) (hp : Row w w.heap.size B ps) (hl : ps.length ≤ 17592186044416) (hi : 0 ≤ i ∧ i ≤ 18446744073709551615) :
    Calls Try.prog 3 #[.agg #[.slice A ws.length cap], .int .u64 i, .slice B ps.length cap', .int .i64 n] w fun e w' => e = .returned (.bool true) ∧ Below w.heap.size w w' := by
  obtain ⟨i, rfl⟩ := Int.eq_ofNat_of_zero_le hi.1
  exact arenaLoads_walk A B cap cap' ws ps i n w hr hp hl (by unfold W64; omega)
end Go.Proofs.Ytofkdpgnngbkfaa
