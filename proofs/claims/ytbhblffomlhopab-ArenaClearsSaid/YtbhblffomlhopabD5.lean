/- The walk of the law ArenaClears. -/
import Derived.Test.YtbhblffomlhopabD2
namespace Go.Proofs.Ytbhblffomlhopab
open Go.RowKit
set_option linter.unusedVariables false
set_option linter.unusedSimpArgs false

/-- one word alone is added up -/
theorem sum_one {A B : Option Addr} {ws : List Nat} {w : World} (cap cap' i L : Nat) (hL : ws.length = L) (hr : Row w w.heap.size A ws) (hp : Row w w.heap.size B [i]) :
    Calls Try.prog 21 #[.agg #[.slice A L cap], .slice B 1 cap'] w fun e w' => e = .returned (.tuple #[.int .u64 (gotA ws i : Nat), .int .i64 (errA ws (i + 1 ≤ L))]) ∧ Below w.heap.size w w' := by
  subst hL
  by_cases h : ws.length ≤ 16384
  · refine (sum_ok cap cap' hr hp (by simp) h).mono fun e w' ⟨he, hb⟩ => ⟨?_, hb⟩
    rcases he with ⟨ha, he⟩ | ⟨ha, he⟩
    · have hi : i < ws.length := ha 0 (by simp)
      have hw := hr.words.at_ i
      have e1 : sumTo ws [i] 1 = ws.getD i 0 := by
        simp only [sumTo, List.getD_cons_zero, Nat.zero_add]
        exact Nat.mod_eq_of_lt hw
      rw [show [i].length = 1 from rfl] at he
      rw [he, e1, (resA_in (us := []) h (show i + 1 ≤ ws.length by omega)).2]
      unfold gotA
      rw [if_pos h, if_pos (show i + 1 ≤ ws.length by omega)]
    · have hi : ¬ i + 1 ≤ ws.length := fun hi => ha fun j hj => by
        have : j = 0 := by simpa using hj
        subst this
        exact hi
      rw [he, (resA_out (us := []) h hi).2]
      unfold gotA
      rw [if_pos h, if_neg hi]
      rfl
  · have h2 : errA ws (i + 1 ≤ ws.length) = 2 := if_neg h
    have h3 : gotA ws i = 0 := if_neg h
    rw [h2, h3]
    exact sum_bad (ps := [i]) cap cap' h
set_option maxHeartbeats 1000000 in
theorem acl_err (a n i : Int) (cap : Nat) {A : Option Addr} {ws : List Nat} {w : World} (us : List Nat) (why : Int) (hr : Row w w.heap.size A ws) (hne : (why != 0) = true)
    (S : ∀ (w : World) (A : Option Addr) (cap : Nat), Row w w.heap.size A ws → Calls Try.prog 17 #[.agg #[.slice A ws.length cap], .int .u64 a, .int .u64 n] w fun e w' => FreshA w us why e w') :
    Calls Try.prog 8 #[.agg #[.slice A ws.length cap], .int .u64 a, .int .u64 n, .int .u64 i] w fun e w' => e = .returned (.bool true) ∧ Below w.heap.size w w' := by
  have P := Lib.hid S
  clear S
  go_enter Try.func8, Try.ntmps8
  go_wp2_with fail
  go_at_call 13
  refine (words_any _).mono ?_
  rintro e w1 ⟨rfl, hb_w1⟩
  obtain ⟨hc_w1, hf_w1⟩ := bcell hb_w1; have hz_w1_w_0 : w.heap.size < w1.heap.size := (by have hzz := hb_w1.size; (try simp only [World.size_alloc, World.size_setCell, World.size_drew, World.heap_drewN] at hzz); omega); have hs_w1 := hb_w1.size; (try simp only [World.size_alloc, World.size_setCell, World.size_drew, World.heap_drewN] at hs_w1)
  go_wp2_with fail
  go_at_call 19
  refine (moves_any _).mono ?_
  rintro e w2 ⟨rfl, hb_w2⟩
  obtain ⟨hc_w2, hf_w2⟩ := bcell hb_w2; have hz_w2_w_0 : w.heap.size < w2.heap.size := (by have hzz := hb_w2.size; (try simp only [World.size_alloc, World.size_setCell, World.size_drew, World.heap_drewN] at hzz); omega); have hs_w2 := hb_w2.size; (try simp only [World.size_alloc, World.size_setCell, World.size_drew, World.heap_drewN] at hs_w2)
  go_wp2_with fail
  go_at_call 17
  refine (P.out _ _ _ (hr.later (by repeat (first | exact Below.refl _ _ | assumption | (refine below_drewN ?_ _) | (refine Below.drew ?_) | (refine Below.alloc ?_ (by first | omega | (simp; omega) | simp) _) | (refine Below.setCell ?_ (by first | omega | (simp; omega) | simp) _) | (refine below_trans ?_ (by assumption) (by first | omega | (simp; omega) | simp)))))).mono ?_
  rintro e w3 ⟨A3, cap3, rfl, ho3, hb_w3⟩
  obtain ⟨hc_w3, hf_w3⟩ := bcell hb_w3; have hz_w3_w_0 : w.heap.size < w3.heap.size := (by have hzz := hb_w3.size; (try simp only [World.size_alloc, World.size_setCell, World.size_drew, World.heap_drewN] at hzz); omega); have hs_w3 := hb_w3.size; (try simp only [World.size_alloc, World.size_setCell, World.size_drew, World.heap_drewN] at hs_w3)
  go_wp2
  go_ret
  exact ⟨rfl, (by repeat (first | exact Below.refl _ _ | assumption | (refine below_drewN ?_ _) | (refine Below.drew ?_) | (refine Below.alloc ?_ (by first | omega | (simp; omega) | simp) _) | (refine Below.setCell ?_ (by first | omega | (simp; omega) | simp) _) | (refine below_trans ?_ (by assumption) (by first | omega | (simp; omega) | simp))))⟩
set_option maxHeartbeats 1000000 in
theorem acl_ok (a n i : Nat) (cap : Nat) {A : Option Addr} {ws : List Nat} {w : World} (us : List Nat) (x y : Nat) (y2 : Int) (hr : Row w w.heap.size A ws) (hL : ws.length ≤ 16384) (ha : a < W64) (hn : n < W64) (hi : i < W64)
    (hxy : (a ≤ i ∧ i < a + n ∧ y = 0) ∨ (¬ (a ≤ i ∧ i < a + n) ∧ x = y))
    (S : ∀ (w : World) (A : Option Addr) (cap : Nat), Row w w.heap.size A ws → Calls Try.prog 17 #[.agg #[.slice A ws.length cap], .int .u64 (a : Nat), .int .u64 (n : Nat)] w fun e w' => FreshN w ws.length us 0 e w')
    (L2 : ∀ (w : World) (A : Option Addr) (cap : Nat), Row w w.heap.size A ws → Calls Try.prog 20 #[.agg #[.slice A ws.length cap], .int .u64 (i : Nat)] w fun e w' => e = .returned (.tuple #[.int .u64 (x : Nat), .int .i64 y2]) ∧ Below w.heap.size w w')
    (L3 : ∀ (w : World) (A : Option Addr) (cap : Nat), Row w w.heap.size A us → Calls Try.prog 20 #[.agg #[.slice A ws.length cap], .int .u64 (i : Nat)] w fun e w' => e = .returned (.tuple #[.int .u64 (y : Nat), .int .i64 y2]) ∧ Below w.heap.size w w')
    (M : ∀ (w : World) (A B : Option Addr) (cap cap' : Nat), Row w w.heap.size A us → Row w w.heap.size B [i] → Calls Try.prog 21 #[.agg #[.slice A ws.length cap], .slice B 1 cap'] w fun e w' => e = .returned (.tuple #[.int .u64 (y : Nat), .int .i64 y2]) ∧ Below w.heap.size w w') :
    Calls Try.prog 8 #[.agg #[.slice A ws.length cap], .int .u64 (a : Nat), .int .u64 (n : Nat), .int .u64 (i : Nat)] w fun e w' => e = .returned (.bool true) ∧ Below w.heap.size w w' := by
  have P := Lib.hid S
  have Q2 := Lib.hid L2
  have Q3 := Lib.hid L3
  have QM := Lib.hid M
  have hwi : Hid (Words [i]) := Lib.hid (fun z hz => by rw [List.mem_singleton.1 hz]; exact hi)
  have e1 : ((y : Int) == (y : Int)) = true := by simp
  have e2 : (y2 == y2) = true := by simp
  have e3 : ((ws.length : Int) == (ws.length : Int)) = true := by simp
  unfold W64 at ha hn hi
  clear S L2 L3 M
  rcases hxy with ⟨c1, c2, rfl⟩ | ⟨c, rfl⟩
  · have hd1 : decide ((a : Int) ≤ (i : Int)) = true := by simpa using c1
    have hd2 : decide ((i : Int) - (a : Int) < (n : Int)) = true := by simp; omega
    go_enter Try.func8, Try.ntmps8
    go_wp2_with fail
    go_at_call 13
    refine (words_any _).mono ?_
    rintro e w1 ⟨rfl, hb_w1⟩
    obtain ⟨hc_w1, hf_w1⟩ := bcell hb_w1; have hz_w1_w_0 : w.heap.size < w1.heap.size := (by have hzz := hb_w1.size; (try simp only [World.size_alloc, World.size_setCell, World.size_drew, World.heap_drewN] at hzz); omega); have hs_w1 := hb_w1.size; (try simp only [World.size_alloc, World.size_setCell, World.size_drew, World.heap_drewN] at hs_w1)
    go_wp2_with fail
    go_at_call 19
    refine (moves_any _).mono ?_
    rintro e w2 ⟨rfl, hb_w2⟩
    obtain ⟨hc_w2, hf_w2⟩ := bcell hb_w2; have hz_w2_w_0 : w.heap.size < w2.heap.size := (by have hzz := hb_w2.size; (try simp only [World.size_alloc, World.size_setCell, World.size_drew, World.heap_drewN] at hzz); omega); have hs_w2 := hb_w2.size; (try simp only [World.size_alloc, World.size_setCell, World.size_drew, World.heap_drewN] at hs_w2)
    go_wp2_with fail
    go_at_call 17
    refine (P.out _ _ _ (hr.later (by repeat (first | exact Below.refl _ _ | assumption | (refine below_drewN ?_ _) | (refine Below.drew ?_) | (refine Below.alloc ?_ (by first | omega | (simp; omega) | simp) _) | (refine Below.setCell ?_ (by first | omega | (simp; omega) | simp) _) | (refine below_trans ?_ (by assumption) (by first | omega | (simp; omega) | simp)))))).mono ?_
    rintro e w3 ⟨A3, cap3, rfl, ho3, hb_w3⟩
    obtain ⟨hc_w3, hf_w3⟩ := bcell hb_w3; have hz_w3_w_0 : w.heap.size < w3.heap.size := (by have hzz := hb_w3.size; (try simp only [World.size_alloc, World.size_setCell, World.size_drew, World.heap_drewN] at hzz); omega); have hs_w3 := hb_w3.size; (try simp only [World.size_alloc, World.size_setCell, World.size_drew, World.heap_drewN] at hs_w3)
    go_wp2_with fail
    go_at_call 20
    refine (Q2.out _ _ _ (hr.later (by repeat (first | exact Below.refl _ _ | assumption | (refine below_drewN ?_ _) | (refine Below.drew ?_) | (refine Below.alloc ?_ (by first | omega | (simp; omega) | simp) _) | (refine Below.setCell ?_ (by first | omega | (simp; omega) | simp) _) | (refine below_trans ?_ (by assumption) (by first | omega | (simp; omega) | simp)))))).mono ?_
    rintro e w4 ⟨rfl, hb_w4⟩
    obtain ⟨hc_w4, hf_w4⟩ := bcell hb_w4; have hz_w4_w_0 : w.heap.size < w4.heap.size := (by have hzz := hb_w4.size; (try simp only [World.size_alloc, World.size_setCell, World.size_drew, World.heap_drewN] at hzz); omega); have hz_w4_w3_0 : w3.heap.size < w4.heap.size := (by have hzz := hb_w4.size; (try simp only [World.size_alloc, World.size_setCell, World.size_drew, World.heap_drewN] at hzz); omega); have hs_w4 := hb_w4.size; (try simp only [World.size_alloc, World.size_setCell, World.size_drew, World.heap_drewN] at hs_w4)
    go_wp2_with fail
    go_at_call 20
    refine (Q3.out _ _ _ (ho3.1.row.later (by repeat (first | exact Below.refl _ _ | assumption | (refine below_drewN ?_ _) | (refine Below.drew ?_) | (refine Below.alloc ?_ (by first | omega | (simp; omega) | simp) _) | (refine Below.setCell ?_ (by first | omega | (simp; omega) | simp) _) | (refine below_trans ?_ (by assumption) (by first | omega | (simp; omega) | simp)))))).mono ?_
    rintro e w5 ⟨rfl, hb_w5⟩
    obtain ⟨hc_w5, hf_w5⟩ := bcell hb_w5; have hz_w5_w_0 : w.heap.size < w5.heap.size := (by have hzz := hb_w5.size; (try simp only [World.size_alloc, World.size_setCell, World.size_drew, World.heap_drewN] at hzz); omega); have hz_w5_w3_0 : w3.heap.size < w5.heap.size := (by have hzz := hb_w5.size; (try simp only [World.size_alloc, World.size_setCell, World.size_drew, World.heap_drewN] at hzz); omega); have hs_w5 := hb_w5.size; (try simp only [World.size_alloc, World.size_setCell, World.size_drew, World.heap_drewN] at hs_w5)
    go_wp2_with fail
    go_at_call 21
    refine (QM.out _ _ _ _ _ (ho3.1.row.later (by repeat (first | exact Below.refl _ _ | assumption | (refine below_drewN ?_ _) | (refine Below.drew ?_) | (refine Below.alloc ?_ (by first | omega | (simp; omega) | simp) _) | (refine Below.setCell ?_ (by first | omega | (simp; omega) | simp) _) | (refine below_trans ?_ (by assumption) (by first | omega | (simp; omega) | simp))))) (row_lit w5 [i] hwi.out)).mono ?_
    rintro e w6 ⟨rfl, hb_w6⟩
    obtain ⟨hc_w6, hf_w6⟩ := bcell hb_w6; have hz_w6_w_0 : w.heap.size < w6.heap.size := (by have hzz := hb_w6.size; (try simp only [World.size_alloc, World.size_setCell, World.size_drew, World.heap_drewN] at hzz); omega); have hz_w6_w3_0 : w3.heap.size < w6.heap.size := (by have hzz := hb_w6.size; (try simp only [World.size_alloc, World.size_setCell, World.size_drew, World.heap_drewN] at hzz); omega); have hs_w6 := hb_w6.size; (try simp only [World.size_alloc, World.size_setCell, World.size_drew, World.heap_drewN] at hs_w6)
    go_wp2
    go_ret
    exact ⟨rfl, (by repeat (first | exact Below.refl _ _ | assumption | (refine below_drewN ?_ _) | (refine Below.drew ?_) | (refine Below.alloc ?_ (by first | omega | (simp; omega) | simp) _) | (refine Below.setCell ?_ (by first | omega | (simp; omega) | simp) _) | (refine below_trans ?_ (by assumption) (by first | omega | (simp; omega) | simp))))⟩
  · by_cases c1 : a ≤ i
    · have hd1 : decide ((a : Int) ≤ (i : Int)) = true := by simpa using c1
      have hd2 : decide ((i : Int) - (a : Int) < (n : Int)) = false := by simp; omega
      clear c
      go_enter Try.func8, Try.ntmps8
      go_wp2_with fail
      go_at_call 13
      refine (words_any _).mono ?_
      rintro e w1 ⟨rfl, hb_w1⟩
      obtain ⟨hc_w1, hf_w1⟩ := bcell hb_w1; have hz_w1_w_0 : w.heap.size < w1.heap.size := (by have hzz := hb_w1.size; (try simp only [World.size_alloc, World.size_setCell, World.size_drew, World.heap_drewN] at hzz); omega); have hs_w1 := hb_w1.size; (try simp only [World.size_alloc, World.size_setCell, World.size_drew, World.heap_drewN] at hs_w1)
      go_wp2_with fail
      go_at_call 19
      refine (moves_any _).mono ?_
      rintro e w2 ⟨rfl, hb_w2⟩
      obtain ⟨hc_w2, hf_w2⟩ := bcell hb_w2; have hz_w2_w_0 : w.heap.size < w2.heap.size := (by have hzz := hb_w2.size; (try simp only [World.size_alloc, World.size_setCell, World.size_drew, World.heap_drewN] at hzz); omega); have hs_w2 := hb_w2.size; (try simp only [World.size_alloc, World.size_setCell, World.size_drew, World.heap_drewN] at hs_w2)
      go_wp2_with fail
      go_at_call 17
      refine (P.out _ _ _ (hr.later (by repeat (first | exact Below.refl _ _ | assumption | (refine below_drewN ?_ _) | (refine Below.drew ?_) | (refine Below.alloc ?_ (by first | omega | (simp; omega) | simp) _) | (refine Below.setCell ?_ (by first | omega | (simp; omega) | simp) _) | (refine below_trans ?_ (by assumption) (by first | omega | (simp; omega) | simp)))))).mono ?_
      rintro e w3 ⟨A3, cap3, rfl, ho3, hb_w3⟩
      obtain ⟨hc_w3, hf_w3⟩ := bcell hb_w3; have hz_w3_w_0 : w.heap.size < w3.heap.size := (by have hzz := hb_w3.size; (try simp only [World.size_alloc, World.size_setCell, World.size_drew, World.heap_drewN] at hzz); omega); have hs_w3 := hb_w3.size; (try simp only [World.size_alloc, World.size_setCell, World.size_drew, World.heap_drewN] at hs_w3)
      go_wp2_with fail
      go_at_call 20
      refine (Q2.out _ _ _ (hr.later (by repeat (first | exact Below.refl _ _ | assumption | (refine below_drewN ?_ _) | (refine Below.drew ?_) | (refine Below.alloc ?_ (by first | omega | (simp; omega) | simp) _) | (refine Below.setCell ?_ (by first | omega | (simp; omega) | simp) _) | (refine below_trans ?_ (by assumption) (by first | omega | (simp; omega) | simp)))))).mono ?_
      rintro e w4 ⟨rfl, hb_w4⟩
      obtain ⟨hc_w4, hf_w4⟩ := bcell hb_w4; have hz_w4_w_0 : w.heap.size < w4.heap.size := (by have hzz := hb_w4.size; (try simp only [World.size_alloc, World.size_setCell, World.size_drew, World.heap_drewN] at hzz); omega); have hz_w4_w3_0 : w3.heap.size < w4.heap.size := (by have hzz := hb_w4.size; (try simp only [World.size_alloc, World.size_setCell, World.size_drew, World.heap_drewN] at hzz); omega); have hs_w4 := hb_w4.size; (try simp only [World.size_alloc, World.size_setCell, World.size_drew, World.heap_drewN] at hs_w4)
      go_wp2_with fail
      go_at_call 20
      refine (Q3.out _ _ _ (ho3.1.row.later (by repeat (first | exact Below.refl _ _ | assumption | (refine below_drewN ?_ _) | (refine Below.drew ?_) | (refine Below.alloc ?_ (by first | omega | (simp; omega) | simp) _) | (refine Below.setCell ?_ (by first | omega | (simp; omega) | simp) _) | (refine below_trans ?_ (by assumption) (by first | omega | (simp; omega) | simp)))))).mono ?_
      rintro e w5 ⟨rfl, hb_w5⟩
      obtain ⟨hc_w5, hf_w5⟩ := bcell hb_w5; have hz_w5_w_0 : w.heap.size < w5.heap.size := (by have hzz := hb_w5.size; (try simp only [World.size_alloc, World.size_setCell, World.size_drew, World.heap_drewN] at hzz); omega); have hz_w5_w3_0 : w3.heap.size < w5.heap.size := (by have hzz := hb_w5.size; (try simp only [World.size_alloc, World.size_setCell, World.size_drew, World.heap_drewN] at hzz); omega); have hs_w5 := hb_w5.size; (try simp only [World.size_alloc, World.size_setCell, World.size_drew, World.heap_drewN] at hs_w5)
      go_wp2_with fail
      go_at_call 21
      refine (QM.out _ _ _ _ _ (ho3.1.row.later (by repeat (first | exact Below.refl _ _ | assumption | (refine below_drewN ?_ _) | (refine Below.drew ?_) | (refine Below.alloc ?_ (by first | omega | (simp; omega) | simp) _) | (refine Below.setCell ?_ (by first | omega | (simp; omega) | simp) _) | (refine below_trans ?_ (by assumption) (by first | omega | (simp; omega) | simp))))) (row_lit w5 [i] hwi.out)).mono ?_
      rintro e w6 ⟨rfl, hb_w6⟩
      obtain ⟨hc_w6, hf_w6⟩ := bcell hb_w6; have hz_w6_w_0 : w.heap.size < w6.heap.size := (by have hzz := hb_w6.size; (try simp only [World.size_alloc, World.size_setCell, World.size_drew, World.heap_drewN] at hzz); omega); have hz_w6_w3_0 : w3.heap.size < w6.heap.size := (by have hzz := hb_w6.size; (try simp only [World.size_alloc, World.size_setCell, World.size_drew, World.heap_drewN] at hzz); omega); have hs_w6 := hb_w6.size; (try simp only [World.size_alloc, World.size_setCell, World.size_drew, World.heap_drewN] at hs_w6)
      go_wp2
      go_ret
      exact ⟨rfl, (by repeat (first | exact Below.refl _ _ | assumption | (refine below_drewN ?_ _) | (refine Below.drew ?_) | (refine Below.alloc ?_ (by first | omega | (simp; omega) | simp) _) | (refine Below.setCell ?_ (by first | omega | (simp; omega) | simp) _) | (refine below_trans ?_ (by assumption) (by first | omega | (simp; omega) | simp))))⟩
    · have hd1 : decide ((a : Int) ≤ (i : Int)) = false := by simp; omega
      clear c
      go_enter Try.func8, Try.ntmps8
      go_wp2_with fail
      go_at_call 13
      refine (words_any _).mono ?_
      rintro e w1 ⟨rfl, hb_w1⟩
      obtain ⟨hc_w1, hf_w1⟩ := bcell hb_w1; have hz_w1_w_0 : w.heap.size < w1.heap.size := (by have hzz := hb_w1.size; (try simp only [World.size_alloc, World.size_setCell, World.size_drew, World.heap_drewN] at hzz); omega); have hs_w1 := hb_w1.size; (try simp only [World.size_alloc, World.size_setCell, World.size_drew, World.heap_drewN] at hs_w1)
      go_wp2_with fail
      go_at_call 19
      refine (moves_any _).mono ?_
      rintro e w2 ⟨rfl, hb_w2⟩
      obtain ⟨hc_w2, hf_w2⟩ := bcell hb_w2; have hz_w2_w_0 : w.heap.size < w2.heap.size := (by have hzz := hb_w2.size; (try simp only [World.size_alloc, World.size_setCell, World.size_drew, World.heap_drewN] at hzz); omega); have hs_w2 := hb_w2.size; (try simp only [World.size_alloc, World.size_setCell, World.size_drew, World.heap_drewN] at hs_w2)
      go_wp2_with fail
      go_at_call 17
      refine (P.out _ _ _ (hr.later (by repeat (first | exact Below.refl _ _ | assumption | (refine below_drewN ?_ _) | (refine Below.drew ?_) | (refine Below.alloc ?_ (by first | omega | (simp; omega) | simp) _) | (refine Below.setCell ?_ (by first | omega | (simp; omega) | simp) _) | (refine below_trans ?_ (by assumption) (by first | omega | (simp; omega) | simp)))))).mono ?_
      rintro e w3 ⟨A3, cap3, rfl, ho3, hb_w3⟩
      obtain ⟨hc_w3, hf_w3⟩ := bcell hb_w3; have hz_w3_w_0 : w.heap.size < w3.heap.size := (by have hzz := hb_w3.size; (try simp only [World.size_alloc, World.size_setCell, World.size_drew, World.heap_drewN] at hzz); omega); have hs_w3 := hb_w3.size; (try simp only [World.size_alloc, World.size_setCell, World.size_drew, World.heap_drewN] at hs_w3)
      go_wp2_with fail
      go_at_call 20
      refine (Q2.out _ _ _ (hr.later (by repeat (first | exact Below.refl _ _ | assumption | (refine below_drewN ?_ _) | (refine Below.drew ?_) | (refine Below.alloc ?_ (by first | omega | (simp; omega) | simp) _) | (refine Below.setCell ?_ (by first | omega | (simp; omega) | simp) _) | (refine below_trans ?_ (by assumption) (by first | omega | (simp; omega) | simp)))))).mono ?_
      rintro e w4 ⟨rfl, hb_w4⟩
      obtain ⟨hc_w4, hf_w4⟩ := bcell hb_w4; have hz_w4_w_0 : w.heap.size < w4.heap.size := (by have hzz := hb_w4.size; (try simp only [World.size_alloc, World.size_setCell, World.size_drew, World.heap_drewN] at hzz); omega); have hz_w4_w3_0 : w3.heap.size < w4.heap.size := (by have hzz := hb_w4.size; (try simp only [World.size_alloc, World.size_setCell, World.size_drew, World.heap_drewN] at hzz); omega); have hs_w4 := hb_w4.size; (try simp only [World.size_alloc, World.size_setCell, World.size_drew, World.heap_drewN] at hs_w4)
      go_wp2_with fail
      go_at_call 20
      refine (Q3.out _ _ _ (ho3.1.row.later (by repeat (first | exact Below.refl _ _ | assumption | (refine below_drewN ?_ _) | (refine Below.drew ?_) | (refine Below.alloc ?_ (by first | omega | (simp; omega) | simp) _) | (refine Below.setCell ?_ (by first | omega | (simp; omega) | simp) _) | (refine below_trans ?_ (by assumption) (by first | omega | (simp; omega) | simp)))))).mono ?_
      rintro e w5 ⟨rfl, hb_w5⟩
      obtain ⟨hc_w5, hf_w5⟩ := bcell hb_w5; have hz_w5_w_0 : w.heap.size < w5.heap.size := (by have hzz := hb_w5.size; (try simp only [World.size_alloc, World.size_setCell, World.size_drew, World.heap_drewN] at hzz); omega); have hz_w5_w3_0 : w3.heap.size < w5.heap.size := (by have hzz := hb_w5.size; (try simp only [World.size_alloc, World.size_setCell, World.size_drew, World.heap_drewN] at hzz); omega); have hs_w5 := hb_w5.size; (try simp only [World.size_alloc, World.size_setCell, World.size_drew, World.heap_drewN] at hs_w5)
      go_wp2_with fail
      go_at_call 21
      refine (QM.out _ _ _ _ _ (ho3.1.row.later (by repeat (first | exact Below.refl _ _ | assumption | (refine below_drewN ?_ _) | (refine Below.drew ?_) | (refine Below.alloc ?_ (by first | omega | (simp; omega) | simp) _) | (refine Below.setCell ?_ (by first | omega | (simp; omega) | simp) _) | (refine below_trans ?_ (by assumption) (by first | omega | (simp; omega) | simp))))) (row_lit w5 [i] hwi.out)).mono ?_
      rintro e w6 ⟨rfl, hb_w6⟩
      obtain ⟨hc_w6, hf_w6⟩ := bcell hb_w6; have hz_w6_w_0 : w.heap.size < w6.heap.size := (by have hzz := hb_w6.size; (try simp only [World.size_alloc, World.size_setCell, World.size_drew, World.heap_drewN] at hzz); omega); have hz_w6_w3_0 : w3.heap.size < w6.heap.size := (by have hzz := hb_w6.size; (try simp only [World.size_alloc, World.size_setCell, World.size_drew, World.heap_drewN] at hzz); omega); have hs_w6 := hb_w6.size; (try simp only [World.size_alloc, World.size_setCell, World.size_drew, World.heap_drewN] at hs_w6)
      go_wp2
      go_ret
      exact ⟨rfl, (by repeat (first | exact Below.refl _ _ | assumption | (refine below_drewN ?_ _) | (refine Below.drew ?_) | (refine Below.alloc ?_ (by first | omega | (simp; omega) | simp) _) | (refine Below.setCell ?_ (by first | omega | (simp; omega) | simp) _) | (refine below_trans ?_ (by assumption) (by first | omega | (simp; omega) | simp))))⟩
theorem arenaClears_walk (A : Option Addr) (cap : Nat) (ws : List Nat) (a n i : Nat) (w : World) (hr : Row w w.heap.size A ws) (hl : ws.length ≤ 17592186044416) (ha : a < W64) (hn : n < W64) (hi : i < W64) :
    Calls Try.prog 8 #[.agg #[.slice A ws.length cap], .int .u64 (a : Nat), .int .u64 (n : Nat), .int .u64 (i : Nat)] w fun e w' => e = .returned (.bool true) ∧ Below w.heap.size w w' := by
  by_cases h : ws.length ≤ 16384
  · by_cases ht : a + n ≤ ws.length
    · have hLs : (overTo ws a (fun _ => 0) n).length = ws.length := length_overTo _ _ _ _
      refine acl_ok a n i cap (overTo ws a (fun _ => 0) n) (gotA ws i) (gotA (overTo ws a (fun _ => 0) n) i) (errA ws (i + 1 ≤ ws.length)) hr h ha hn hi ?_
        (fun w A cap hr => (clear_any cap a n hr hl ha hn).mono fun e w' hh => ?_) (fun w A cap hr => load_any cap i hr hi) (fun w A cap hr => ?_) (fun w A B cap cap' hr hp => ?_)
      · have hg : gotA (overTo ws a (fun _ => 0) n) i = if a ≤ i ∧ i < a + n then 0 else gotA ws i := by
          unfold gotA
          simp only [hLs, overTo_at, if_pos h]
          by_cases hin : i + 1 ≤ ws.length
          · simp only [if_pos hin]
            by_cases c : a ≤ i ∧ i < a + n
            · rw [if_pos c, if_pos ⟨c.1, c.2, by omega⟩]
            · rw [if_neg c, if_neg (fun hh => c ⟨hh.1, hh.2.1⟩)]
          · simp only [if_neg hin]
            split <;> rfl
        by_cases c : a ≤ i ∧ i < a + n
        · exact .inl ⟨c.1, c.2, by rw [hg, if_pos c]⟩
        · exact .inr ⟨c, by rw [hg, if_neg c]⟩
      · rw [(resA_in (us := overTo ws a (fun _ => 0) n) h ht).1, (resA_in (us := overTo ws a (fun _ => 0) n) h ht).2] at hh
        exact hh.n hLs
      · have := load_n cap i _ hLs hr hi
        rwa [errA_eq hLs] at this
      · have := sum_one cap cap' i _ hLs hr hp
        rwa [errA_eq hLs] at this
    · exact acl_err a n i cap _ _ hr (by rw [(resA_out (us := overTo ws a (fun _ => 0) n) h ht).2]; decide) (fun w A cap hr => clear_any cap a n hr hl ha hn)
  · exact acl_err a n i cap _ _ hr (by rw [(resA_bad (us := overTo ws a (fun _ => 0) n) (p := a + n ≤ ws.length) h).2]; decide) (fun w A cap hr => clear_any cap a n hr hl ha hn)
theorem arenaClears_walkI (A : Option Addr) (cap : Nat) (ws : List Nat) (a n i : Int) (w : World) (hr : Row w w.heap.size A ws) (hl : ws.length ≤ 17592186044416) (ha : 0 ≤ a ∧ a ≤ 18446744073709551615) (hn : 0 ≤ n ∧ n ≤ 18446744073709551615) (hi : 0 ≤ i ∧ i ≤ 18446744073709551615) :
    Calls Try.prog 8 #[.agg #[.slice A ws.length cap], .int .u64 a, .int .u64 n, .int .u64 i] w fun e w' => e = .returned (.bool true) ∧ Below w.heap.size w w' := by
  obtain ⟨a, rfl⟩ := Int.eq_ofNat_of_zero_le ha.1
  obtain ⟨n, rfl⟩ := Int.eq_ofNat_of_zero_le hn.1
  obtain ⟨i, rfl⟩ := Int.eq_ofNat_of_zero_le hi.1
  exact arenaClears_walk A cap ws a n i w hr hl (by unfold W64; omega) (by unfold W64; omega) (by unfold W64; omega)
end Go.Proofs.Ytbhblffomlhopab
