/- The walks of the laws HeadCodes, HeadFields. -/
import Derived.Test.YtkfmhghjgdeekaaJ5
import Derived.Deep.RegionHeld3
namespace Go.Proofs.Ytkfmhghjgdeekaa
open Go.RowKit
set_option linter.unusedVariables false
set_option linter.unusedSimpArgs false

abbrev Tels (f : Nat) (args : Array Value) (v : Value) : Prop := ∀ w : World, Calls Try.prog f args w fun e w' => e = .returned v ∧ Below w.heap.size w w'
theorem jpack_both (n : Int) (m : Nat) (hm : m < W64) : ∃ z y : Int, Tels 9 #[.agg #[.int .i64 n, .int .u64 (m : Nat)]] (.tuple #[.int .u64 z, .int .i64 y]) ∧ Tels 10 #[.agg #[.int .i64 n, .int .u64 (m : Nat)]] (.tuple #[.int .u64 z, .int .i64 y]) := by
  by_cases h : Sh n m
  · exact ⟨_, _, fun w => hpack_ok h, fun w => xpack_ok h⟩
  · exact ⟨_, _, fun w => hpack_bad hm h, fun w => xpack_bad hm h⟩
theorem jcheck_both (n : Int) (m : Nat) (hm : m < W64) : ∃ y : Int, Tels 14 #[.agg #[.int .i64 n, .int .u64 (m : Nat)]] (.int .i64 y) ∧ Tels 15 #[.agg #[.int .i64 n, .int .u64 (m : Nat)]] (.int .i64 y) := by
  by_cases h : Sh n m
  · exact ⟨_, fun w => hcheck_ok h, fun w => xcheck_ok h⟩
  · exact ⟨_, fun w => hcheck_bad hm h, fun w => xcheck_bad hm h⟩
theorem junpack_both (x : Nat) (hx : x < W64) : ∃ a b y : Int, Tels 11 #[.int .u64 (x : Nat)] (.tuple #[.agg #[.int .i64 a, .int .u64 b], .int .i64 y]) ∧ Tels 12 #[.int .u64 (x : Nat)] (.tuple #[.agg #[.int .i64 a, .int .u64 b], .int .i64 y]) :=
  ⟨_, _, _, fun w => hunpack_any x hx, fun w => xunpack_any x hx⟩
theorem jref_both (n : Int) (m : Nat) (hm : m < W64) (f : Int) : ∃ (b : Bool) (y : Int), Tels 16 #[.agg #[.int .i64 n, .int .u64 (m : Nat)], .int .i64 f] (.tuple #[.bool b, .int .i64 y]) ∧ Tels 17 #[.agg #[.int .i64 n, .int .u64 (m : Nat)], .int .i64 f] (.tuple #[.bool b, .int .i64 y]) :=
  ⟨_, _, fun w => href_any hm f, fun w => xref_any hm f⟩
theorem jnext_both (n : Int) (m : Nat) (hm : m < W64) (f : Int) : ∃ (b : Int) (y : Int), Tels 20 #[.agg #[.int .i64 n, .int .u64 (m : Nat)], .int .i64 f] (.tuple #[.int .i64 b, .int .i64 y]) ∧ Tels 21 #[.agg #[.int .i64 n, .int .u64 (m : Nat)], .int .i64 f] (.tuple #[.int .i64 b, .int .i64 y]) :=
  ⟨_, _, fun w => hnext_any hm f, fun w => xnext_any hm f⟩
theorem jrefs_both (n : Int) (m : Nat) (hm : m < W64) (xs : List Int) (hl : xs.length ≤ 17592186044416) : ∃ (b : Int) (y : Int),
    (∀ (w : World) (A : Option Addr) (cap : Nat), IRow w w.heap.size A xs → Calls Try.prog 18 #[.agg #[.int .i64 n, .int .u64 (m : Nat)], .slice A xs.length cap] w fun e w' => e = .returned (.tuple #[.int .i64 b, .int .i64 y]) ∧ Below w.heap.size w w') ∧
    (∀ (w : World) (A : Option Addr) (cap : Nat), IRow w w.heap.size A xs → Calls Try.prog 19 #[.agg #[.int .i64 n, .int .u64 (m : Nat)], .slice A xs.length cap] w fun e w' => e = .returned (.tuple #[.int .i64 b, .int .i64 y]) ∧ Below w.heap.size w w') :=
  ⟨_, _, fun w A cap hr => hrefs_any hm cap hr hl, fun w A cap hr => xrefs_any hm cap hr hl⟩

set_option maxHeartbeats 4000000 in
theorem headFields_walk (n : Int) (m : Nat) (hm : m < W64) (f : Int) (A : Option Addr) (cap : Nat) (xs : List Int) (w : World) (hr : IRow w w.heap.size A xs) (hl : xs.length ≤ 17592186044416) :
    Calls Try.prog 4 #[.agg #[.int .i64 n, .int .u64 (m : Nat)], .int .i64 f, .slice A xs.length cap] w fun e w' => e = .returned (.bool true) ∧ Below w.heap.size w w' := by
  obtain ⟨b1, y1, p1, q1⟩ := jref_both n m hm f
  obtain ⟨b2, y2, p2, q2⟩ := jrefs_both n m hm xs hl
  obtain ⟨b3, y3, p3, q3⟩ := jnext_both n m hm f
  have P1 := Lib.hid p1
  have Q1 := Lib.hid q1
  have e1 : (b1 == b1) = true := by simp
  have f1 : (y1 == y1) = true := by simp
  have P2 := Lib.hid p2
  have Q2 := Lib.hid q2
  have e2 : (b2 == b2) = true := by simp
  have f2 : (y2 == y2) = true := by simp
  have P3 := Lib.hid p3
  have Q3 := Lib.hid q3
  have e3 : (b3 == b3) = true := by simp
  have f3 : (y3 == y3) = true := by simp
  clear p1 q1 p2 q2 p3 q3
  go_enter Try.func4, Try.ntmps4
  go_wp2_with fail
  go_at_call 16
  refine (P1.out _).mono ?_
  rintro e w1 ⟨rfl, hb_w1⟩
  obtain ⟨hc_w1, hf_w1⟩ := bcell hb_w1; have hz_w1_w_0 : w.heap.size < w1.heap.size := (by have hzz := hb_w1.size; (try simp only [World.size_alloc, World.size_setCell, World.size_drew, World.heap_drewN] at hzz); omega); have hs_w1 := hb_w1.size; (try simp only [World.size_alloc, World.size_setCell, World.size_drew, World.heap_drewN] at hs_w1)
  go_wp2_with fail
  go_at_call 17
  refine (Q1.out _).mono ?_
  rintro e w2 ⟨rfl, hb_w2⟩
  obtain ⟨hc_w2, hf_w2⟩ := bcell hb_w2; have hz_w2_w_0 : w.heap.size < w2.heap.size := (by have hzz := hb_w2.size; (try simp only [World.size_alloc, World.size_setCell, World.size_drew, World.heap_drewN] at hzz); omega); have hs_w2 := hb_w2.size; (try simp only [World.size_alloc, World.size_setCell, World.size_drew, World.heap_drewN] at hs_w2)
  have hr2 : IRow w2 w2.heap.size A xs := (hr.keep fun b o hlt => (hc_w2 b o (by first | omega | (simp; omega) | simp)).trans ((hc_w1 b o (by first | omega | (simp; omega) | simp)).trans (World.cell?_alloc_lt _ _ ⟨_, _, _⟩ hlt))).more (by first | omega | (simp; omega) | simp)
  go_wp2_with fail
  go_at_call 18
  refine (P2.out _ _ _ hr2).mono ?_
  rintro e w3 ⟨rfl, hb_w3⟩
  obtain ⟨hc_w3, hf_w3⟩ := bcell hb_w3; have hz_w3_w_0 : w.heap.size < w3.heap.size := (by have hzz := hb_w3.size; (try simp only [World.size_alloc, World.size_setCell, World.size_drew, World.heap_drewN] at hzz); omega); have hs_w3 := hb_w3.size; (try simp only [World.size_alloc, World.size_setCell, World.size_drew, World.heap_drewN] at hs_w3)
  go_wp2_with fail
  go_at_call 19
  refine (Q2.out _ _ _ (hr2.later hb_w3)).mono ?_
  rintro e w4 ⟨rfl, hb_w4⟩
  obtain ⟨hc_w4, hf_w4⟩ := bcell hb_w4; have hz_w4_w_0 : w.heap.size < w4.heap.size := (by have hzz := hb_w4.size; (try simp only [World.size_alloc, World.size_setCell, World.size_drew, World.heap_drewN] at hzz); omega); have hs_w4 := hb_w4.size; (try simp only [World.size_alloc, World.size_setCell, World.size_drew, World.heap_drewN] at hs_w4)
  go_wp2_with fail
  go_at_call 20
  refine (P3.out _).mono ?_
  rintro e w5 ⟨rfl, hb_w5⟩
  obtain ⟨hc_w5, hf_w5⟩ := bcell hb_w5; have hz_w5_w_0 : w.heap.size < w5.heap.size := (by have hzz := hb_w5.size; (try simp only [World.size_alloc, World.size_setCell, World.size_drew, World.heap_drewN] at hzz); omega); have hs_w5 := hb_w5.size; (try simp only [World.size_alloc, World.size_setCell, World.size_drew, World.heap_drewN] at hs_w5)
  go_wp2_with fail
  go_at_call 21
  refine (Q3.out _).mono ?_
  rintro e w6 ⟨rfl, hb_w6⟩
  obtain ⟨hc_w6, hf_w6⟩ := bcell hb_w6; have hz_w6_w_0 : w.heap.size < w6.heap.size := (by have hzz := hb_w6.size; (try simp only [World.size_alloc, World.size_setCell, World.size_drew, World.heap_drewN] at hzz); omega); have hs_w6 := hb_w6.size; (try simp only [World.size_alloc, World.size_setCell, World.size_drew, World.heap_drewN] at hs_w6)
  go_wp2_with fail
  go_at_call 13
  refine (jlives_any _).mono ?_
  rintro e w7 ⟨rfl, hb_w7⟩
  go_wp2
  go_ret
  exact ⟨rfl, (by repeat (first | exact Below.refl _ _ | assumption | (refine below_drewN ?_ _) | (refine Below.drew ?_) | (refine Below.alloc ?_ (by first | omega | (simp; omega) | simp) _) | (refine Below.setCell ?_ (by first | omega | (simp; omega) | simp) _) | (refine below_trans ?_ (by assumption) (by first | omega | (simp; omega) | simp))))⟩
set_option maxHeartbeats 4000000 in
theorem headCodes_walk (n : Int) (m : Nat) (hm : m < W64) (x : Nat) (hx : x < W64) (w : World) :
    Calls Try.prog 3 #[.agg #[.int .i64 n, .int .u64 (m : Nat)], .int .u64 (x : Nat)] w fun e w' => e = .returned (.bool true) ∧ Below w.heap.size w w' := by
  obtain ⟨b1, y1, p1, q1⟩ := jpack_both n m hm
  obtain ⟨b2, b3, y2, p2, q2⟩ := junpack_both x hx
  obtain ⟨y3, p3, q3⟩ := jcheck_both n m hm
  have e1 : (b1 == b1) = true := by simp
  have e2 : (b2 == b2) = true := by simp
  have e3 : (b3 == b3) = true := by simp
  have P1 := Lib.hid p1
  have Q1 := Lib.hid q1
  have f1 : (y1 == y1) = true := by simp
  have P2 := Lib.hid p2
  have Q2 := Lib.hid q2
  have f2 : (y2 == y2) = true := by simp
  have P3 := Lib.hid p3
  have Q3 := Lib.hid q3
  have f3 : (y3 == y3) = true := by simp
  clear p1 q1 p2 q2 p3 q3
  go_enter Try.func3, Try.ntmps3
  go_wp2_with fail
  go_at_call 9
  refine (P1.out _).mono ?_
  rintro e w1 ⟨rfl, hb_w1⟩
  obtain ⟨hc_w1, hf_w1⟩ := bcell hb_w1; have hz_w1_w_0 : w.heap.size < w1.heap.size := (by have hzz := hb_w1.size; (try simp only [World.size_alloc, World.size_setCell, World.size_drew, World.heap_drewN] at hzz); omega); have hs_w1 := hb_w1.size; (try simp only [World.size_alloc, World.size_setCell, World.size_drew, World.heap_drewN] at hs_w1)
  go_wp2_with fail
  go_at_call 10
  refine (Q1.out _).mono ?_
  rintro e w2 ⟨rfl, hb_w2⟩
  obtain ⟨hc_w2, hf_w2⟩ := bcell hb_w2; have hz_w2_w_0 : w.heap.size < w2.heap.size := (by have hzz := hb_w2.size; (try simp only [World.size_alloc, World.size_setCell, World.size_drew, World.heap_drewN] at hzz); omega); have hs_w2 := hb_w2.size; (try simp only [World.size_alloc, World.size_setCell, World.size_drew, World.heap_drewN] at hs_w2)
  go_wp2_with fail
  go_at_call 11
  refine (P2.out _).mono ?_
  rintro e w3 ⟨rfl, hb_w3⟩
  obtain ⟨hc_w3, hf_w3⟩ := bcell hb_w3; have hz_w3_w_0 : w.heap.size < w3.heap.size := (by have hzz := hb_w3.size; (try simp only [World.size_alloc, World.size_setCell, World.size_drew, World.heap_drewN] at hzz); omega); have hs_w3 := hb_w3.size; (try simp only [World.size_alloc, World.size_setCell, World.size_drew, World.heap_drewN] at hs_w3)
  go_wp2_with fail
  go_at_call 12
  refine (Q2.out _).mono ?_
  rintro e w4 ⟨rfl, hb_w4⟩
  obtain ⟨hc_w4, hf_w4⟩ := bcell hb_w4; have hz_w4_w_0 : w.heap.size < w4.heap.size := (by have hzz := hb_w4.size; (try simp only [World.size_alloc, World.size_setCell, World.size_drew, World.heap_drewN] at hzz); omega); have hz_w4_w3_0 : w3.heap.size < w4.heap.size := (by have hzz := hb_w4.size; (try simp only [World.size_alloc, World.size_setCell, World.size_drew, World.heap_drewN] at hzz); omega); have hs_w4 := hb_w4.size; (try simp only [World.size_alloc, World.size_setCell, World.size_drew, World.heap_drewN] at hs_w4)
  go_wp2_with fail
  have g0 : Sp w1 w.heap.size n m := (Sp.new w n m 24).later hb_w1
  have g1 := ((g0.below hb_w2 (by first | omega | (simp; omega) | simp)).below hb_w3 (by first | omega | (simp; omega) | simp))
  have h1 : (w3.alloc (.cells #[.int .i64 b2, .int .u64 b3] 24)).cell? ⟨w3.heap.size, 0, none⟩ = some (.int .i64 b2) ∧ (w3.alloc (.cells #[.int .i64 b2, .int .u64 b3] 24)).cell? ⟨w3.heap.size, 1, none⟩ = some (.int .u64 b3) := new_two
  have p00 : (w4.alloc (.cells #[.int .i64 b2, .int .u64 b3] 24)).cell? ⟨w.heap.size, 0, none⟩ = some (.int .i64 n) := (World.cell?_alloc_lt _ _ ⟨_, _, _⟩ (by first | omega | (simp; omega) | simp)).trans ((hc_w4 _ _ (by first | omega | (simp; omega) | simp)).trans ((World.cell?_alloc_lt _ _ ⟨_, _, _⟩ (by first | omega | (simp; omega) | simp)).trans g1.c0))
  have p01 : (w4.alloc (.cells #[.int .i64 b2, .int .u64 b3] 24)).cell? ⟨w.heap.size, 1, none⟩ = some (.int .u64 (m : Nat)) := (World.cell?_alloc_lt _ _ ⟨_, _, _⟩ (by first | omega | (simp; omega) | simp)).trans ((hc_w4 _ _ (by first | omega | (simp; omega) | simp)).trans ((World.cell?_alloc_lt _ _ ⟨_, _, _⟩ (by first | omega | (simp; omega) | simp)).trans g1.c1))
  have p10 : (w4.alloc (.cells #[.int .i64 b2, .int .u64 b3] 24)).cell? ⟨w3.heap.size, 0, none⟩ = some (.int .i64 b2) := (World.cell?_alloc_lt _ _ ⟨_, _, _⟩ (by first | omega | (simp; omega) | simp)).trans ((hc_w4 _ _ (by first | omega | (simp; omega) | simp)).trans h1.1)
  have p11 : (w4.alloc (.cells #[.int .i64 b2, .int .u64 b3] 24)).cell? ⟨w3.heap.size, 1, none⟩ = some (.int .u64 b3) := (World.cell?_alloc_lt _ _ ⟨_, _, _⟩ (by first | omega | (simp; omega) | simp)).trans ((hc_w4 _ _ (by first | omega | (simp; omega) | simp)).trans h1.2)
  have p20 : (w4.alloc (.cells #[.int .i64 b2, .int .u64 b3] 24)).cell? ⟨w4.heap.size, 0, none⟩ = some (.int .i64 b2) := new_two.1
  have p21 : (w4.alloc (.cells #[.int .i64 b2, .int .u64 b3] 24)).cell? ⟨w4.heap.size, 1, none⟩ = some (.int .u64 b3) := new_two.2
  clear hc_w1 hc_w2 hc_w3 hc_w4 hf_w1 hf_w2 hf_w3 hf_w4
  go_region_held3 (fun X : World => X.cell? ⟨w.heap.size, 0, none⟩ = some (.int .i64 n) ∧ X.cell? ⟨w.heap.size, 1, none⟩ = some (.int .u64 (m : Nat)) ∧ X.cell? ⟨w3.heap.size, 0, none⟩ = some (.int .i64 b2) ∧ X.cell? ⟨w3.heap.size, 1, none⟩ = some (.int .u64 b3) ∧ X.cell? ⟨w4.heap.size, 0, none⟩ = some (.int .i64 b2) ∧ X.cell? ⟨w4.heap.size, 1, none⟩ = some (.int .u64 b3))
    ((refine ⟨?_, ?_, ?_, ?_, ?_, ?_⟩ <;> first | assumption | (simp [go_sem]; done)))
    ((first
      | (go_at_call 13; refine (jlives_any _).mono ?_; rintro e w6 ⟨rfl, hb_w6⟩; obtain ⟨hc_w6, hf_w6⟩ := bcell hb_w6; have hz_w6_w_0 : w.heap.size < w6.heap.size := (by have hzz := hb_w6.size; (try simp only [World.size_alloc, World.size_setCell, World.size_drew, World.heap_drewN] at hzz); omega); have hz_w6_w3_0 : w3.heap.size < w6.heap.size := (by have hzz := hb_w6.size; (try simp only [World.size_alloc, World.size_setCell, World.size_drew, World.heap_drewN] at hzz); omega); have hz_w6_w4_0 : w4.heap.size < w6.heap.size := (by have hzz := hb_w6.size; (try simp only [World.size_alloc, World.size_setCell, World.size_drew, World.heap_drewN] at hzz); omega); have hs_w6 := hb_w6.size; (try simp only [World.size_alloc, World.size_setCell, World.size_drew, World.heap_drewN] at hs_w6); have p00w6 := (hc_w6 w.heap.size 0 (by first | omega | (simp; omega) | simp)).trans (by assumption : _ = some (.int .i64 n)); have p01w6 := (hc_w6 w.heap.size 1 (by first | omega | (simp; omega) | simp)).trans (by assumption : _ = some (.int .u64 (m : Nat))); have p10w6 := (hc_w6 w3.heap.size 0 (by first | omega | (simp; omega) | simp)).trans (by assumption : _ = some (.int .i64 b2)); have p11w6 := (hc_w6 w3.heap.size 1 (by first | omega | (simp; omega) | simp)).trans (by assumption : _ = some (.int .u64 b3)); have p20w6 := (hc_w6 w4.heap.size 0 (by first | omega | (simp; omega) | simp)).trans (by assumption : _ = some (.int .i64 b2)); have p21w6 := (hc_w6 w4.heap.size 1 (by first | omega | (simp; omega) | simp)).trans (by assumption : _ = some (.int .u64 b3)); clear hc_w6 hf_w6)
      | (go_at_call 14; refine (P3.out _).mono ?_; rintro e w7 ⟨rfl, hb_w7⟩; obtain ⟨hc_w7, hf_w7⟩ := bcell hb_w7; have hz_w7_w_0 : w.heap.size < w7.heap.size := (by have hzz := hb_w7.size; (try simp only [World.size_alloc, World.size_setCell, World.size_drew, World.heap_drewN] at hzz); omega); have hz_w7_w3_0 : w3.heap.size < w7.heap.size := (by have hzz := hb_w7.size; (try simp only [World.size_alloc, World.size_setCell, World.size_drew, World.heap_drewN] at hzz); omega); have hz_w7_w4_0 : w4.heap.size < w7.heap.size := (by have hzz := hb_w7.size; (try simp only [World.size_alloc, World.size_setCell, World.size_drew, World.heap_drewN] at hzz); omega); have hs_w7 := hb_w7.size; (try simp only [World.size_alloc, World.size_setCell, World.size_drew, World.heap_drewN] at hs_w7); have p00w7 := (hc_w7 w.heap.size 0 (by first | omega | (simp; omega) | simp)).trans (by assumption : _ = some (.int .i64 n)); have p01w7 := (hc_w7 w.heap.size 1 (by first | omega | (simp; omega) | simp)).trans (by assumption : _ = some (.int .u64 (m : Nat))); have p10w7 := (hc_w7 w3.heap.size 0 (by first | omega | (simp; omega) | simp)).trans (by assumption : _ = some (.int .i64 b2)); have p11w7 := (hc_w7 w3.heap.size 1 (by first | omega | (simp; omega) | simp)).trans (by assumption : _ = some (.int .u64 b3)); have p20w7 := (hc_w7 w4.heap.size 0 (by first | omega | (simp; omega) | simp)).trans (by assumption : _ = some (.int .i64 b2)); have p21w7 := (hc_w7 w4.heap.size 1 (by first | omega | (simp; omega) | simp)).trans (by assumption : _ = some (.int .u64 b3)); clear hc_w7 hf_w7)
      | (go_at_call 15; refine (Q3.out _).mono ?_; rintro e w8 ⟨rfl, hb_w8⟩; obtain ⟨hc_w8, hf_w8⟩ := bcell hb_w8; have hz_w8_w_0 : w.heap.size < w8.heap.size := (by have hzz := hb_w8.size; (try simp only [World.size_alloc, World.size_setCell, World.size_drew, World.heap_drewN] at hzz); omega); have hz_w8_w3_0 : w3.heap.size < w8.heap.size := (by have hzz := hb_w8.size; (try simp only [World.size_alloc, World.size_setCell, World.size_drew, World.heap_drewN] at hzz); omega); have hz_w8_w4_0 : w4.heap.size < w8.heap.size := (by have hzz := hb_w8.size; (try simp only [World.size_alloc, World.size_setCell, World.size_drew, World.heap_drewN] at hzz); omega); have hs_w8 := hb_w8.size; (try simp only [World.size_alloc, World.size_setCell, World.size_drew, World.heap_drewN] at hs_w8); have p00w8 := (hc_w8 w.heap.size 0 (by first | omega | (simp; omega) | simp)).trans (by assumption : _ = some (.int .i64 n)); have p01w8 := (hc_w8 w.heap.size 1 (by first | omega | (simp; omega) | simp)).trans (by assumption : _ = some (.int .u64 (m : Nat))); have p10w8 := (hc_w8 w3.heap.size 0 (by first | omega | (simp; omega) | simp)).trans (by assumption : _ = some (.int .i64 b2)); have p11w8 := (hc_w8 w3.heap.size 1 (by first | omega | (simp; omega) | simp)).trans (by assumption : _ = some (.int .u64 b3)); have p20w8 := (hc_w8 w4.heap.size 0 (by first | omega | (simp; omega) | simp)).trans (by assumption : _ = some (.int .i64 b2)); have p21w8 := (hc_w8 w4.heap.size 1 (by first | omega | (simp; omega) | simp)).trans (by assumption : _ = some (.int .u64 b3)); clear hc_w8 hf_w8)))
  all_goals
    go_wp2
    go_ret
    exact ⟨rfl, (by repeat (first | exact Below.refl _ _ | assumption | (refine below_drewN ?_ _) | (refine Below.drew ?_) | (refine Below.alloc ?_ (by first | omega | (simp; omega) | simp) _) | (refine Below.setCell ?_ (by first | omega | (simp; omega) | simp) _) | (refine below_trans ?_ (by assumption) (by first | omega | (simp; omega) | simp))))⟩
end Go.Proofs.Ytkfmhghjgdeekaa
