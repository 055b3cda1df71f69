/- The questions about queues whose answers the document gives (lives). -/
import Derived.Test.YtlaladhnidcoiaaG14
namespace Go.Proofs.Ytlaladhnidcoiaa
open Go.RowKit
set_option linter.unusedVariables false
set_option linter.unusedSimpArgs false

theorem ok1 : OkG [[], []] := ⟨by decide, by decide, by decide, by decide, by decide⟩
theorem ok2 : OkG [[16, 18], []] := ⟨by decide, by decide, by decide, by decide, by decide⟩
theorem ok3 : OkG [[18], []] := ⟨by decide, by decide, by decide, by decide, by decide⟩
theorem push1 : PushE [[], []] 0 [16, 18] [[16, 18], []] 0 := .inr (.inr (.inr ⟨ok1, ⟨by decide, by decide⟩, by decide, rfl, rfl⟩))
theorem push2 : PushE [[16, 18], []] 1 [16] [[16, 18], []] 4 := .inr (.inr (.inl ⟨ok2, ⟨by decide, by decide⟩, by decide, by decide, rfl⟩))
theorem push3 : PushE [[16, 18], []] 2 [] [[16, 18], []] 11 := .inr (.inl ⟨ok2, fun h => absurd h.2 (by decide), rfl, rfl⟩)
theorem pop1 : PopE [[16, 18], []] 1 [[18], []] 16 true 0 := .inr (.inr (.inr (.inr ⟨ok2, ⟨by decide, by decide⟩, by decide, by decide, by decide, by decide, rfl, rfl⟩)))
theorem pop2 : PopE [[18], []] 0 [[], []] 18 false 0 := .inr (.inr (.inl ⟨ok3, ⟨by decide, by decide⟩, by decide, by decide, by decide, rfl, rfl⟩))
theorem pop3 : PopE [[], []] 0 [[], []] 0 false 3 := .inr (.inr (.inr (.inl ⟨ok1, ⟨by decide, by decide⟩, by decide, by decide, rfl, rfl, rfl, rfl⟩)))
theorem many1 : ManE [[16, 18], []] 2 0 := .inr ⟨ok2, by decide, rfl⟩
theorem row_two (W : World) (g : Nat) (hg : W.heap.size = g) : Row (W.alloc (.cells #[.int .u64 16, .int .u64 18] 30)) (W.alloc (.cells #[.int .u64 16, .int .u64 18] 30)).heap.size (some ⟨g, 0, none⟩) [16, 18] := by
  subst hg
  refine ⟨fun y hy => ?_, fun _ => ⟨W.heap.size, 0, rfl, by simp, fun i hi => ?_⟩⟩
  · simp at hy; unfold W64; omega
  · have : i = 0 ∨ i = 1 := by simp at hi; omega
    rcases this with rfl | rfl <;> simp [go_sem]
theorem row_lit (W : World) (a : Nat) (ha : a < W64) (g : Nat) (hg : W.heap.size = g) : Row (W.alloc (.cells #[.int .u64 (a : Nat)] 30)) (W.alloc (.cells #[.int .u64 (a : Nat)] 30)).heap.size (some ⟨g, 0, none⟩) [a] := by
  subst hg
  refine ⟨fun y hy => ?_, fun _ => ⟨W.heap.size, 0, rfl, by simp, fun i hi => ?_⟩⟩
  · simp at hy; subst hy; exact ha
  · have : i = 0 := by simp at hi; omega
    subst this
    simp [go_sem]
set_option maxHeartbeats 4000000 in
set_option maxRecDepth 100000 in
theorem glives_any (w : World) : Calls Try.prog 14 #[] w fun e w' => e = .returned (.bool true) ∧ Below w.heap.size w w' := by
  have H1 : Hid (∀ W : World, Calls Try.prog 18 #[.int .i64 2] W fun e W' => ∃ (B : Option Addr), e = .returned (.tuple #[.agg #[.slice B 2 2], .int .i64 0]) ∧ GOwn W' W.heap.size B [[], []] ∧ Below W.heap.size W W') := Lib.hid fun W =>
    (gmake_any (w := W) 2).mono (fun e W' ⟨h, hb⟩ => by
      rcases h with ⟨h, _⟩ | ⟨_, _, B, n, hn, he, ho⟩
      · exact absurd (by decide) h
      · obtain rfl : n = 2 := by omega
        exact ⟨B, he, ho, hb⟩)
  have H2 : Hid (∀ (W : World) (A K : Option Addr) (cap : Nat), GRow W A [[], []] → Row W W.heap.size K [16, 18] → Calls Try.prog 10 #[.agg #[.slice A 2 cap], .int .i64 0, .slice K 2 2] W fun e W' => ∃ (B : Option Addr) (cb : Nat), e = .returned (.tuple #[.agg #[.slice B 2 cb], .int .i64 0]) ∧ GOwn W' W.heap.size B [[16, 18], []] ∧ Below W.heap.size W W') := Lib.hid fun W A K cap hr hk =>
    gpush_any (w := W) (A := A) (U := K) (qs := [[], []]) (us := [16, 18]) cap 2 hr 0 (by decide) hk (by decide) _ _ push1
  have H3 : Hid (∀ (W : World) (A : Option Addr) (cap : Nat), GRow W A [[16, 18], []] → Calls Try.prog 12 #[.agg #[.slice A 2 cap], .int .i64 1] W fun e W' => ∃ (B : Option Addr) (cb : Nat), e = .returned (.tuple #[.agg #[.slice B 2 cb], .int .u64 16, .bool true, .int .i64 0]) ∧ GOwn W' W.heap.size B [[18], []] ∧ Below W.heap.size W W') := Lib.hid fun W A cap hr =>
    gpop_any (w := W) (A := A) (qs := [[16, 18], []]) cap hr 1 (by decide) _ _ _ _ pop1
  have H4 : Hid (∀ (W : World) (A : Option Addr) (cap : Nat), GRow W A [[18], []] → Calls Try.prog 12 #[.agg #[.slice A 2 cap], .int .i64 0] W fun e W' => ∃ (B : Option Addr) (cb : Nat), e = .returned (.tuple #[.agg #[.slice B 2 cb], .int .u64 18, .bool false, .int .i64 0]) ∧ GOwn W' W.heap.size B [[], []] ∧ Below W.heap.size W W') := Lib.hid fun W A cap hr =>
    gpop_any (w := W) (A := A) (qs := [[18], []]) cap hr 0 (by decide) _ _ _ _ pop2
  have H5 : Hid (∀ (W : World) (A : Option Addr) (cap : Nat), GRow W A [[], []] → Calls Try.prog 12 #[.agg #[.slice A 2 cap], .int .i64 0] W fun e W' => ∃ (B : Option Addr) (cb : Nat), e = .returned (.tuple #[.agg #[.slice B 2 cb], .int .u64 0, .bool false, .int .i64 3]) ∧ GOwn W' W.heap.size B [[], []] ∧ Below W.heap.size W W') := Lib.hid fun W A cap hr =>
    gpop_any (w := W) (A := A) (qs := [[], []]) cap hr 0 (by decide) _ _ _ _ pop3
  have H6 : Hid (∀ (W : World) (A : Option Addr) (cap : Nat), GRow W A [[16, 18], []] → Calls Try.prog 16 #[.agg #[.slice A 2 cap]] W fun e W' => e = .returned (.tuple #[.int .i64 2, .int .i64 0]) ∧ Below W.heap.size W W') := Lib.hid fun W A cap hr =>
    gmany_any (w := W) (A := A) (qs := [[16, 18], []]) cap hr _ _ many1
  have H7 : Hid (∀ (W : World) (A K : Option Addr) (cap : Nat), GRow W A [[16, 18], []] → Row W W.heap.size K [16] → Calls Try.prog 10 #[.agg #[.slice A 2 cap], .int .i64 1, .slice K 1 1] W fun e W' => ∃ (B : Option Addr) (cb : Nat), e = .returned (.tuple #[.agg #[.slice B 2 cb], .int .i64 4]) ∧ GOwn W' W.heap.size B [[16, 18], []] ∧ Below W.heap.size W W') := Lib.hid fun W A K cap hr hk =>
    gpush_any (w := W) (A := A) (U := K) (qs := [[16, 18], []]) (us := [16]) cap 1 hr 1 (by decide) hk (by decide) _ _ push2
  have H8 : Hid (∀ (W : World) (A : Option Addr) (cap : Nat), GRow W A [[16, 18], []] → Calls Try.prog 10 #[.agg #[.slice A 2 cap], .int .i64 2, .slice none 0 0] W fun e W' => ∃ (B : Option Addr) (cb : Nat), e = .returned (.tuple #[.agg #[.slice B 2 cb], .int .i64 11]) ∧ GOwn W' W.heap.size B [[16, 18], []] ∧ Below W.heap.size W W') := Lib.hid fun W A cap hr =>
    gpush_any (w := W) (A := A) (U := none) (qs := [[16, 18], []]) (us := []) cap 0 hr 2 (by decide) ⟨fun x hx => by simp at hx, fun h => by simp at h⟩ (by decide) _ _ push3
  have H9 : Hid (∀ (W : World) (A : Option Addr) (cap : Nat), GRow W A [[16, 18], []] → Calls Try.prog 20 #[.agg #[.slice A 2 cap]] W fun e W' => e = .returned (.int .i64 0) ∧ Below W.heap.size W W') := Lib.hid fun W A cap hr =>
    gcheck_any (w := W) (A := A) (qs := [[16, 18], []]) cap hr 0 (.inl ⟨ok2, rfl⟩)
  have HN := Lib.hid fun (W : World) (g : Nat) hg => row_two W g hg
  have HN1 := Lib.hid fun (W : World) (g : Nat) hg => row_lit W 16 (by decide) g hg
  go_enter Try.func14, Try.ntmps14
  go_wp2_with fail
  go_at_call 18
  refine (H1.out _).mono ?_
  rintro e w1 ⟨B1, rfl, o1, hb_w1⟩
  obtain ⟨hc_w1, hf_w1⟩ := bcell hb_w1; have hs_w1 := hb_w1.size; (try simp only [World.size_alloc, World.size_setCell, World.size_drew, World.heap_drewN] at hs_w1)
  have b1 : Below w.heap.size w w1 := (by repeat (first | exact Below.refl _ _ | assumption | (refine below_drewN ?_ _) | (refine Below.drew ?_) | (refine Below.alloc ?_ (by first | omega | (simp; omega) | simp) _) | (refine Below.setCell ?_ (by first | omega | (simp; omega) | simp) _) | (refine below_trans ?_ (by assumption) (by first | omega | (simp; omega) | simp))))
  have r1 := ((o1.row.later ((Below.refl _ _).alloc (Nat.le_refl _) (.cells #[.slice B1 2 2] 24))).later ((Below.refl _ _).alloc (Nat.le_refl _) (.cells #[.int .u64 16, .int .u64 18] 30)))
  clear hc_w1 hf_w1
  go_wp2_with fail
  go_at_call 10
  refine (H2.out _ _ _ _ (by exact r1) (by exact HN.out _ _ (by simp))).mono ?_
  rintro e w2 ⟨B2, c2, rfl, o2, hb_w2⟩
  obtain ⟨hc_w2, hf_w2⟩ := bcell hb_w2; have hz_w2_w1_0 : w1.heap.size < w2.heap.size := (by have hzz := hb_w2.size; (try simp only [World.size_alloc, World.size_setCell, World.size_drew, World.heap_drewN] at hzz); omega); have hs_w2 := hb_w2.size; (try simp only [World.size_alloc, World.size_setCell, World.size_drew, World.heap_drewN] at hs_w2)
  have b2 : Below w.heap.size w w2 := (by repeat (first | exact Below.refl _ _ | assumption | (refine below_drewN ?_ _) | (refine Below.drew ?_) | (refine Below.alloc ?_ (by first | omega | (simp; omega) | simp) _) | (refine Below.setCell ?_ (by first | omega | (simp; omega) | simp) _) | (refine below_trans ?_ (by assumption) (by first | omega | (simp; omega) | simp))))
  have P2 := (((Bx.new w1 _ _).alloc _).later hb_w2 : Bx w2 _ _)
  obtain ⟨p20, p21⟩ := id P2
  have P2' := P2.set (.slice B2 2 c2)
  have o2' := (o2.far (p := ⟨w1.heap.size, 0, none⟩) (by show w1.heap.size < _; first | omega | (simp; omega) | simp) (.slice B2 2 c2)).row
  clear hc_w2 hf_w2 P2 o2 r1 o1
  go_wp2_with fail
  go_at_call 12
  refine (H3.out _ _ _ (by exact o2')).mono ?_
  rintro e w3 ⟨B3, c3, rfl, o3, hb_w3⟩
  obtain ⟨hc_w3, hf_w3⟩ := bcell hb_w3; have hz_w3_w1_0 : w1.heap.size < w3.heap.size := (by have hzz := hb_w3.size; (try simp only [World.size_alloc, World.size_setCell, World.size_drew, World.heap_drewN] at hzz); omega); have hs_w3 := hb_w3.size; (try simp only [World.size_alloc, World.size_setCell, World.size_drew, World.heap_drewN] at hs_w3)
  have b3 : Below w.heap.size w w3 := (by repeat (first | exact Below.refl _ _ | assumption | (refine below_drewN ?_ _) | (refine Below.drew ?_) | (refine Below.alloc ?_ (by first | omega | (simp; omega) | simp) _) | (refine Below.setCell ?_ (by first | omega | (simp; omega) | simp) _) | (refine below_trans ?_ (by assumption) (by first | omega | (simp; omega) | simp))))
  have P3 := (P2'.later hb_w3 : Bx w3 _ _)
  have g3 := o2'.later hb_w3
  obtain ⟨p30, p31⟩ := id P3
  have hl3 := P3.lt
  clear hc_w3 hf_w3 P2' o2' p20 p21
  go_wp2_with fail
  go_at_call 12
  refine (H4.out _ _ _ (o3.row.later (by repeat (first | exact Below.refl _ _ | assumption | (refine below_drewN ?_ _) | (refine Below.drew ?_) | (refine Below.alloc ?_ (by first | omega | (simp; omega) | simp) _) | (refine Below.setCell ?_ (by first | omega | (simp; omega) | simp) _) | (refine below_trans ?_ (by assumption) (by first | omega | (simp; omega) | simp)))))).mono ?_
  rintro e w4 ⟨B4, c4, rfl, o4, hb_w4⟩
  obtain ⟨hc_w4, hf_w4⟩ := bcell hb_w4; have hz_w4_w1_0 : w1.heap.size < w4.heap.size := (by have hzz := hb_w4.size; (try simp only [World.size_alloc, World.size_setCell, World.size_drew, World.heap_drewN] at hzz); omega); have hs_w4 := hb_w4.size; (try simp only [World.size_alloc, World.size_setCell, World.size_drew, World.heap_drewN] at hs_w4)
  have b4 : Below w.heap.size w w4 := (by repeat (first | exact Below.refl _ _ | assumption | (refine below_drewN ?_ _) | (refine Below.drew ?_) | (refine Below.alloc ?_ (by first | omega | (simp; omega) | simp) _) | (refine Below.setCell ?_ (by first | omega | (simp; omega) | simp) _) | (refine below_trans ?_ (by assumption) (by first | omega | (simp; omega) | simp))))
  have P4 := ((P3.alloc _).later hb_w4 : Bx w4 _ _)
  have R4 := ((Bx.new w3 _ _).later hb_w4 : Bx w4 _ _)
  obtain ⟨p40, p41⟩ := id P4
  obtain ⟨r40, r41⟩ := id R4
  have hw13 : w1.heap.size < w3.heap.size := hl3
  have n1 : ¬ (w3.heap.size = w1.heap.size) := by omega
  have n2 : ¬ (w1.heap.size = w3.heap.size) := by omega
  have R4' := R4.set (.slice B4 2 c4)
  have P4' := P4.far (p := ⟨w3.heap.size, 0, none⟩) (by show w3.heap.size ≠ _; omega) (.slice B4 2 c4)
  have o4' := (o4.far (p := ⟨w3.heap.size, 0, none⟩) (by show w3.heap.size < _; first | omega | (simp; omega) | simp) (.slice B4 2 c4)).row
  have k4 : Below w.heap.size w (w4.setCell ⟨w3.heap.size, 0, none⟩ (.slice B4 2 c4)) := (by repeat (first | exact Below.refl _ _ | assumption | (refine below_drewN ?_ _) | (refine Below.drew ?_) | (refine Below.alloc ?_ (by first | omega | (simp; omega) | simp) _) | (refine Below.setCell ?_ (by first | omega | (simp; omega) | simp) _) | (refine below_trans ?_ (by assumption) (by first | omega | (simp; omega) | simp))))
  have kk4 : Below w3.heap.size w3 w4 := ((Below.refl _ _).alloc (Nat.le_refl _) _).trans (hb_w4.mono (by simp))
  have g4 := g3.later (kk4.setCell (p := ⟨w3.heap.size, 0, none⟩) (Nat.le_refl _) (.slice B4 2 c4))
  clear hc_w4 hf_w4 o4 o3 P4 R4 P3 g3 p30 p31
  go_wp2_with fail
  go_at_call 12
  refine (H5.out _ _ _ (by exact o4')).mono ?_
  rintro e w5 ⟨B5, c5, rfl, o5, hb_w5⟩
  obtain ⟨hc_w5, hf_w5⟩ := bcell hb_w5; have hz_w5_w1_0 : w1.heap.size < w5.heap.size := (by have hzz := hb_w5.size; (try simp only [World.size_alloc, World.size_setCell, World.size_drew, World.heap_drewN] at hzz); omega); have hs_w5 := hb_w5.size; (try simp only [World.size_alloc, World.size_setCell, World.size_drew, World.heap_drewN] at hs_w5)
  have b5 : Below w.heap.size w w5 := k4.trans (hb_w5.mono (by rw [World.size_setCell]; omega))
  have P5 := (P4'.later hb_w5 : Bx w5 _ _)
  have g5 := g4.later hb_w5
  have hl5 := P5.lt
  obtain ⟨p50, p51⟩ := id P5
  clear hc_w5 hf_w5 o5 o4' P4' R4' g4 p40 p41 r40 r41
  go_wp2_with fail
  go_at_call 16
  refine (H6.out _ _ _ (g5.later (by repeat (first | exact Below.refl _ _ | assumption | (refine below_drewN ?_ _) | (refine Below.drew ?_) | (refine Below.alloc ?_ (by first | omega | (simp; omega) | simp) _) | (refine Below.setCell ?_ (by first | omega | (simp; omega) | simp) _) | (refine below_trans ?_ (by assumption) (by first | omega | (simp; omega) | simp)))))).mono ?_
  rintro e w6 ⟨rfl, hb_w6⟩
  obtain ⟨hc_w6, hf_w6⟩ := bcell hb_w6; have hz_w6_w1_0 : w1.heap.size < w6.heap.size := (by have hzz := hb_w6.size; (try simp only [World.size_alloc, World.size_setCell, World.size_drew, World.heap_drewN] at hzz); omega); have hs_w6 := hb_w6.size; (try simp only [World.size_alloc, World.size_setCell, World.size_drew, World.heap_drewN] at hs_w6)
  have b6 : Below w.heap.size w w6 := (by repeat (first | exact Below.refl _ _ | assumption | (refine below_drewN ?_ _) | (refine Below.drew ?_) | (refine Below.alloc ?_ (by first | omega | (simp; omega) | simp) _) | (refine Below.setCell ?_ (by first | omega | (simp; omega) | simp) _) | (refine below_trans ?_ (by assumption) (by first | omega | (simp; omega) | simp))))
  have P6 := ((P5.alloc _).later hb_w6 : Bx w6 _ _)
  have g6 := (g5.later ((Below.refl _ _).alloc (Nat.le_refl _) _)).later hb_w6
  have hl6 := P6.lt
  obtain ⟨p60, p61⟩ := id P6
  clear hc_w6 hf_w6 P5 g5 p50 p51
  go_wp2_with fail
  go_at_call 10
  refine (H7.out _ _ _ _ (g6.later (by repeat (first | exact Below.refl _ _ | assumption | (refine below_drewN ?_ _) | (refine Below.drew ?_) | (refine Below.alloc ?_ (by first | omega | (simp; omega) | simp) _) | (refine Below.setCell ?_ (by first | omega | (simp; omega) | simp) _) | (refine below_trans ?_ (by assumption) (by first | omega | (simp; omega) | simp))))) (by exact HN1.out _ _ rfl)).mono ?_
  rintro e w7 ⟨B7, c7, rfl, o7, hb_w7⟩
  obtain ⟨hc_w7, hf_w7⟩ := bcell hb_w7; have hz_w7_w1_0 : w1.heap.size < w7.heap.size := (by have hzz := hb_w7.size; (try simp only [World.size_alloc, World.size_setCell, World.size_drew, World.heap_drewN] at hzz); omega); have hs_w7 := hb_w7.size; (try simp only [World.size_alloc, World.size_setCell, World.size_drew, World.heap_drewN] at hs_w7)
  have b7 : Below w.heap.size w w7 := (by repeat (first | exact Below.refl _ _ | assumption | (refine below_drewN ?_ _) | (refine Below.drew ?_) | (refine Below.alloc ?_ (by first | omega | (simp; omega) | simp) _) | (refine Below.setCell ?_ (by first | omega | (simp; omega) | simp) _) | (refine below_trans ?_ (by assumption) (by first | omega | (simp; omega) | simp))))
  have P7 := ((P6.alloc _).later hb_w7 : Bx w7 _ _)
  have g7 := (g6.later ((Below.refl _ _).alloc (Nat.le_refl _) _)).later hb_w7
  have hl7 := P7.lt
  obtain ⟨p70, p71⟩ := id P7
  clear hc_w7 hf_w7 P6 g6 p60 p61
  go_wp2_with fail
  go_at_call 10
  refine (H8.out _ _ _ (g7.later (by repeat (first | exact Below.refl _ _ | assumption | (refine below_drewN ?_ _) | (refine Below.drew ?_) | (refine Below.alloc ?_ (by first | omega | (simp; omega) | simp) _) | (refine Below.setCell ?_ (by first | omega | (simp; omega) | simp) _) | (refine below_trans ?_ (by assumption) (by first | omega | (simp; omega) | simp)))))).mono ?_
  rintro e w8 ⟨B8, c8, rfl, o8, hb_w8⟩
  obtain ⟨hc_w8, hf_w8⟩ := bcell hb_w8; have hz_w8_w1_0 : w1.heap.size < w8.heap.size := (by have hzz := hb_w8.size; (try simp only [World.size_alloc, World.size_setCell, World.size_drew, World.heap_drewN] at hzz); omega); have hs_w8 := hb_w8.size; (try simp only [World.size_alloc, World.size_setCell, World.size_drew, World.heap_drewN] at hs_w8)
  have b8 : Below w.heap.size w w8 := (by repeat (first | exact Below.refl _ _ | assumption | (refine below_drewN ?_ _) | (refine Below.drew ?_) | (refine Below.alloc ?_ (by first | omega | (simp; omega) | simp) _) | (refine Below.setCell ?_ (by first | omega | (simp; omega) | simp) _) | (refine below_trans ?_ (by assumption) (by first | omega | (simp; omega) | simp))))
  have P8 := ((P7.alloc _).later hb_w8 : Bx w8 _ _)
  have g8 := (g7.later ((Below.refl _ _).alloc (Nat.le_refl _) _)).later hb_w8
  have hl8 := P8.lt
  obtain ⟨p80, p81⟩ := id P8
  clear hc_w8 hf_w8 P7 g7 p70 p71
  go_wp2_with fail
  go_at_call 20
  refine (H9.out _ _ _ (g8.later (by repeat (first | exact Below.refl _ _ | assumption | (refine below_drewN ?_ _) | (refine Below.drew ?_) | (refine Below.alloc ?_ (by first | omega | (simp; omega) | simp) _) | (refine Below.setCell ?_ (by first | omega | (simp; omega) | simp) _) | (refine below_trans ?_ (by assumption) (by first | omega | (simp; omega) | simp)))))).mono ?_
  rintro e w9 ⟨rfl, hb_w9⟩
  obtain ⟨hc_w9, hf_w9⟩ := bcell hb_w9; have hz_w9_w1_0 : w1.heap.size < w9.heap.size := (by have hzz := hb_w9.size; (try simp only [World.size_alloc, World.size_setCell, World.size_drew, World.heap_drewN] at hzz); omega); have hs_w9 := hb_w9.size; (try simp only [World.size_alloc, World.size_setCell, World.size_drew, World.heap_drewN] at hs_w9)
  have b9 : Below w.heap.size w w9 := (by repeat (first | exact Below.refl _ _ | assumption | (refine below_drewN ?_ _) | (refine Below.drew ?_) | (refine Below.alloc ?_ (by first | omega | (simp; omega) | simp) _) | (refine Below.setCell ?_ (by first | omega | (simp; omega) | simp) _) | (refine below_trans ?_ (by assumption) (by first | omega | (simp; omega) | simp))))
  clear hc_w9 hf_w9
  go_wp2
  go_ret
  exact ⟨rfl, b9⟩
end Go.Proofs.Ytlaladhnidcoiaa
