/- Contracts of package pace: views that are refused, Check, Goal, Due. -/
import Derived.Test.YtkdbcoibapcmjaaN5
namespace Go.Proofs.Ytkdbcoibapcmjaa
open Go.RowKit
set_option linter.unusedVariables false
set_option linter.unusedSimpArgs false
set_option maxRecDepth 100000

section
variable {w : World} {p : Pc} {A : Option Addr} (c : Nat)
set_option maxHeartbeats 1000000 in
theorem pview_bad (hf : FitP p) (hr : Row w w.heap.size A p.ds) (hl : p.ds.length ≤ 17592186044416) (hk : ¬ OkP p) :
    Calls Try.prog 28 #[(.agg #[.int .i64 p.pct, .int .u64 (p.least : Nat), .int .u64 (p.live : Nat), .bool p.on, .int .u64 (p.est : Nat), .int .u64 (p.room : Nat), .int .u64 (p.credit : Nat), .int .u64 (p.done : Nat), .int .u64 (p.made : Nat), .slice A p.ds.length c])] w fun e w' => e = .returned (.tuple #[.agg #[.int .i64 0, .int .u64 0, .int .u64 0, .bool false, .int .u64 0, .int .u64 0, .int .u64 0, .int .u64 0, .int .u64 0, .slice none 0 0], .int .i64 2]) ∧ Below w.heap.size w w' := by
  by_cases h1 : LimP p
  · have h2 : ¬ PhaP p := fun h => hk ((okP_iff p).2 ⟨h1, h⟩)
    have HL := Lib.hid fun (w : World) hr => plimited_any (w := w) (p := p) (A := A) c hf hr hl true ⟨fun _ => h1, fun _ => rfl⟩
    have HP := Lib.hid fun (w : World) hr => pphased_any (w := w) (p := p) (A := A) c hf hr hl false ⟨fun e => (by cases e), fun h => absurd h h2⟩
    clear hk hf h1 h2
    obtain ⟨pct, least, live, on, est, room, credit, done, made, ds⟩ := p
    simp only at *
    go_enter Try.func28, Try.ntmps28
    go_wp2_with fail
    go_at_call 42
    refine (HL.out _ (hr.later (by repeat (first | exact Below.refl _ _ | assumption | (refine below_drewN ?_ _) | (refine Below.drew ?_) | (refine Below.alloc ?_ (by first | omega | (simp; omega) | simp) _) | (refine Below.setCell ?_ (by first | omega | (simp; omega) | simp) _) | (refine below_trans ?_ (by assumption) (by first | omega | (simp; omega) | simp)))))).mono ?_
    rintro e w1 ⟨rfl, hb_w1⟩
    obtain ⟨hc_w1, hf_w1⟩ := bcell hb_w1; have hz_w1_w_0 : w.heap.size < w1.heap.size := (by have hzz := hb_w1.size; (try simp only [World.size_alloc, World.size_setCell, World.size_drew, World.heap_drewN] at hzz); omega); have hz_w1_w_1 : w.heap.size + 1 < w1.heap.size := (by have hzz := hb_w1.size; (try simp only [World.size_alloc, World.size_setCell, World.size_drew, World.heap_drewN] at hzz); omega); have hz_w1_w_2 : w.heap.size + 2 < w1.heap.size := (by have hzz := hb_w1.size; (try simp only [World.size_alloc, World.size_setCell, World.size_drew, World.heap_drewN] at hzz); omega); have hs_w1 := hb_w1.size; (try simp only [World.size_alloc, World.size_setCell, World.size_drew, World.heap_drewN] at hs_w1)
    have b1 : Below w.heap.size w w1 := (by repeat (first | exact Below.refl _ _ | assumption | (refine below_drewN ?_ _) | (refine Below.drew ?_) | (refine Below.alloc ?_ (by first | omega | (simp; omega) | simp) _) | (refine Below.setCell ?_ (by first | omega | (simp; omega) | simp) _) | (refine below_trans ?_ (by assumption) (by first | omega | (simp; omega) | simp))))
    have t0 := ((Ten.new (w.alloc (.cells #[.int .i64 pct, .int .u64 (least : Nat), .int .u64 (live : Nat), .bool on, .int .u64 (est : Nat), .int .u64 (room : Nat), .int .u64 (credit : Nat), .int .u64 (done : Nat), .int .u64 (made : Nat), .slice A ds.length c] 25)) (.int .i64 0) (.int .u64 0) (.int .u64 0) (.bool false) (.int .u64 0) (.int .u64 0) (.int .u64 0) (.int .u64 0) (.int .u64 0) (.slice none 0 0) 51).later ((Below.refl _ _).alloc (Nat.le_refl _) (.cells #[.int .i64 pct, .int .u64 (least : Nat), .int .u64 (live : Nat), .bool on, .int .u64 (est : Nat), .int .u64 (room : Nat), .int .u64 (credit : Nat), .int .u64 (done : Nat), .int .u64 (made : Nat), .slice A ds.length c] 51))).later hb_w1
    have t1 := (Ten.new ((w.alloc (.cells #[.int .i64 pct, .int .u64 (least : Nat), .int .u64 (live : Nat), .bool on, .int .u64 (est : Nat), .int .u64 (room : Nat), .int .u64 (credit : Nat), .int .u64 (done : Nat), .int .u64 (made : Nat), .slice A ds.length c] 25)).alloc (.cells #[.int .i64 0, .int .u64 0, .int .u64 0, .bool false, .int .u64 0, .int .u64 0, .int .u64 0, .int .u64 0, .int .u64 0, .slice none 0 0] 51)) (.int .i64 pct) (.int .u64 (least : Nat)) (.int .u64 (live : Nat)) (.bool on) (.int .u64 (est : Nat)) (.int .u64 (room : Nat)) (.int .u64 (credit : Nat)) (.int .u64 (done : Nat)) (.int .u64 (made : Nat)) (.slice A ds.length c) 51).later hb_w1
    simp only [World.size_alloc] at t0 t1
    clear hc_w1 hf_w1
    obtain ⟨x0, x1, x2, x3, x4, x5, x6, x7, x8, x9, xf⟩ := id t1
    go_wp2_with fail
    go_at_call 43
    refine (HP.out _ (hr.later b1)).mono ?_
    rintro e w2 ⟨rfl, hb_w2⟩
    obtain ⟨hc_w2, hf_w2⟩ := bcell hb_w2; have hz_w2_w_0 : w.heap.size < w2.heap.size := (by have hzz := hb_w2.size; (try simp only [World.size_alloc, World.size_setCell, World.size_drew, World.heap_drewN] at hzz); omega); have hz_w2_w_1 : w.heap.size + 1 < w2.heap.size := (by have hzz := hb_w2.size; (try simp only [World.size_alloc, World.size_setCell, World.size_drew, World.heap_drewN] at hzz); omega); have hz_w2_w_2 : w.heap.size + 2 < w2.heap.size := (by have hzz := hb_w2.size; (try simp only [World.size_alloc, World.size_setCell, World.size_drew, World.heap_drewN] at hzz); omega); have hs_w2 := hb_w2.size; (try simp only [World.size_alloc, World.size_setCell, World.size_drew, World.heap_drewN] at hs_w2)
    have b2 : Below w.heap.size w w2 := (by repeat (first | exact Below.refl _ _ | assumption | (refine below_drewN ?_ _) | (refine Below.drew ?_) | (refine Below.alloc ?_ (by first | omega | (simp; omega) | simp) _) | (refine Below.setCell ?_ (by first | omega | (simp; omega) | simp) _) | (refine below_trans ?_ (by assumption) (by first | omega | (simp; omega) | simp))))
    have t0 := t0.later hb_w2
    clear hc_w2 hf_w2 x0 x1 x2 x3 x4 x5 x6 x7 x8 x9 xf
    obtain ⟨y0, y1, y2, y3, y4, y5, y6, y7, y8, y9, yf⟩ := id t0
    go_wp2
    exact bodyPost_ret (res_pw2 rfl rfl (t0.all _ _ _ _ _ _ _ _ _ _)) rfl ⟨rfl, below_ten b2 (by first | omega | (simp; omega) | simp) _ _ _ _ _ _ _ _ _ _⟩
  · have HL := Lib.hid fun (w : World) hr => plimited_any (w := w) (p := p) (A := A) c hf hr hl false ⟨fun e => (by cases e), fun h => absurd h h1⟩
    clear hk hf h1
    obtain ⟨pct, least, live, on, est, room, credit, done, made, ds⟩ := p
    simp only at *
    go_enter Try.func28, Try.ntmps28
    go_wp2_with fail
    go_at_call 42
    refine (HL.out _ (hr.later (by repeat (first | exact Below.refl _ _ | assumption | (refine below_drewN ?_ _) | (refine Below.drew ?_) | (refine Below.alloc ?_ (by first | omega | (simp; omega) | simp) _) | (refine Below.setCell ?_ (by first | omega | (simp; omega) | simp) _) | (refine below_trans ?_ (by assumption) (by first | omega | (simp; omega) | simp)))))).mono ?_
    rintro e w1 ⟨rfl, hb_w1⟩
    obtain ⟨hc_w1, hf_w1⟩ := bcell hb_w1; have hz_w1_w_0 : w.heap.size < w1.heap.size := (by have hzz := hb_w1.size; (try simp only [World.size_alloc, World.size_setCell, World.size_drew, World.heap_drewN] at hzz); omega); have hz_w1_w_1 : w.heap.size + 1 < w1.heap.size := (by have hzz := hb_w1.size; (try simp only [World.size_alloc, World.size_setCell, World.size_drew, World.heap_drewN] at hzz); omega); have hz_w1_w_2 : w.heap.size + 2 < w1.heap.size := (by have hzz := hb_w1.size; (try simp only [World.size_alloc, World.size_setCell, World.size_drew, World.heap_drewN] at hzz); omega); have hs_w1 := hb_w1.size; (try simp only [World.size_alloc, World.size_setCell, World.size_drew, World.heap_drewN] at hs_w1)
    have b1 : Below w.heap.size w w1 := (by repeat (first | exact Below.refl _ _ | assumption | (refine below_drewN ?_ _) | (refine Below.drew ?_) | (refine Below.alloc ?_ (by first | omega | (simp; omega) | simp) _) | (refine Below.setCell ?_ (by first | omega | (simp; omega) | simp) _) | (refine below_trans ?_ (by assumption) (by first | omega | (simp; omega) | simp))))
    have t0 := ((Ten.new (w.alloc (.cells #[.int .i64 pct, .int .u64 (least : Nat), .int .u64 (live : Nat), .bool on, .int .u64 (est : Nat), .int .u64 (room : Nat), .int .u64 (credit : Nat), .int .u64 (done : Nat), .int .u64 (made : Nat), .slice A ds.length c] 25)) (.int .i64 0) (.int .u64 0) (.int .u64 0) (.bool false) (.int .u64 0) (.int .u64 0) (.int .u64 0) (.int .u64 0) (.int .u64 0) (.slice none 0 0) 51).later ((Below.refl _ _).alloc (Nat.le_refl _) (.cells #[.int .i64 pct, .int .u64 (least : Nat), .int .u64 (live : Nat), .bool on, .int .u64 (est : Nat), .int .u64 (room : Nat), .int .u64 (credit : Nat), .int .u64 (done : Nat), .int .u64 (made : Nat), .slice A ds.length c] 51))).later hb_w1
    simp only [World.size_alloc] at t0
    clear hc_w1 hf_w1
    obtain ⟨y0, y1, y2, y3, y4, y5, y6, y7, y8, y9, yf⟩ := id t0
    go_wp2
    exact bodyPost_ret (res_pw2 rfl rfl (t0.all _ _ _ _ _ _ _ _ _ _)) rfl ⟨rfl, below_ten b1 (by first | omega | (simp; omega) | simp) _ _ _ _ _ _ _ _ _ _⟩
theorem pcheck_anyP (hf : FitP p) (hr : Row w w.heap.size A p.ds) (hl : p.ds.length ≤ 17592186044416) (y : Int) (hy : ChkP p y) :
    Calls Try.prog 17 #[(.agg #[.int .i64 p.pct, .int .u64 (p.least : Nat), .int .u64 (p.live : Nat), .bool p.on, .int .u64 (p.est : Nat), .int .u64 (p.room : Nat), .int .u64 (p.credit : Nat), .int .u64 (p.done : Nat), .int .u64 (p.made : Nat), .slice A p.ds.length c])] w fun e w' => e = .returned (.int .i64 y) ∧ Below w.heap.size w w' := by
  rcases hy with ⟨hk, rfl⟩ | ⟨hk, rfl⟩
  · have HV := Lib.hid fun (w : World) hr => pview_ok (w := w) (p := p) (A := A) c hf hr hl hk
    clear hk hf
    obtain ⟨pct, least, live, on, est, room, credit, done, made, ds⟩ := p
    simp only at *
    go_enter Try.func17, Try.ntmps17
    go_wp2_with fail
    go_at_call 28
    refine (HV.out _ (hr.later (by repeat (first | exact Below.refl _ _ | assumption | (refine below_drewN ?_ _) | (refine Below.drew ?_) | (refine Below.alloc ?_ (by first | omega | (simp; omega) | simp) _) | (refine Below.setCell ?_ (by first | omega | (simp; omega) | simp) _) | (refine below_trans ?_ (by assumption) (by first | omega | (simp; omega) | simp)))))).mono ?_
    rintro e w1 ⟨rfl, hb_w1⟩
    obtain ⟨hc_w1, hf_w1⟩ := bcell hb_w1; have hz_w1_w_0 : w.heap.size < w1.heap.size := (by have hzz := hb_w1.size; (try simp only [World.size_alloc, World.size_setCell, World.size_drew, World.heap_drewN] at hzz); omega); have hs_w1 := hb_w1.size; (try simp only [World.size_alloc, World.size_setCell, World.size_drew, World.heap_drewN] at hs_w1)
    go_wp2
    go_ret
    exact ⟨rfl, (by repeat (first | exact Below.refl _ _ | assumption | (refine below_drewN ?_ _) | (refine Below.drew ?_) | (refine Below.alloc ?_ (by first | omega | (simp; omega) | simp) _) | (refine Below.setCell ?_ (by first | omega | (simp; omega) | simp) _) | (refine below_trans ?_ (by assumption) (by first | omega | (simp; omega) | simp))))⟩
  · have HV := Lib.hid fun (w : World) hr => pview_bad (w := w) (p := p) (A := A) c hf hr hl hk
    clear hk hf
    obtain ⟨pct, least, live, on, est, room, credit, done, made, ds⟩ := p
    simp only at *
    go_enter Try.func17, Try.ntmps17
    go_wp2_with fail
    go_at_call 28
    refine (HV.out _ (hr.later (by repeat (first | exact Below.refl _ _ | assumption | (refine below_drewN ?_ _) | (refine Below.drew ?_) | (refine Below.alloc ?_ (by first | omega | (simp; omega) | simp) _) | (refine Below.setCell ?_ (by first | omega | (simp; omega) | simp) _) | (refine below_trans ?_ (by assumption) (by first | omega | (simp; omega) | simp)))))).mono ?_
    rintro e w1 ⟨rfl, hb_w1⟩
    obtain ⟨hc_w1, hf_w1⟩ := bcell hb_w1; have hz_w1_w_0 : w.heap.size < w1.heap.size := (by have hzz := hb_w1.size; (try simp only [World.size_alloc, World.size_setCell, World.size_drew, World.heap_drewN] at hzz); omega); have hs_w1 := hb_w1.size; (try simp only [World.size_alloc, World.size_setCell, World.size_drew, World.heap_drewN] at hs_w1)
    go_wp2
    go_ret
    exact ⟨rfl, (by repeat (first | exact Below.refl _ _ | assumption | (refine below_drewN ?_ _) | (refine Below.drew ?_) | (refine Below.alloc ?_ (by first | omega | (simp; omega) | simp) _) | (refine Below.setCell ?_ (by first | omega | (simp; omega) | simp) _) | (refine below_trans ?_ (by assumption) (by first | omega | (simp; omega) | simp))))⟩
set_option maxHeartbeats 2000000 in
theorem pgoalX_any (hf : FitP p) (hr : Row w w.heap.size A p.ds) (hl : p.ds.length ≤ 17592186044416) (g t : Nat) (y : Int) (hy : GoalE p g t y) :
    Calls Try.prog 9 #[(.agg #[.int .i64 p.pct, .int .u64 (p.least : Nat), .int .u64 (p.live : Nat), .bool p.on, .int .u64 (p.est : Nat), .int .u64 (p.room : Nat), .int .u64 (p.credit : Nat), .int .u64 (p.done : Nat), .int .u64 (p.made : Nat), .slice A p.ds.length c])] w fun e w' => e = .returned (.tuple #[.int .u64 (g : Nat), .int .u64 (t : Nat), .int .i64 y]) ∧ Below w.heap.size w w' := by
  rcases hy with ⟨hk, rfl, rfl, rfl⟩ | ⟨hk, rfl, rfl, rfl⟩
  · have HV := Lib.hid fun (w : World) hr => pview_ok (w := w) (p := p) (A := A) c hf hr hl hk
    have HG := Lib.hid fun (w : World) => pgoal_any (w := w) (p := p) (A := A) c hk
    have HT := Lib.hid fun (w : World) => ptrigger_any (w := w) (p := p) (A := A) c hk
    generalize goalP p = g at *
    generalize trigP p = t at *
    clear hk hf
    obtain ⟨pct, least, live, on, est, room, credit, done, made, ds⟩ := p
    simp only at *
    go_enter Try.func9, Try.ntmps9
    go_wp2_with fail
    go_at_call 28
    refine (HV.out _ (hr.later (by repeat (first | exact Below.refl _ _ | assumption | (refine below_drewN ?_ _) | (refine Below.drew ?_) | (refine Below.alloc ?_ (by first | omega | (simp; omega) | simp) _) | (refine Below.setCell ?_ (by first | omega | (simp; omega) | simp) _) | (refine below_trans ?_ (by assumption) (by first | omega | (simp; omega) | simp)))))).mono ?_
    rintro e w1 ⟨rfl, hb_w1⟩
    obtain ⟨hc_w1, hf_w1⟩ := bcell hb_w1; have hz_w1_w_0 : w.heap.size < w1.heap.size := (by have hzz := hb_w1.size; (try simp only [World.size_alloc, World.size_setCell, World.size_drew, World.heap_drewN] at hzz); omega); have hs_w1 := hb_w1.size; (try simp only [World.size_alloc, World.size_setCell, World.size_drew, World.heap_drewN] at hs_w1)
    have b1 : Below w.heap.size w w1 := (by repeat (first | exact Below.refl _ _ | assumption | (refine below_drewN ?_ _) | (refine Below.drew ?_) | (refine Below.alloc ?_ (by first | omega | (simp; omega) | simp) _) | (refine Below.setCell ?_ (by first | omega | (simp; omega) | simp) _) | (refine below_trans ?_ (by assumption) (by first | omega | (simp; omega) | simp))))
    clear hc_w1 hf_w1
    go_wp2_with fail
    go_region_held3 (fun X : World => X.cell? ⟨w1.heap.size, 0, none⟩ = some (.int .i64 pct) ∧ X.cell? ⟨w1.heap.size, 1, none⟩ = some (.int .u64 (least : Nat)) ∧ X.cell? ⟨w1.heap.size, 2, none⟩ = some (.int .u64 (live : Nat)) ∧ X.cell? ⟨w1.heap.size, 3, none⟩ = some (.bool on) ∧ X.cell? ⟨w1.heap.size, 4, none⟩ = some (.int .u64 (est : Nat)) ∧ X.cell? ⟨w1.heap.size, 5, none⟩ = some (.int .u64 (room : Nat)) ∧ X.cell? ⟨w1.heap.size, 6, none⟩ = some (.int .u64 (credit : Nat)) ∧ X.cell? ⟨w1.heap.size, 7, none⟩ = some (.int .u64 (done : Nat)) ∧ X.cell? ⟨w1.heap.size, 8, none⟩ = some (.int .u64 (made : Nat)) ∧ X.cell? ⟨w1.heap.size, 9, none⟩ = some (.slice A ds.length c))
    ((refine ⟨?_, ?_, ?_, ?_, ?_, ?_, ?_, ?_, ?_, ?_⟩ <;> first | assumption | (simp [go_sem]; done)))
    ((first
      | (go_at_call 29; refine (HG.out _).mono ?_; rintro e w2 ⟨rfl, hb_w2⟩; obtain ⟨hc_w2, hf_w2⟩ := bcell hb_w2; have hz_w2_w1_0 : w1.heap.size < w2.heap.size := (by have hzz := hb_w2.size; (try simp only [World.size_alloc, World.size_setCell, World.size_drew, World.heap_drewN] at hzz); omega); have hs_w2 := hb_w2.size; (try simp only [World.size_alloc, World.size_setCell, World.size_drew, World.heap_drewN] at hs_w2); clear hc_w2 hf_w2; have n0 : w2.cell? ⟨w1.heap.size, 0, none⟩ = some (.int .i64 pct) := (hb_w2.cell (p := ⟨w1.heap.size, 0, none⟩) (by first | omega | (simp; omega) | simp)).trans (by first | assumption | (simp [go_sem]; done)); have n1 : w2.cell? ⟨w1.heap.size, 1, none⟩ = some (.int .u64 (least : Nat)) := (hb_w2.cell (p := ⟨w1.heap.size, 1, none⟩) (by first | omega | (simp; omega) | simp)).trans (by first | assumption | (simp [go_sem]; done)); have n2 : w2.cell? ⟨w1.heap.size, 2, none⟩ = some (.int .u64 (live : Nat)) := (hb_w2.cell (p := ⟨w1.heap.size, 2, none⟩) (by first | omega | (simp; omega) | simp)).trans (by first | assumption | (simp [go_sem]; done)); have n3 : w2.cell? ⟨w1.heap.size, 3, none⟩ = some (.bool on) := (hb_w2.cell (p := ⟨w1.heap.size, 3, none⟩) (by first | omega | (simp; omega) | simp)).trans (by first | assumption | (simp [go_sem]; done)); have n4 : w2.cell? ⟨w1.heap.size, 4, none⟩ = some (.int .u64 (est : Nat)) := (hb_w2.cell (p := ⟨w1.heap.size, 4, none⟩) (by first | omega | (simp; omega) | simp)).trans (by first | assumption | (simp [go_sem]; done)); have n5 : w2.cell? ⟨w1.heap.size, 5, none⟩ = some (.int .u64 (room : Nat)) := (hb_w2.cell (p := ⟨w1.heap.size, 5, none⟩) (by first | omega | (simp; omega) | simp)).trans (by first | assumption | (simp [go_sem]; done)); have n6 : w2.cell? ⟨w1.heap.size, 6, none⟩ = some (.int .u64 (credit : Nat)) := (hb_w2.cell (p := ⟨w1.heap.size, 6, none⟩) (by first | omega | (simp; omega) | simp)).trans (by first | assumption | (simp [go_sem]; done)); have n7 : w2.cell? ⟨w1.heap.size, 7, none⟩ = some (.int .u64 (done : Nat)) := (hb_w2.cell (p := ⟨w1.heap.size, 7, none⟩) (by first | omega | (simp; omega) | simp)).trans (by first | assumption | (simp [go_sem]; done)); have n8 : w2.cell? ⟨w1.heap.size, 8, none⟩ = some (.int .u64 (made : Nat)) := (hb_w2.cell (p := ⟨w1.heap.size, 8, none⟩) (by first | omega | (simp; omega) | simp)).trans (by first | assumption | (simp [go_sem]; done)); have n9 : w2.cell? ⟨w1.heap.size, 9, none⟩ = some (.slice A ds.length c) := (hb_w2.cell (p := ⟨w1.heap.size, 9, none⟩) (by first | omega | (simp; omega) | simp)).trans (by first | assumption | (simp [go_sem]; done)))
      | (go_at_call 30; refine (HT.out _).mono ?_; rintro e w3 ⟨rfl, hb_w3⟩; obtain ⟨hc_w3, hf_w3⟩ := bcell hb_w3; have hz_w3_w1_0 : w1.heap.size < w3.heap.size := (by have hzz := hb_w3.size; (try simp only [World.size_alloc, World.size_setCell, World.size_drew, World.heap_drewN] at hzz); omega); have hs_w3 := hb_w3.size; (try simp only [World.size_alloc, World.size_setCell, World.size_drew, World.heap_drewN] at hs_w3); clear hc_w3 hf_w3; have m0 : w3.cell? ⟨w1.heap.size, 0, none⟩ = some (.int .i64 pct) := (hb_w3.cell (p := ⟨w1.heap.size, 0, none⟩) (by first | omega | (simp; omega) | simp)).trans (by first | assumption | (simp [go_sem]; done)); have m1 : w3.cell? ⟨w1.heap.size, 1, none⟩ = some (.int .u64 (least : Nat)) := (hb_w3.cell (p := ⟨w1.heap.size, 1, none⟩) (by first | omega | (simp; omega) | simp)).trans (by first | assumption | (simp [go_sem]; done)); have m2 : w3.cell? ⟨w1.heap.size, 2, none⟩ = some (.int .u64 (live : Nat)) := (hb_w3.cell (p := ⟨w1.heap.size, 2, none⟩) (by first | omega | (simp; omega) | simp)).trans (by first | assumption | (simp [go_sem]; done)); have m3 : w3.cell? ⟨w1.heap.size, 3, none⟩ = some (.bool on) := (hb_w3.cell (p := ⟨w1.heap.size, 3, none⟩) (by first | omega | (simp; omega) | simp)).trans (by first | assumption | (simp [go_sem]; done)); have m4 : w3.cell? ⟨w1.heap.size, 4, none⟩ = some (.int .u64 (est : Nat)) := (hb_w3.cell (p := ⟨w1.heap.size, 4, none⟩) (by first | omega | (simp; omega) | simp)).trans (by first | assumption | (simp [go_sem]; done)); have m5 : w3.cell? ⟨w1.heap.size, 5, none⟩ = some (.int .u64 (room : Nat)) := (hb_w3.cell (p := ⟨w1.heap.size, 5, none⟩) (by first | omega | (simp; omega) | simp)).trans (by first | assumption | (simp [go_sem]; done)); have m6 : w3.cell? ⟨w1.heap.size, 6, none⟩ = some (.int .u64 (credit : Nat)) := (hb_w3.cell (p := ⟨w1.heap.size, 6, none⟩) (by first | omega | (simp; omega) | simp)).trans (by first | assumption | (simp [go_sem]; done)); have m7 : w3.cell? ⟨w1.heap.size, 7, none⟩ = some (.int .u64 (done : Nat)) := (hb_w3.cell (p := ⟨w1.heap.size, 7, none⟩) (by first | omega | (simp; omega) | simp)).trans (by first | assumption | (simp [go_sem]; done)); have m8 : w3.cell? ⟨w1.heap.size, 8, none⟩ = some (.int .u64 (made : Nat)) := (hb_w3.cell (p := ⟨w1.heap.size, 8, none⟩) (by first | omega | (simp; omega) | simp)).trans (by first | assumption | (simp [go_sem]; done)); have m9 : w3.cell? ⟨w1.heap.size, 9, none⟩ = some (.slice A ds.length c) := (hb_w3.cell (p := ⟨w1.heap.size, 9, none⟩) (by first | omega | (simp; omega) | simp)).trans (by first | assumption | (simp [go_sem]; done)))))
    all_goals
      go_wp2
      go_ret3
      exact ⟨rfl, (by repeat (first | exact Below.refl _ _ | assumption | (refine below_drewN ?_ _) | (refine Below.drew ?_) | (refine Below.alloc ?_ (by first | omega | (simp; omega) | simp) _) | (refine Below.setCell ?_ (by first | omega | (simp; omega) | simp) _) | (refine below_trans ?_ (by assumption) (by first | omega | (simp; omega) | simp))))⟩
  · have HV := Lib.hid fun (w : World) hr => pview_bad (w := w) (p := p) (A := A) c hf hr hl hk
    clear hk hf
    obtain ⟨pct, least, live, on, est, room, credit, done, made, ds⟩ := p
    simp only at *
    go_enter Try.func9, Try.ntmps9
    go_wp2_with fail
    go_at_call 28
    refine (HV.out _ (hr.later (by repeat (first | exact Below.refl _ _ | assumption | (refine below_drewN ?_ _) | (refine Below.drew ?_) | (refine Below.alloc ?_ (by first | omega | (simp; omega) | simp) _) | (refine Below.setCell ?_ (by first | omega | (simp; omega) | simp) _) | (refine below_trans ?_ (by assumption) (by first | omega | (simp; omega) | simp)))))).mono ?_
    rintro e w1 ⟨rfl, hb_w1⟩
    obtain ⟨hc_w1, hf_w1⟩ := bcell hb_w1; have hz_w1_w_0 : w.heap.size < w1.heap.size := (by have hzz := hb_w1.size; (try simp only [World.size_alloc, World.size_setCell, World.size_drew, World.heap_drewN] at hzz); omega); have hs_w1 := hb_w1.size; (try simp only [World.size_alloc, World.size_setCell, World.size_drew, World.heap_drewN] at hs_w1)
    go_wp2
    go_ret3
    exact ⟨rfl, (by repeat (first | exact Below.refl _ _ | assumption | (refine below_drewN ?_ _) | (refine Below.drew ?_) | (refine Below.alloc ?_ (by first | omega | (simp; omega) | simp) _) | (refine Below.setCell ?_ (by first | omega | (simp; omega) | simp) _) | (refine below_trans ?_ (by assumption) (by first | omega | (simp; omega) | simp))))⟩
theorem pdue_any (hf : FitP p) (hr : Row w w.heap.size A p.ds) (hl : p.ds.length ≤ 17592186044416) (heap : Nat) (b : Bool) (y : Int) (hy : DueE p heap b y) :
    Calls Try.prog 11 #[(.agg #[.int .i64 p.pct, .int .u64 (p.least : Nat), .int .u64 (p.live : Nat), .bool p.on, .int .u64 (p.est : Nat), .int .u64 (p.room : Nat), .int .u64 (p.credit : Nat), .int .u64 (p.done : Nat), .int .u64 (p.made : Nat), .slice A p.ds.length c]), .int .u64 (heap : Nat)] w fun e w' => e = .returned (.tuple #[.bool b, .int .i64 y]) ∧ Below w.heap.size w w' := by
  rcases hy with ⟨hk, rfl, rfl⟩ | ⟨hk, rfl, rfl⟩
  · have HV := Lib.hid fun (w : World) hr => pview_ok (w := w) (p := p) (A := A) c hf hr hl hk
    have HT := Lib.hid fun (w : World) => ptrigger_any (w := w) (p := p) (A := A) c hk
    generalize trigP p = t at *
    clear hk hf
    obtain ⟨pct, least, live, on, est, room, credit, done, made, ds⟩ := p
    simp only at *
    cases on
    · go_enter Try.func11, Try.ntmps11
      go_wp2_with fail
      go_at_call 28
      refine (HV.out _ (hr.later (by repeat (first | exact Below.refl _ _ | assumption | (refine below_drewN ?_ _) | (refine Below.drew ?_) | (refine Below.alloc ?_ (by first | omega | (simp; omega) | simp) _) | (refine Below.setCell ?_ (by first | omega | (simp; omega) | simp) _) | (refine below_trans ?_ (by assumption) (by first | omega | (simp; omega) | simp)))))).mono ?_
      rintro e w1 ⟨rfl, hb_w1⟩
      obtain ⟨hc_w1, hf_w1⟩ := bcell hb_w1; have hz_w1_w_0 : w.heap.size < w1.heap.size := (by have hzz := hb_w1.size; (try simp only [World.size_alloc, World.size_setCell, World.size_drew, World.heap_drewN] at hzz); omega); have hs_w1 := hb_w1.size; (try simp only [World.size_alloc, World.size_setCell, World.size_drew, World.heap_drewN] at hs_w1)
      clear hc_w1 hf_w1
      go_wp2_with fail
      go_at_call 30
      refine (HT.out _).mono ?_
      rintro e w2 ⟨rfl, hb_w2⟩
      obtain ⟨hc_w2, hf_w2⟩ := bcell hb_w2; have hz_w2_w_0 : w.heap.size < w2.heap.size := (by have hzz := hb_w2.size; (try simp only [World.size_alloc, World.size_setCell, World.size_drew, World.heap_drewN] at hzz); omega); have hs_w2 := hb_w2.size; (try simp only [World.size_alloc, World.size_setCell, World.size_drew, World.heap_drewN] at hs_w2)
      go_wp2
      go_ret2
      exact ⟨rfl, (by repeat (first | exact Below.refl _ _ | assumption | (refine below_drewN ?_ _) | (refine Below.drew ?_) | (refine Below.alloc ?_ (by first | omega | (simp; omega) | simp) _) | (refine Below.setCell ?_ (by first | omega | (simp; omega) | simp) _) | (refine below_trans ?_ (by assumption) (by first | omega | (simp; omega) | simp))))⟩
    · go_enter Try.func11, Try.ntmps11
      go_wp2_with fail
      go_at_call 28
      refine (HV.out _ (hr.later (by repeat (first | exact Below.refl _ _ | assumption | (refine below_drewN ?_ _) | (refine Below.drew ?_) | (refine Below.alloc ?_ (by first | omega | (simp; omega) | simp) _) | (refine Below.setCell ?_ (by first | omega | (simp; omega) | simp) _) | (refine below_trans ?_ (by assumption) (by first | omega | (simp; omega) | simp)))))).mono ?_
      rintro e w1 ⟨rfl, hb_w1⟩
      obtain ⟨hc_w1, hf_w1⟩ := bcell hb_w1; have hz_w1_w_0 : w.heap.size < w1.heap.size := (by have hzz := hb_w1.size; (try simp only [World.size_alloc, World.size_setCell, World.size_drew, World.heap_drewN] at hzz); omega); have hs_w1 := hb_w1.size; (try simp only [World.size_alloc, World.size_setCell, World.size_drew, World.heap_drewN] at hs_w1)
      go_wp2
      go_ret2
      exact ⟨rfl, (by repeat (first | exact Below.refl _ _ | assumption | (refine below_drewN ?_ _) | (refine Below.drew ?_) | (refine Below.alloc ?_ (by first | omega | (simp; omega) | simp) _) | (refine Below.setCell ?_ (by first | omega | (simp; omega) | simp) _) | (refine below_trans ?_ (by assumption) (by first | omega | (simp; omega) | simp))))⟩
  · have HV := Lib.hid fun (w : World) hr => pview_bad (w := w) (p := p) (A := A) c hf hr hl hk
    clear hk hf
    obtain ⟨pct, least, live, on, est, room, credit, done, made, ds⟩ := p
    simp only at *
    go_enter Try.func11, Try.ntmps11
    go_wp2_with fail
    go_at_call 28
    refine (HV.out _ (hr.later (by repeat (first | exact Below.refl _ _ | assumption | (refine below_drewN ?_ _) | (refine Below.drew ?_) | (refine Below.alloc ?_ (by first | omega | (simp; omega) | simp) _) | (refine Below.setCell ?_ (by first | omega | (simp; omega) | simp) _) | (refine below_trans ?_ (by assumption) (by first | omega | (simp; omega) | simp)))))).mono ?_
    rintro e w1 ⟨rfl, hb_w1⟩
    obtain ⟨hc_w1, hf_w1⟩ := bcell hb_w1; have hz_w1_w_0 : w.heap.size < w1.heap.size := (by have hzz := hb_w1.size; (try simp only [World.size_alloc, World.size_setCell, World.size_drew, World.heap_drewN] at hzz); omega); have hs_w1 := hb_w1.size; (try simp only [World.size_alloc, World.size_setCell, World.size_drew, World.heap_drewN] at hs_w1)
    go_wp2
    go_ret2
    exact ⟨rfl, (by repeat (first | exact Below.refl _ _ | assumption | (refine below_drewN ?_ _) | (refine Below.drew ?_) | (refine Below.alloc ?_ (by first | omega | (simp; omega) | simp) _) | (refine Below.setCell ?_ (by first | omega | (simp; omega) | simp) _) | (refine below_trans ?_ (by assumption) (by first | omega | (simp; omega) | simp))))⟩
end
end Go.Proofs.Ytkdbcoibapcmjaa
