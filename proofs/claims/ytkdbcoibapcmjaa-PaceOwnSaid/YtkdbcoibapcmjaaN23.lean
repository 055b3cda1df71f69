/- The document's own pacers: Work. -/
import Derived.Test.YtkdbcoibapcmjaaN22
import Derived.Test.YtkdbcoibapcmjaaN16
namespace Go.Proofs.Ytkdbcoibapcmjaa
open Go.RowKit
set_option linter.unusedVariables false
set_option linter.unusedSimpArgs false
set_option maxRecDepth 100000

section
variable {w : World} {p : Pc} {A S : Option Addr} (c cl : Nat) {l : List Nat}
set_option maxHeartbeats 4000000 in
theorem xpwork_bad (hf : FitP p) (hr : Row w w.heap.size A p.ds) (hl : p.ds.length ≤ 17592186044416) (hs : Row w w.heap.size S l) (hsl : l.length ≤ 17592186044416) (who : Int) (hk : ¬ OkP p) :
    Calls Try.prog 27 #[(.agg #[.int .i64 p.pct, .int .u64 (p.least : Nat), .int .u64 (p.live : Nat), .bool p.on, .int .u64 (p.est : Nat), .int .u64 (p.room : Nat), .int .u64 (p.credit : Nat), .int .u64 (p.done : Nat), .int .u64 (p.made : Nat), .slice A p.ds.length c]), .int .i64 who, .slice S l.length cl] w fun e w' => ∃ A' c', e = .returned (.tuple #[(.agg #[.int .i64 Pc.zero.pct, .int .u64 (Pc.zero.least : Nat), .int .u64 (Pc.zero.live : Nat), .bool Pc.zero.on, .int .u64 (Pc.zero.est : Nat), .int .u64 (Pc.zero.room : Nat), .int .u64 (Pc.zero.credit : Nat), .int .u64 (Pc.zero.done : Nat), .int .u64 (Pc.zero.made : Nat), .slice A' Pc.zero.ds.length c']), .int .i64 2]) ∧ OwnD w' w.heap.size A' c' (Pc.zero).ds ∧ Below w.heap.size w w' := by
  have HK := Lib.hid fun (w : World) hr => xpcheck_any (w := w) (p := p) (A := A) c hf hr 2 (.inr ⟨hk, rfl⟩)
  clear hk hf
  obtain ⟨pct, least, live, on, est, room, credit, done, made, ds⟩ := p
  simp only at *
  go_enter Try.func27, Try.ntmps27
  go_wp2_with fail
  go_at_call 18
  refine (HK.out _ (hr.later (by repeat (first | exact Below.refl _ _ | assumption | (refine below_drewN ?_ _) | (refine Below.drew ?_) | (refine Below.alloc ?_ (by first | omega | (simp; omega) | simp) _) | (refine Below.setCell ?_ (by first | omega | (simp; omega) | simp) _) | (refine below_trans ?_ (by assumption) (by first | omega | (simp; omega) | simp)))))).mono ?_
  rintro e w1 ⟨rfl, hb_w1⟩
  obtain ⟨hc_w1, hf_w1⟩ := bcell hb_w1; have hz_w1_w_0 : w.heap.size < w1.heap.size := (by have hzz := hb_w1.size; (try simp only [World.size_alloc, World.size_setCell, World.size_drew, World.heap_drewN] at hzz); omega); have hz_w1_w_1 : w.heap.size + 1 < w1.heap.size := (by have hzz := hb_w1.size; (try simp only [World.size_alloc, World.size_setCell, World.size_drew, World.heap_drewN] at hzz); omega); have hs_w1 := hb_w1.size; (try simp only [World.size_alloc, World.size_setCell, World.size_drew, World.heap_drewN] at hs_w1)
  have b1 : Below w.heap.size w w1 := (by repeat (first | exact Below.refl _ _ | assumption | (refine below_drewN ?_ _) | (refine Below.drew ?_) | (refine Below.alloc ?_ (by first | omega | (simp; omega) | simp) _) | (refine Below.setCell ?_ (by first | omega | (simp; omega) | simp) _) | (refine below_trans ?_ (by assumption) (by first | omega | (simp; omega) | simp))))
  have t0 := (Ten.new (w.alloc (.cells #[.int .i64 pct, .int .u64 (least : Nat), .int .u64 (live : Nat), .bool on, .int .u64 (est : Nat), .int .u64 (room : Nat), .int .u64 (credit : Nat), .int .u64 (done : Nat), .int .u64 (made : Nat), .slice A ds.length c] 25)) (.int .i64 0) (.int .u64 0) (.int .u64 0) (.bool false) (.int .u64 0) (.int .u64 0) (.int .u64 0) (.int .u64 0) (.int .u64 0) (.slice none 0 0) 25).later hb_w1
  simp only [World.size_alloc] at t0
  obtain ⟨y0, y1, y2, y3, y4, y5, y6, y7, y8, y9, yf⟩ := id t0
  have ylt := t0.lt
  have b2 := below_ten (b := w.heap.size + 1) b1 (by omega) (.int .i64 0) (.int .u64 0) (.int .u64 0) (.bool false) (.int .u64 0) (.int .u64 0) (.int .u64 0) (.int .u64 0) (.int .u64 0) (.slice none 0 0)
  clear hc_w1 hf_w1
  go_wp2
  exact bodyPost_ret (res_pp2 rfl rfl (t0.all _ _ _ _ _ _ _ _ _ _)) rfl ⟨none, 0, rfl, OwnD.none _ _, b2⟩
set_option maxHeartbeats 4000000 in
theorem xpwork_task (hf : FitP p) (hr : Row w w.heap.size A p.ds) (hl : p.ds.length ≤ 17592186044416) (hs : Row w w.heap.size S l) (hsl : l.length ≤ 17592186044416) (who : Int) (hk : OkP p) (hw : who < -1 ∨ p.ds.length ≤ who) :
    Calls Try.prog 27 #[(.agg #[.int .i64 p.pct, .int .u64 (p.least : Nat), .int .u64 (p.live : Nat), .bool p.on, .int .u64 (p.est : Nat), .int .u64 (p.room : Nat), .int .u64 (p.credit : Nat), .int .u64 (p.done : Nat), .int .u64 (p.made : Nat), .slice A p.ds.length c]), .int .i64 who, .slice S l.length cl] w fun e w' => ∃ A' c', e = .returned (.tuple #[(.agg #[.int .i64 p.pct, .int .u64 (p.least : Nat), .int .u64 (p.live : Nat), .bool p.on, .int .u64 (p.est : Nat), .int .u64 (p.room : Nat), .int .u64 (p.credit : Nat), .int .u64 (p.done : Nat), .int .u64 (p.made : Nat), .slice A' p.ds.length c']), .int .i64 11]) ∧ OwnD w' w.heap.size A' c' (p).ds ∧ Below w.heap.size w w' := by
  have HT := Lib.hid fun (w : World) hr => xpcopy_any (w := w) (p := p) (A := A) c hr hl
  have HK := Lib.hid fun (w : World) hr => xpcheck_any (w := w) (p := p) (A := A) c hf hr 0 (.inl ⟨hk, rfl⟩)
  clear hk hf
  obtain ⟨pct, least, live, on, est, room, credit, done, made, ds⟩ := p
  simp only at *
  by_cases h1 : who < -1
  · have f1 : decide (who < -1) = true := by simpa using h1
    go_enter Try.func27, Try.ntmps27
    go_wp2_with fail
    go_at_call 18
    refine (HK.out _ (hr.later (by repeat (first | exact Below.refl _ _ | assumption | (refine below_drewN ?_ _) | (refine Below.drew ?_) | (refine Below.alloc ?_ (by first | omega | (simp; omega) | simp) _) | (refine Below.setCell ?_ (by first | omega | (simp; omega) | simp) _) | (refine below_trans ?_ (by assumption) (by first | omega | (simp; omega) | simp)))))).mono ?_
    rintro e w1 ⟨rfl, hb_w1⟩
    obtain ⟨hc_w1, hf_w1⟩ := bcell hb_w1; have hz_w1_w_0 : w.heap.size < w1.heap.size := (by have hzz := hb_w1.size; (try simp only [World.size_alloc, World.size_setCell, World.size_drew, World.heap_drewN] at hzz); omega); have hz_w1_w_1 : w.heap.size + 1 < w1.heap.size := (by have hzz := hb_w1.size; (try simp only [World.size_alloc, World.size_setCell, World.size_drew, World.heap_drewN] at hzz); omega); have hs_w1 := hb_w1.size; (try simp only [World.size_alloc, World.size_setCell, World.size_drew, World.heap_drewN] at hs_w1)
    have b1 : Below w.heap.size w w1 := (by repeat (first | exact Below.refl _ _ | assumption | (refine below_drewN ?_ _) | (refine Below.drew ?_) | (refine Below.alloc ?_ (by first | omega | (simp; omega) | simp) _) | (refine Below.setCell ?_ (by first | omega | (simp; omega) | simp) _) | (refine below_trans ?_ (by assumption) (by first | omega | (simp; omega) | simp))))
    have t0 := (Ten.new (w.alloc (.cells #[.int .i64 pct, .int .u64 (least : Nat), .int .u64 (live : Nat), .bool on, .int .u64 (est : Nat), .int .u64 (room : Nat), .int .u64 (credit : Nat), .int .u64 (done : Nat), .int .u64 (made : Nat), .slice A ds.length c] 25)) (.int .i64 0) (.int .u64 0) (.int .u64 0) (.bool false) (.int .u64 0) (.int .u64 0) (.int .u64 0) (.int .u64 0) (.int .u64 0) (.slice none 0 0) 25).later hb_w1
    have t1 := ((Ten.new w (.int .i64 pct) (.int .u64 (least : Nat)) (.int .u64 (live : Nat)) (.bool on) (.int .u64 (est : Nat)) (.int .u64 (room : Nat)) (.int .u64 (credit : Nat)) (.int .u64 (done : Nat)) (.int .u64 (made : Nat)) (.slice A ds.length c) 25).later ((Below.refl _ _).alloc (Nat.le_refl _) (.cells #[.int .i64 0, .int .u64 0, .int .u64 0, .bool false, .int .u64 0, .int .u64 0, .int .u64 0, .int .u64 0, .int .u64 0, .slice none 0 0] 25))).later hb_w1
    simp only [World.size_alloc] at t0 t1
    clear hc_w1 hf_w1
    obtain ⟨q0, q1, q2, q3, q4, q5, q6, q7, q8, q9, qf⟩ := id t1
    go_wp2_with fail
    go_at_call 19
    refine (HT.out _ ((hr.later b1).later (by repeat (first | exact Below.refl _ _ | assumption | (refine below_drewN ?_ _) | (refine Below.drew ?_) | (refine Below.alloc ?_ (by first | omega | (simp; omega) | simp) _) | (refine Below.setCell ?_ (by first | omega | (simp; omega) | simp) _) | (refine below_trans ?_ (by assumption) (by first | omega | (simp; omega) | simp)))))).mono ?_
    rintro e w2 ⟨A2, c2, rfl, oD, hb_w2⟩
    clear q0 q1 q2 q3 q4 q5 q6 q7 q8 q9 qf
    have t0 := t0.later hb_w2
    have t1 := t1.later hb_w2
    have s2 := hb_w2.size
    (try simp only [World.size_alloc] at oD s2)
    have b2 : Below w.heap.size w w2 := (by repeat (first | exact Below.refl _ _ | assumption | (refine below_drewN ?_ _) | (refine Below.drew ?_) | (refine Below.alloc ?_ (by first | omega | (simp; omega) | simp) _) | (refine Below.setCell ?_ (by first | omega | (simp; omega) | simp) _) | (refine below_trans ?_ (by assumption) (by first | omega | (simp; omega) | simp))))
    have t1' := t1.all (.int .i64 pct) (.int .u64 (least : Nat)) (.int .u64 (live : Nat)) (.bool on) (.int .u64 (est : Nat)) (.int .u64 (room : Nat)) (.int .u64 (credit : Nat)) (.int .u64 (done : Nat)) (.int .u64 (made : Nat)) (.slice A2 ds.length c2)
    have t0' := t0.over (g := w.heap.size) (by omega) (.int .i64 pct) (.int .u64 (least : Nat)) (.int .u64 (live : Nat)) (.bool on) (.int .u64 (est : Nat)) (.int .u64 (room : Nat)) (.int .u64 (credit : Nat)) (.int .u64 (done : Nat)) (.int .u64 (made : Nat)) (.slice A2 ds.length c2)
    have oD' := oD.ten (g := w.heap.size) (.inl (by first | omega | (simp; omega) | simp)) (.int .i64 pct) (.int .u64 (least : Nat)) (.int .u64 (live : Nat)) (.bool on) (.int .u64 (est : Nat)) (.int .u64 (room : Nat)) (.int .u64 (credit : Nat)) (.int .u64 (done : Nat)) (.int .u64 (made : Nat)) (.slice A2 ds.length c2)
    have b2' := below_ten (b := w.heap.size) b2 (Nat.le_refl _) (.int .i64 pct) (.int .u64 (least : Nat)) (.int .u64 (live : Nat)) (.bool on) (.int .u64 (est : Nat)) (.int .u64 (room : Nat)) (.int .u64 (credit : Nat)) (.int .u64 (done : Nat)) (.int .u64 (made : Nat)) (.slice A2 ds.length c2)
    obtain ⟨x0, x1, x2, x3, x4, x5, x6, x7, x8, x9, xf⟩ := id t1
    obtain ⟨y0, y1, y2, y3, y4, y5, y6, y7, y8, y9, yf⟩ := id t0
    go_wp2
    exact bodyPost_ret (res_pp2 rfl rfl (t0'.all _ _ _ _ _ _ _ _ _ _)) rfl ⟨A2, c2, rfl, (oD'.ten (.inl (by omega)) _ _ _ _ _ _ _ _ _ _).mono (by omega), below_ten b2' (by omega) _ _ _ _ _ _ _ _ _ _⟩
  · have f1 : decide (who < -1) = false := by simpa using h1
    have f2 : decide ((ds.length : Int) ≤ who) = true := by simp; omega
    go_enter Try.func27, Try.ntmps27
    go_wp2_with fail
    go_at_call 18
    refine (HK.out _ (hr.later (by repeat (first | exact Below.refl _ _ | assumption | (refine below_drewN ?_ _) | (refine Below.drew ?_) | (refine Below.alloc ?_ (by first | omega | (simp; omega) | simp) _) | (refine Below.setCell ?_ (by first | omega | (simp; omega) | simp) _) | (refine below_trans ?_ (by assumption) (by first | omega | (simp; omega) | simp)))))).mono ?_
    rintro e w1 ⟨rfl, hb_w1⟩
    obtain ⟨hc_w1, hf_w1⟩ := bcell hb_w1; have hz_w1_w_0 : w.heap.size < w1.heap.size := (by have hzz := hb_w1.size; (try simp only [World.size_alloc, World.size_setCell, World.size_drew, World.heap_drewN] at hzz); omega); have hz_w1_w_1 : w.heap.size + 1 < w1.heap.size := (by have hzz := hb_w1.size; (try simp only [World.size_alloc, World.size_setCell, World.size_drew, World.heap_drewN] at hzz); omega); have hs_w1 := hb_w1.size; (try simp only [World.size_alloc, World.size_setCell, World.size_drew, World.heap_drewN] at hs_w1)
    have b1 : Below w.heap.size w w1 := (by repeat (first | exact Below.refl _ _ | assumption | (refine below_drewN ?_ _) | (refine Below.drew ?_) | (refine Below.alloc ?_ (by first | omega | (simp; omega) | simp) _) | (refine Below.setCell ?_ (by first | omega | (simp; omega) | simp) _) | (refine below_trans ?_ (by assumption) (by first | omega | (simp; omega) | simp))))
    have t0 := (Ten.new (w.alloc (.cells #[.int .i64 pct, .int .u64 (least : Nat), .int .u64 (live : Nat), .bool on, .int .u64 (est : Nat), .int .u64 (room : Nat), .int .u64 (credit : Nat), .int .u64 (done : Nat), .int .u64 (made : Nat), .slice A ds.length c] 25)) (.int .i64 0) (.int .u64 0) (.int .u64 0) (.bool false) (.int .u64 0) (.int .u64 0) (.int .u64 0) (.int .u64 0) (.int .u64 0) (.slice none 0 0) 25).later hb_w1
    have t1 := ((Ten.new w (.int .i64 pct) (.int .u64 (least : Nat)) (.int .u64 (live : Nat)) (.bool on) (.int .u64 (est : Nat)) (.int .u64 (room : Nat)) (.int .u64 (credit : Nat)) (.int .u64 (done : Nat)) (.int .u64 (made : Nat)) (.slice A ds.length c) 25).later ((Below.refl _ _).alloc (Nat.le_refl _) (.cells #[.int .i64 0, .int .u64 0, .int .u64 0, .bool false, .int .u64 0, .int .u64 0, .int .u64 0, .int .u64 0, .int .u64 0, .slice none 0 0] 25))).later hb_w1
    simp only [World.size_alloc] at t0 t1
    clear hc_w1 hf_w1
    obtain ⟨q0, q1, q2, q3, q4, q5, q6, q7, q8, q9, qf⟩ := id t1
    go_wp2_with fail
    go_at_call 19
    refine (HT.out _ ((hr.later b1).later (by repeat (first | exact Below.refl _ _ | assumption | (refine below_drewN ?_ _) | (refine Below.drew ?_) | (refine Below.alloc ?_ (by first | omega | (simp; omega) | simp) _) | (refine Below.setCell ?_ (by first | omega | (simp; omega) | simp) _) | (refine below_trans ?_ (by assumption) (by first | omega | (simp; omega) | simp)))))).mono ?_
    rintro e w2 ⟨A2, c2, rfl, oD, hb_w2⟩
    clear q0 q1 q2 q3 q4 q5 q6 q7 q8 q9 qf
    have t0 := t0.later hb_w2
    have t1 := t1.later hb_w2
    have s2 := hb_w2.size
    (try simp only [World.size_alloc] at oD s2)
    have b2 : Below w.heap.size w w2 := (by repeat (first | exact Below.refl _ _ | assumption | (refine below_drewN ?_ _) | (refine Below.drew ?_) | (refine Below.alloc ?_ (by first | omega | (simp; omega) | simp) _) | (refine Below.setCell ?_ (by first | omega | (simp; omega) | simp) _) | (refine below_trans ?_ (by assumption) (by first | omega | (simp; omega) | simp))))
    have t1' := t1.all (.int .i64 pct) (.int .u64 (least : Nat)) (.int .u64 (live : Nat)) (.bool on) (.int .u64 (est : Nat)) (.int .u64 (room : Nat)) (.int .u64 (credit : Nat)) (.int .u64 (done : Nat)) (.int .u64 (made : Nat)) (.slice A2 ds.length c2)
    have t0' := t0.over (g := w.heap.size) (by omega) (.int .i64 pct) (.int .u64 (least : Nat)) (.int .u64 (live : Nat)) (.bool on) (.int .u64 (est : Nat)) (.int .u64 (room : Nat)) (.int .u64 (credit : Nat)) (.int .u64 (done : Nat)) (.int .u64 (made : Nat)) (.slice A2 ds.length c2)
    have oD' := oD.ten (g := w.heap.size) (.inl (by first | omega | (simp; omega) | simp)) (.int .i64 pct) (.int .u64 (least : Nat)) (.int .u64 (live : Nat)) (.bool on) (.int .u64 (est : Nat)) (.int .u64 (room : Nat)) (.int .u64 (credit : Nat)) (.int .u64 (done : Nat)) (.int .u64 (made : Nat)) (.slice A2 ds.length c2)
    have b2' := below_ten (b := w.heap.size) b2 (Nat.le_refl _) (.int .i64 pct) (.int .u64 (least : Nat)) (.int .u64 (live : Nat)) (.bool on) (.int .u64 (est : Nat)) (.int .u64 (room : Nat)) (.int .u64 (credit : Nat)) (.int .u64 (done : Nat)) (.int .u64 (made : Nat)) (.slice A2 ds.length c2)
    obtain ⟨x0, x1, x2, x3, x4, x5, x6, x7, x8, x9, xf⟩ := id t1
    obtain ⟨y0, y1, y2, y3, y4, y5, y6, y7, y8, y9, yf⟩ := id t0
    go_wp2
    exact bodyPost_ret (res_pp2 rfl rfl (t0'.all _ _ _ _ _ _ _ _ _ _)) rfl ⟨A2, c2, rfl, (oD'.ten (.inl (by omega)) _ _ _ _ _ _ _ _ _ _).mono (by omega), below_ten b2' (by omega) _ _ _ _ _ _ _ _ _ _⟩
set_option maxHeartbeats 4000000 in
theorem xpwork_off (hf : FitP p) (hr : Row w w.heap.size A p.ds) (hl : p.ds.length ≤ 17592186044416) (hs : Row w w.heap.size S l) (hsl : l.length ≤ 17592186044416) (who : Int) (hk : OkP p) (hw1 : -1 ≤ who) (hw2 : who < p.ds.length) (ho : p.on = false) :
    Calls Try.prog 27 #[(.agg #[.int .i64 p.pct, .int .u64 (p.least : Nat), .int .u64 (p.live : Nat), .bool p.on, .int .u64 (p.est : Nat), .int .u64 (p.room : Nat), .int .u64 (p.credit : Nat), .int .u64 (p.done : Nat), .int .u64 (p.made : Nat), .slice A p.ds.length c]), .int .i64 who, .slice S l.length cl] w fun e w' => ∃ A' c', e = .returned (.tuple #[(.agg #[.int .i64 p.pct, .int .u64 (p.least : Nat), .int .u64 (p.live : Nat), .bool p.on, .int .u64 (p.est : Nat), .int .u64 (p.room : Nat), .int .u64 (p.credit : Nat), .int .u64 (p.done : Nat), .int .u64 (p.made : Nat), .slice A' p.ds.length c']), .int .i64 5]) ∧ OwnD w' w.heap.size A' c' (p).ds ∧ Below w.heap.size w w' := by
  have HT := Lib.hid fun (w : World) hr => xpcopy_any (w := w) (p := p) (A := A) c hr hl
  have HK := Lib.hid fun (w : World) hr => xpcheck_any (w := w) (p := p) (A := A) c hf hr 0 (.inl ⟨hk, rfl⟩)
  clear hk hf
  obtain ⟨pct, least, live, on, est, room, credit, done, made, ds⟩ := p
  simp only at *
  subst ho
  have g1 : decide (who < -1) = false := by first | decide | (simp; omega) | simp
  have g2 : decide ((ds.length : Int) ≤ who) = false := by first | (simp; omega) | simp
  go_enter Try.func27, Try.ntmps27
  go_wp2_with fail
  go_at_call 18
  refine (HK.out _ (hr.later (by repeat (first | exact Below.refl _ _ | assumption | (refine below_drewN ?_ _) | (refine Below.drew ?_) | (refine Below.alloc ?_ (by first | omega | (simp; omega) | simp) _) | (refine Below.setCell ?_ (by first | omega | (simp; omega) | simp) _) | (refine below_trans ?_ (by assumption) (by first | omega | (simp; omega) | simp)))))).mono ?_
  rintro e w1 ⟨rfl, hb_w1⟩
  obtain ⟨hc_w1, hf_w1⟩ := bcell hb_w1; have hz_w1_w_0 : w.heap.size < w1.heap.size := (by have hzz := hb_w1.size; (try simp only [World.size_alloc, World.size_setCell, World.size_drew, World.heap_drewN] at hzz); omega); have hz_w1_w_1 : w.heap.size + 1 < w1.heap.size := (by have hzz := hb_w1.size; (try simp only [World.size_alloc, World.size_setCell, World.size_drew, World.heap_drewN] at hzz); omega); have hs_w1 := hb_w1.size; (try simp only [World.size_alloc, World.size_setCell, World.size_drew, World.heap_drewN] at hs_w1)
  have b1 : Below w.heap.size w w1 := (by repeat (first | exact Below.refl _ _ | assumption | (refine below_drewN ?_ _) | (refine Below.drew ?_) | (refine Below.alloc ?_ (by first | omega | (simp; omega) | simp) _) | (refine Below.setCell ?_ (by first | omega | (simp; omega) | simp) _) | (refine below_trans ?_ (by assumption) (by first | omega | (simp; omega) | simp))))
  have t0 := (Ten.new (w.alloc (.cells #[.int .i64 pct, .int .u64 (least : Nat), .int .u64 (live : Nat), .bool false, .int .u64 (est : Nat), .int .u64 (room : Nat), .int .u64 (credit : Nat), .int .u64 (done : Nat), .int .u64 (made : Nat), .slice A ds.length c] 25)) (.int .i64 0) (.int .u64 0) (.int .u64 0) (.bool false) (.int .u64 0) (.int .u64 0) (.int .u64 0) (.int .u64 0) (.int .u64 0) (.slice none 0 0) 25).later hb_w1
  have t1 := ((Ten.new w (.int .i64 pct) (.int .u64 (least : Nat)) (.int .u64 (live : Nat)) (.bool false) (.int .u64 (est : Nat)) (.int .u64 (room : Nat)) (.int .u64 (credit : Nat)) (.int .u64 (done : Nat)) (.int .u64 (made : Nat)) (.slice A ds.length c) 25).later ((Below.refl _ _).alloc (Nat.le_refl _) (.cells #[.int .i64 0, .int .u64 0, .int .u64 0, .bool false, .int .u64 0, .int .u64 0, .int .u64 0, .int .u64 0, .int .u64 0, .slice none 0 0] 25))).later hb_w1
  simp only [World.size_alloc] at t0 t1
  clear hc_w1 hf_w1
  obtain ⟨q0, q1, q2, q3, q4, q5, q6, q7, q8, q9, qf⟩ := id t1
  go_wp2_with fail
  go_at_call 19
  refine (HT.out _ ((hr.later b1).later (by repeat (first | exact Below.refl _ _ | assumption | (refine below_drewN ?_ _) | (refine Below.drew ?_) | (refine Below.alloc ?_ (by first | omega | (simp; omega) | simp) _) | (refine Below.setCell ?_ (by first | omega | (simp; omega) | simp) _) | (refine below_trans ?_ (by assumption) (by first | omega | (simp; omega) | simp)))))).mono ?_
  rintro e w2 ⟨A2, c2, rfl, oD, hb_w2⟩
  clear q0 q1 q2 q3 q4 q5 q6 q7 q8 q9 qf
  have t0 := t0.later hb_w2
  have t1 := t1.later hb_w2
  have s2 := hb_w2.size
  (try simp only [World.size_alloc] at oD s2)
  have b2 : Below w.heap.size w w2 := (by repeat (first | exact Below.refl _ _ | assumption | (refine below_drewN ?_ _) | (refine Below.drew ?_) | (refine Below.alloc ?_ (by first | omega | (simp; omega) | simp) _) | (refine Below.setCell ?_ (by first | omega | (simp; omega) | simp) _) | (refine below_trans ?_ (by assumption) (by first | omega | (simp; omega) | simp))))
  have t1' := t1.all (.int .i64 pct) (.int .u64 (least : Nat)) (.int .u64 (live : Nat)) (.bool false) (.int .u64 (est : Nat)) (.int .u64 (room : Nat)) (.int .u64 (credit : Nat)) (.int .u64 (done : Nat)) (.int .u64 (made : Nat)) (.slice A2 ds.length c2)
  have t0' := t0.over (g := w.heap.size) (by omega) (.int .i64 pct) (.int .u64 (least : Nat)) (.int .u64 (live : Nat)) (.bool false) (.int .u64 (est : Nat)) (.int .u64 (room : Nat)) (.int .u64 (credit : Nat)) (.int .u64 (done : Nat)) (.int .u64 (made : Nat)) (.slice A2 ds.length c2)
  have oD' := oD.ten (g := w.heap.size) (.inl (by first | omega | (simp; omega) | simp)) (.int .i64 pct) (.int .u64 (least : Nat)) (.int .u64 (live : Nat)) (.bool false) (.int .u64 (est : Nat)) (.int .u64 (room : Nat)) (.int .u64 (credit : Nat)) (.int .u64 (done : Nat)) (.int .u64 (made : Nat)) (.slice A2 ds.length c2)
  have b2' := below_ten (b := w.heap.size) b2 (Nat.le_refl _) (.int .i64 pct) (.int .u64 (least : Nat)) (.int .u64 (live : Nat)) (.bool false) (.int .u64 (est : Nat)) (.int .u64 (room : Nat)) (.int .u64 (credit : Nat)) (.int .u64 (done : Nat)) (.int .u64 (made : Nat)) (.slice A2 ds.length c2)
  obtain ⟨x0, x1, x2, x3, x4, x5, x6, x7, x8, x9, xf⟩ := id t1
  obtain ⟨y0, y1, y2, y3, y4, y5, y6, y7, y8, y9, yf⟩ := id t0
  go_wp2
  exact bodyPost_ret (res_pp2 rfl rfl (t0'.all _ _ _ _ _ _ _ _ _ _)) rfl ⟨A2, c2, rfl, (oD'.ten (.inl (by omega)) _ _ _ _ _ _ _ _ _ _).mono (by omega), below_ten b2' (by omega) _ _ _ _ _ _ _ _ _ _⟩
set_option maxHeartbeats 4000000 in
theorem xpwork_big (hf : FitP p) (hr : Row w w.heap.size A p.ds) (hl : p.ds.length ≤ 17592186044416) (hs : Row w w.heap.size S l) (hsl : l.length ≤ 17592186044416) (who : Int) (hk : OkP p) (hw1 : -1 ≤ who) (hw2 : who < p.ds.length) (ho : p.on = true) (hm : ¬ AllM l) :
    Calls Try.prog 27 #[(.agg #[.int .i64 p.pct, .int .u64 (p.least : Nat), .int .u64 (p.live : Nat), .bool p.on, .int .u64 (p.est : Nat), .int .u64 (p.room : Nat), .int .u64 (p.credit : Nat), .int .u64 (p.done : Nat), .int .u64 (p.made : Nat), .slice A p.ds.length c]), .int .i64 who, .slice S l.length cl] w fun e w' => ∃ A' c', e = .returned (.tuple #[(.agg #[.int .i64 p.pct, .int .u64 (p.least : Nat), .int .u64 (p.live : Nat), .bool p.on, .int .u64 (p.est : Nat), .int .u64 (p.room : Nat), .int .u64 (p.credit : Nat), .int .u64 (p.done : Nat), .int .u64 (p.made : Nat), .slice A' p.ds.length c']), .int .i64 1]) ∧ OwnD w' w.heap.size A' c' (p).ds ∧ Below w.heap.size w w' := by
  have HT := Lib.hid fun (w : World) hr => xpcopy_any (w := w) (p := p) (A := A) c hr hl
  have HK := Lib.hid fun (w : World) hr => xpcheck_any (w := w) (p := p) (A := A) c hf hr 0 (.inl ⟨hk, rfl⟩)
  have hpos : 0 < p.ds.length := hk.len1
  have HM := Lib.hid hm
  clear hk hf hm
  obtain ⟨pct, least, live, on, est, room, credit, done, made, ds⟩ := p
  simp only at *
  subst ho
  have g1 : decide (who < -1) = false := by first | decide | (simp; omega) | simp
  have g2 : decide ((ds.length : Int) ≤ who) = false := by first | (simp; omega) | simp
  go_enter Try.func27, Try.ntmps27
  go_wp2_with fail
  go_at_call 18
  refine (HK.out _ (hr.later (by repeat (first | exact Below.refl _ _ | assumption | (refine below_drewN ?_ _) | (refine Below.drew ?_) | (refine Below.alloc ?_ (by first | omega | (simp; omega) | simp) _) | (refine Below.setCell ?_ (by first | omega | (simp; omega) | simp) _) | (refine below_trans ?_ (by assumption) (by first | omega | (simp; omega) | simp)))))).mono ?_
  rintro e w1 ⟨rfl, hb_w1⟩
  obtain ⟨hc_w1, hf_w1⟩ := bcell hb_w1; have hz_w1_w_0 : w.heap.size < w1.heap.size := (by have hzz := hb_w1.size; (try simp only [World.size_alloc, World.size_setCell, World.size_drew, World.heap_drewN] at hzz); omega); have hz_w1_w_1 : w.heap.size + 1 < w1.heap.size := (by have hzz := hb_w1.size; (try simp only [World.size_alloc, World.size_setCell, World.size_drew, World.heap_drewN] at hzz); omega); have hs_w1 := hb_w1.size; (try simp only [World.size_alloc, World.size_setCell, World.size_drew, World.heap_drewN] at hs_w1)
  have b1 : Below w.heap.size w w1 := (by repeat (first | exact Below.refl _ _ | assumption | (refine below_drewN ?_ _) | (refine Below.drew ?_) | (refine Below.alloc ?_ (by first | omega | (simp; omega) | simp) _) | (refine Below.setCell ?_ (by first | omega | (simp; omega) | simp) _) | (refine below_trans ?_ (by assumption) (by first | omega | (simp; omega) | simp))))
  have t0 := (Ten.new (w.alloc (.cells #[.int .i64 pct, .int .u64 (least : Nat), .int .u64 (live : Nat), .bool true, .int .u64 (est : Nat), .int .u64 (room : Nat), .int .u64 (credit : Nat), .int .u64 (done : Nat), .int .u64 (made : Nat), .slice A ds.length c] 25)) (.int .i64 0) (.int .u64 0) (.int .u64 0) (.bool false) (.int .u64 0) (.int .u64 0) (.int .u64 0) (.int .u64 0) (.int .u64 0) (.slice none 0 0) 25).later hb_w1
  have t1 := ((Ten.new w (.int .i64 pct) (.int .u64 (least : Nat)) (.int .u64 (live : Nat)) (.bool true) (.int .u64 (est : Nat)) (.int .u64 (room : Nat)) (.int .u64 (credit : Nat)) (.int .u64 (done : Nat)) (.int .u64 (made : Nat)) (.slice A ds.length c) 25).later ((Below.refl _ _).alloc (Nat.le_refl _) (.cells #[.int .i64 0, .int .u64 0, .int .u64 0, .bool false, .int .u64 0, .int .u64 0, .int .u64 0, .int .u64 0, .int .u64 0, .slice none 0 0] 25))).later hb_w1
  simp only [World.size_alloc] at t0 t1
  clear hc_w1 hf_w1
  obtain ⟨q0, q1, q2, q3, q4, q5, q6, q7, q8, q9, qf⟩ := id t1
  go_wp2_with fail
  go_at_call 19
  refine (HT.out _ ((hr.later b1).later (by repeat (first | exact Below.refl _ _ | assumption | (refine below_drewN ?_ _) | (refine Below.drew ?_) | (refine Below.alloc ?_ (by first | omega | (simp; omega) | simp) _) | (refine Below.setCell ?_ (by first | omega | (simp; omega) | simp) _) | (refine below_trans ?_ (by assumption) (by first | omega | (simp; omega) | simp)))))).mono ?_
  rintro e w2 ⟨A2, c2, rfl, oD, hb_w2⟩
  clear q0 q1 q2 q3 q4 q5 q6 q7 q8 q9 qf
  have t0 := t0.later hb_w2
  have t1 := t1.later hb_w2
  have s2 := hb_w2.size
  (try simp only [World.size_alloc] at oD s2)
  have b2 : Below w.heap.size w w2 := (by repeat (first | exact Below.refl _ _ | assumption | (refine below_drewN ?_ _) | (refine Below.drew ?_) | (refine Below.alloc ?_ (by first | omega | (simp; omega) | simp) _) | (refine Below.setCell ?_ (by first | omega | (simp; omega) | simp) _) | (refine below_trans ?_ (by assumption) (by first | omega | (simp; omega) | simp))))
  have t1' := t1.all (.int .i64 pct) (.int .u64 (least : Nat)) (.int .u64 (live : Nat)) (.bool true) (.int .u64 (est : Nat)) (.int .u64 (room : Nat)) (.int .u64 (credit : Nat)) (.int .u64 (done : Nat)) (.int .u64 (made : Nat)) (.slice A2 ds.length c2)
  have t0' := t0.over (g := w.heap.size) (by omega) (.int .i64 pct) (.int .u64 (least : Nat)) (.int .u64 (live : Nat)) (.bool true) (.int .u64 (est : Nat)) (.int .u64 (room : Nat)) (.int .u64 (credit : Nat)) (.int .u64 (done : Nat)) (.int .u64 (made : Nat)) (.slice A2 ds.length c2)
  have oD' := oD.ten (g := w.heap.size) (.inl (by first | omega | (simp; omega) | simp)) (.int .i64 pct) (.int .u64 (least : Nat)) (.int .u64 (live : Nat)) (.bool true) (.int .u64 (est : Nat)) (.int .u64 (room : Nat)) (.int .u64 (credit : Nat)) (.int .u64 (done : Nat)) (.int .u64 (made : Nat)) (.slice A2 ds.length c2)
  have b2' := below_ten (b := w.heap.size) b2 (Nat.le_refl _) (.int .i64 pct) (.int .u64 (least : Nat)) (.int .u64 (live : Nat)) (.bool true) (.int .u64 (est : Nat)) (.int .u64 (room : Nat)) (.int .u64 (credit : Nat)) (.int .u64 (done : Nat)) (.int .u64 (made : Nat)) (.slice A2 ds.length c2)
  obtain ⟨x0, x1, x2, x3, x4, x5, x6, x7, x8, x9, xf⟩ := id t1
  obtain ⟨y0, y1, y2, y3, y4, y5, y6, y7, y8, y9, yf⟩ := id t0
  go_wp2_with fail
  have sW := size_ten w.heap.size w2 (.int .i64 pct) (.int .u64 (least : Nat)) (.int .u64 (live : Nat)) (.bool true) (.int .u64 (est : Nat)) (.int .u64 (room : Nat)) (.int .u64 (credit : Nat)) (.int .u64 (done : Nat)) (.int .u64 (made : Nat)) (.slice A2 ds.length c2)
  generalize hW : ((((((((((w2.setCell ⟨w.heap.size, 0, none⟩ (.int .i64 pct)).setCell ⟨w.heap.size, 1, none⟩ (.int .u64 (least : Nat))).setCell ⟨w.heap.size, 2, none⟩ (.int .u64 (live : Nat))).setCell ⟨w.heap.size, 3, none⟩ (.bool true)).setCell ⟨w.heap.size, 4, none⟩ (.int .u64 (est : Nat))).setCell ⟨w.heap.size, 5, none⟩ (.int .u64 (room : Nat))).setCell ⟨w.heap.size, 6, none⟩ (.int .u64 (credit : Nat))).setCell ⟨w.heap.size, 7, none⟩ (.int .u64 (done : Nat))).setCell ⟨w.heap.size, 8, none⟩ (.int .u64 (made : Nat))).setCell ⟨w.heap.size, 9, none⟩ (.slice A2 ds.length c2)) = W at *
  obtain ⟨g, rfl, hBg, hgW, _⟩ := oD'.own.at_ hpos
  clear hW x0 x1 x2 x3 x4 x5 x6 x7 x8 x9 xf y0 y1 y2 y3 y4 y5 y6 y7 y8 y9 yf t0 t1 oD b1 b2 hb_w2
  have hcap := oD'.cap
  have wlt0 := t1'.lt
  have wlt1 := t0'.lt
  have hg2 : w.heap.size + 2 ≤ g := by omega
  have hg1 : g ≠ w.heap.size + 1 := by omega
  have hg0 : g ≠ w.heap.size := by omega
  go_loopw [35] (fun ii wr => ∃ k : Nat, ii = .int .i64 (k : Nat) ∧ k ≤ l.length ∧ Hid (∀ j, j < k → l.getD j 0 ≤ 1099511627776) ∧ wr = W) (fun ii _ => l.length - (intOf ii).toNat)
  case atStart => exact ⟨0, rfl, Nat.zero_le _, Lib.hid (fun j hj => by omega), rfl⟩
  case round =>
    obtain ⟨k, rfl, hkl, HB, rfl⟩ := hrel
    by_cases hlt : k < l.length
    · obtain ⟨sb, so, rfl, hsb, hcc⟩ := (hs.keep fun x o hx => b2'.cell (p := ⟨x, o, none⟩) hx).cellAt (k := k) hlt
      have i1 : (k : Int) < (l.length : Int) := by omega
      have i2 : (0 : Int) ≤ (k : Int) := by omega
      obtain ⟨x, hx⟩ : ∃ x, Hid (l.getD k 0 = x) := ⟨_, rfl⟩
      rw [hx.out] at hcc
      by_cases hM : 1099511627776 < x
      · have f8 : decide (1099511627776 < (x : Int)) = true := by simp; omega
        clear hM
        obtain ⟨m0, m1, m2, m3, m4, m5, m6, m7, m8, m9, mf⟩ := id t1'
        obtain ⟨n0, n1, n2, n3, n4, n5, n6, n7, n8, n9, nf⟩ := id t0'
        go_wp2
        exact bodyPost_ret (res_pp2 rfl rfl (t0'.all _ _ _ _ _ _ _ _ _ _)) rfl ⟨_, c2, rfl, (oD'.ten (.inl (by omega)) _ _ _ _ _ _ _ _ _ _).mono (by omega), below_ten b2' (by omega) _ _ _ _ _ _ _ _ _ _⟩
      have f8 : decide (1099511627776 < (x : Int)) = false := by simp; omega
      have hN : Hid (∀ j, j < k + 1 → l.getD j 0 ≤ 1099511627776) := Lib.hid fun j hj => (by
        by_cases e : j = k
        · rw [e, hx.out]; omega
        · exact HB.out j (by omega))
      go_wp2
      go_roundw
      case rel => exact ⟨k + 1, by go_num, by omega, hN, (by trivial)⟩
      case measure => simp [intOf]; omega
    · exfalso
      refine HM.out fun d hd => ?_
      obtain ⟨i, hi, rfl⟩ := List.getElem_of_mem hd
      have := HB.out i (by omega)
      rwa [getD_get _ _ hi] at this
set_option maxHeartbeats 4000000 in
theorem xpwork_okN (hf : FitP p) (hr : Row w w.heap.size A p.ds) (hl : p.ds.length ≤ 17592186044416) (hs : Row w w.heap.size S l) (hsl : l.length ≤ 17592186044416) (hk : OkP p) (ho : p.on = true) (hm : AllM l) :
    Calls Try.prog 27 #[(.agg #[.int .i64 p.pct, .int .u64 (p.least : Nat), .int .u64 (p.live : Nat), .bool p.on, .int .u64 (p.est : Nat), .int .u64 (p.room : Nat), .int .u64 (p.credit : Nat), .int .u64 (p.done : Nat), .int .u64 (p.made : Nat), .slice A p.ds.length c]), .int .i64 (-1), .slice S l.length cl] w fun e w' => ∃ A' c', e = .returned (.tuple #[(.agg #[.int .i64 (wrk (-1) p l).pct, .int .u64 ((wrk (-1) p l).least : Nat), .int .u64 ((wrk (-1) p l).live : Nat), .bool (wrk (-1) p l).on, .int .u64 ((wrk (-1) p l).est : Nat), .int .u64 ((wrk (-1) p l).room : Nat), .int .u64 ((wrk (-1) p l).credit : Nat), .int .u64 ((wrk (-1) p l).done : Nat), .int .u64 ((wrk (-1) p l).made : Nat), .slice A' (wrk (-1) p l).ds.length c']), .int .i64 0]) ∧ OwnD w' w.heap.size A' c' ((wrk (-1) p l)).ds ∧ Below w.heap.size w w' := by
  have HT := Lib.hid fun (w : World) hr => xpcopy_any (w := w) (p := p) (A := A) c hr hl
  have HK := Lib.hid fun (w : World) hr => xpcheck_any (w := w) (p := p) (A := A) c hf hr 0 (.inl ⟨hk, rfl⟩)
  have hpos : 0 < p.ds.length := hk.len1
  have HM := Lib.hid hm
  have HWx : Hid (∀ k, OkP (wrk (-1) p (l.take k))) := Lib.hid fun k => (wrk_ok hk ho (-1) _).1
  have HDLx : Hid (∀ k, (wrk (-1) p (l.take k)).ds.length = p.ds.length) := Lib.hid fun k => (wrk_ok hk ho (-1) _).2.2
  have HNx : Hid (∀ k, k < l.length → wrk (-1) p (l.take (k + 1)) = wrkN (wrk (-1) p (l.take k)) (l.getD k 0)) := Lib.hid fun k h => by
    rw [wrk_take h]; rfl
  have HEx : Hid (wrk (-1) p (l.take l.length) = wrk (-1) p l) := Lib.hid (by rw [take_all])
  have HQLx : Hid ((wrk (-1) p l).ds.length = p.ds.length) := Lib.hid (wrk_ok hk ho (-1) _).2.2
  have H0x : Hid (wrk (-1) p (l.take 0) = p) := Lib.hid rfl
  obtain ⟨qk, hqk⟩ : ∃ qk : Nat → Pc, Hid (∀ k, wrk (-1) p (l.take k) = qk k) := ⟨_, Lib.hid fun _ => rfl⟩
  obtain ⟨qf, hqf⟩ : ∃ qf, Hid (wrk (-1) p l = qf) := ⟨_, Lib.hid rfl⟩
  have HW : Hid (∀ k, OkP (qk k)) := Lib.hid fun k => by rw [← hqk.out]; exact HWx.out k
  have HDL : Hid (∀ k, (qk k).ds.length = p.ds.length) := Lib.hid fun k => by rw [← hqk.out]; exact HDLx.out k
  have HN : Hid (∀ k, k < l.length → qk (k + 1) = wrkN (qk k) (l.getD k 0)) := Lib.hid fun k h => by rw [← hqk.out, HNx.out k h, hqk.out]
  have HE : Hid (qk l.length = qf) := Lib.hid (by rw [← hqk.out, HEx.out, hqf.out])
  have HQL : Hid (qf.ds.length = p.ds.length) := Lib.hid (by rw [← hqf.out]; exact HQLx.out)
  have H0 : Hid (qk 0 = p) := Lib.hid ((hqk.out 0).symm.trans H0x.out)
  rw [hqf.out]
  clear hk hf hm hqk hqf HWx HDLx HNx HEx HQLx H0x
  obtain ⟨pct, least, live, on, est, room, credit, done, made, ds⟩ := p
  simp only at *
  subst ho
  have g1 : decide ((-1 : Int) < -1) = false := by first | decide | (simp; omega) | simp
  have g2 : decide ((ds.length : Int) ≤ (-1 : Int)) = false := by first | (simp; omega) | simp
  go_enter Try.func27, Try.ntmps27
  go_wp2_with fail
  go_at_call 18
  refine (HK.out _ (hr.later (by repeat (first | exact Below.refl _ _ | assumption | (refine below_drewN ?_ _) | (refine Below.drew ?_) | (refine Below.alloc ?_ (by first | omega | (simp; omega) | simp) _) | (refine Below.setCell ?_ (by first | omega | (simp; omega) | simp) _) | (refine below_trans ?_ (by assumption) (by first | omega | (simp; omega) | simp)))))).mono ?_
  rintro e w1 ⟨rfl, hb_w1⟩
  obtain ⟨hc_w1, hf_w1⟩ := bcell hb_w1; have hz_w1_w_0 : w.heap.size < w1.heap.size := (by have hzz := hb_w1.size; (try simp only [World.size_alloc, World.size_setCell, World.size_drew, World.heap_drewN] at hzz); omega); have hz_w1_w_1 : w.heap.size + 1 < w1.heap.size := (by have hzz := hb_w1.size; (try simp only [World.size_alloc, World.size_setCell, World.size_drew, World.heap_drewN] at hzz); omega); have hs_w1 := hb_w1.size; (try simp only [World.size_alloc, World.size_setCell, World.size_drew, World.heap_drewN] at hs_w1)
  have b1 : Below w.heap.size w w1 := (by repeat (first | exact Below.refl _ _ | assumption | (refine below_drewN ?_ _) | (refine Below.drew ?_) | (refine Below.alloc ?_ (by first | omega | (simp; omega) | simp) _) | (refine Below.setCell ?_ (by first | omega | (simp; omega) | simp) _) | (refine below_trans ?_ (by assumption) (by first | omega | (simp; omega) | simp))))
  have t0 := (Ten.new (w.alloc (.cells #[.int .i64 pct, .int .u64 (least : Nat), .int .u64 (live : Nat), .bool true, .int .u64 (est : Nat), .int .u64 (room : Nat), .int .u64 (credit : Nat), .int .u64 (done : Nat), .int .u64 (made : Nat), .slice A ds.length c] 25)) (.int .i64 0) (.int .u64 0) (.int .u64 0) (.bool false) (.int .u64 0) (.int .u64 0) (.int .u64 0) (.int .u64 0) (.int .u64 0) (.slice none 0 0) 25).later hb_w1
  have t1 := ((Ten.new w (.int .i64 pct) (.int .u64 (least : Nat)) (.int .u64 (live : Nat)) (.bool true) (.int .u64 (est : Nat)) (.int .u64 (room : Nat)) (.int .u64 (credit : Nat)) (.int .u64 (done : Nat)) (.int .u64 (made : Nat)) (.slice A ds.length c) 25).later ((Below.refl _ _).alloc (Nat.le_refl _) (.cells #[.int .i64 0, .int .u64 0, .int .u64 0, .bool false, .int .u64 0, .int .u64 0, .int .u64 0, .int .u64 0, .int .u64 0, .slice none 0 0] 25))).later hb_w1
  simp only [World.size_alloc] at t0 t1
  clear hc_w1 hf_w1
  obtain ⟨q0, q1, q2, q3, q4, q5, q6, q7, q8, q9, qf⟩ := id t1
  go_wp2_with fail
  go_at_call 19
  refine (HT.out _ ((hr.later b1).later (by repeat (first | exact Below.refl _ _ | assumption | (refine below_drewN ?_ _) | (refine Below.drew ?_) | (refine Below.alloc ?_ (by first | omega | (simp; omega) | simp) _) | (refine Below.setCell ?_ (by first | omega | (simp; omega) | simp) _) | (refine below_trans ?_ (by assumption) (by first | omega | (simp; omega) | simp)))))).mono ?_
  rintro e w2 ⟨A2, c2, rfl, oD, hb_w2⟩
  clear q0 q1 q2 q3 q4 q5 q6 q7 q8 q9 qf
  have t0 := t0.later hb_w2
  have t1 := t1.later hb_w2
  have s2 := hb_w2.size
  (try simp only [World.size_alloc] at oD s2)
  have b2 : Below w.heap.size w w2 := (by repeat (first | exact Below.refl _ _ | assumption | (refine below_drewN ?_ _) | (refine Below.drew ?_) | (refine Below.alloc ?_ (by first | omega | (simp; omega) | simp) _) | (refine Below.setCell ?_ (by first | omega | (simp; omega) | simp) _) | (refine below_trans ?_ (by assumption) (by first | omega | (simp; omega) | simp))))
  have t1' := t1.all (.int .i64 pct) (.int .u64 (least : Nat)) (.int .u64 (live : Nat)) (.bool true) (.int .u64 (est : Nat)) (.int .u64 (room : Nat)) (.int .u64 (credit : Nat)) (.int .u64 (done : Nat)) (.int .u64 (made : Nat)) (.slice A2 ds.length c2)
  have t0' := t0.over (g := w.heap.size) (by omega) (.int .i64 pct) (.int .u64 (least : Nat)) (.int .u64 (live : Nat)) (.bool true) (.int .u64 (est : Nat)) (.int .u64 (room : Nat)) (.int .u64 (credit : Nat)) (.int .u64 (done : Nat)) (.int .u64 (made : Nat)) (.slice A2 ds.length c2)
  have oD' := oD.ten (g := w.heap.size) (.inl (by first | omega | (simp; omega) | simp)) (.int .i64 pct) (.int .u64 (least : Nat)) (.int .u64 (live : Nat)) (.bool true) (.int .u64 (est : Nat)) (.int .u64 (room : Nat)) (.int .u64 (credit : Nat)) (.int .u64 (done : Nat)) (.int .u64 (made : Nat)) (.slice A2 ds.length c2)
  have b2' := below_ten (b := w.heap.size) b2 (Nat.le_refl _) (.int .i64 pct) (.int .u64 (least : Nat)) (.int .u64 (live : Nat)) (.bool true) (.int .u64 (est : Nat)) (.int .u64 (room : Nat)) (.int .u64 (credit : Nat)) (.int .u64 (done : Nat)) (.int .u64 (made : Nat)) (.slice A2 ds.length c2)
  obtain ⟨x0, x1, x2, x3, x4, x5, x6, x7, x8, x9, xf⟩ := id t1
  obtain ⟨y0, y1, y2, y3, y4, y5, y6, y7, y8, y9, yf⟩ := id t0
  go_wp2_with fail
  have sW := size_ten w.heap.size w2 (.int .i64 pct) (.int .u64 (least : Nat)) (.int .u64 (live : Nat)) (.bool true) (.int .u64 (est : Nat)) (.int .u64 (room : Nat)) (.int .u64 (credit : Nat)) (.int .u64 (done : Nat)) (.int .u64 (made : Nat)) (.slice A2 ds.length c2)
  generalize hW : ((((((((((w2.setCell ⟨w.heap.size, 0, none⟩ (.int .i64 pct)).setCell ⟨w.heap.size, 1, none⟩ (.int .u64 (least : Nat))).setCell ⟨w.heap.size, 2, none⟩ (.int .u64 (live : Nat))).setCell ⟨w.heap.size, 3, none⟩ (.bool true)).setCell ⟨w.heap.size, 4, none⟩ (.int .u64 (est : Nat))).setCell ⟨w.heap.size, 5, none⟩ (.int .u64 (room : Nat))).setCell ⟨w.heap.size, 6, none⟩ (.int .u64 (credit : Nat))).setCell ⟨w.heap.size, 7, none⟩ (.int .u64 (done : Nat))).setCell ⟨w.heap.size, 8, none⟩ (.int .u64 (made : Nat))).setCell ⟨w.heap.size, 9, none⟩ (.slice A2 ds.length c2)) = W at *
  obtain ⟨g, rfl, hBg, hgW, _⟩ := oD'.own.at_ hpos
  clear hW x0 x1 x2 x3 x4 x5 x6 x7 x8 x9 xf y0 y1 y2 y3 y4 y5 y6 y7 y8 y9 yf t0 t1 oD b1 b2 hb_w2
  have hcap := oD'.cap
  have wlt0 := t1'.lt
  have wlt1 := t0'.lt
  have hg2 : w.heap.size + 2 ≤ g := by omega
  have hg1 : g ≠ w.heap.size + 1 := by omega
  have hg0 : g ≠ w.heap.size := by omega
  have HP : Hid (PBox W w.heap.size ⟨pct, least, live, true, est, room, credit, done, made, ds⟩ (some ⟨g, 0, none⟩) c2) := Lib.hid t1'
  go_loopw [35] (fun ii wr => ∃ k : Nat, ii = .int .i64 (k : Nat) ∧ k ≤ l.length ∧ Hid (∀ j, j < k → l.getD j 0 ≤ 1099511627776) ∧ wr = W) (fun ii _ => l.length - (intOf ii).toNat)
  case atStart => exact ⟨0, rfl, Nat.zero_le _, Lib.hid (fun j hj => by omega), rfl⟩
  case round =>
    obtain ⟨k, rfl, hkl, HB, rfl⟩ := hrel
    by_cases hlt : k < l.length
    · obtain ⟨sb, so, rfl, hsb, hcc⟩ := (hs.keep fun x o hx => b2'.cell (p := ⟨x, o, none⟩) hx).cellAt (k := k) hlt
      have i1 : (k : Int) < (l.length : Int) := by omega
      have i2 : (0 : Int) ≤ (k : Int) := by omega
      obtain ⟨x, hx⟩ : ∃ x, Hid (l.getD k 0 = x) := ⟨_, rfl⟩
      rw [hx.out] at hcc
      have hM : x ≤ 1099511627776 := by rw [← hx.out, getD_get _ _ hlt]; exact HM.out _ (List.getElem_mem hlt)
      have f8 : decide (1099511627776 < (x : Int)) = false := by simp; omega
      have hN : Hid (∀ j, j < k + 1 → l.getD j 0 ≤ 1099511627776) := Lib.hid fun j hj => (by
        by_cases e : j = k
        · rw [e, hx.out]; omega
        · exact HB.out j (by omega))
      go_wp2
      go_roundw
      case rel => exact ⟨k + 1, by go_num, by omega, hN, (by trivial)⟩
      case measure => simp [intOf]; omega
    · obtain rfl : k = l.length := by omega
      clear HB hkl hlt
      generalize wr = W at *
      go_wp2_with fail
      go_loopw [45] (fun ii wr => ∃ k : Nat, ii = .int .i64 (k : Nat) ∧ k ≤ l.length ∧ Hid (PBox wr w.heap.size (qk k) (some ⟨g, 0, none⟩) c2) ∧ Hid (Off w.heap.size g W wr) ∧ Hid (Own wr (w.heap.size + 2) (some ⟨g, 0, none⟩) (qk k).ds)) (fun ii _ => l.length - (intOf ii).toNat)
      case atStart => exact ⟨0, rfl, Nat.zero_le _, Lib.hid (by rw [H0.out]; exact HP.out), Lib.hid (Off.refl _ _ _), Lib.hid (by rw [H0.out]; exact oD'.own.mono (by omega))⟩
      case round =>
        obtain ⟨k, rfl, hkl, HB, HF, HOW⟩ := hrel
        have hbr := HF.out.below w.heap.size (Nat.le_refl _) (by omega) (by omega)
        by_cases hlt : k < l.length
        · obtain ⟨sb, so, rfl, hsb, hcc⟩ := (hs.keep fun x o hx => (b2'.trans hbr).cell (p := ⟨x, o, none⟩) hx).cellAt (k := k) hlt
          have i1 : (k : Int) < (l.length : Int) := by omega
          have i2 : (0 : Int) ≤ (k : Int) := by omega
          have hnm : l.getD k 0 ≤ 1099511627776 := by rw [getD_get _ _ hlt]; exact HM.out _ (List.getElem_mem hlt)
          have HN' := Lib.hid (HN.out k hlt)
          have hq := HW.out k
          have hql := HDL.out k
          obtain ⟨q, hqe⟩ : ∃ q, Hid (qk k = q) := ⟨_, rfl⟩
          rw [hqe.out] at HB HN' hq HOW hql
          generalize l.getD k 0 = n at *
          have hd := hq.done; have hcr := hq.credit
          have HC1 := Lib.hid fun (w : World) => xpsum_any (x := (q.done : Int)) (y := (n : Int)) (a := q.done) (b := n) w rfl rfl hd hnm
          have HC2 := Lib.hid fun (w : World) => xpsum_any (x := (q.credit : Int)) (y := (n : Int)) (a := q.credit) (b := n) w rfl rfl hcr hnm
          have j1 : decide ((0 : Int) ≤ -1) = false := by simp
          have hT := HB.out
          unfold PBox at hT
          clear hq hbr
          have hsbb : sb ≠ w.heap.size := by omega
          have hlt2 := hT.lt
          obtain ⟨m0, m1, m2, m3, m4, m5, m6, m7, m8, m9, mf⟩ := id hT
          go_wp2_with fail
          go_at_call 38
          refine (HC1.out _).mono ?_
          rintro e w3 ⟨rfl, rfl⟩
          go_wp2_with fail
          go_at_call 38
          refine (HC2.out _).mono ?_
          rintro e w4 ⟨rfl, rfl⟩
          go_wp2
          go_roundw
          case rel => exact ⟨k + 1, by go_num, by omega, Lib.hid (by rw [HN'.out]; exact (hT.set7 _).set6 _), Lib.hid ((HF.out.trans (Off.set ⟨w.heap.size, 7, none⟩ (.inl rfl) _)).trans (Off.set ⟨w.heap.size, 6, none⟩ (.inl rfl) _)), Lib.hid (by rw [HN'.out]; exact (HOW.out.off rfl (p := ⟨w.heap.size, 7, none⟩) (show w.heap.size ≠ g by omega) _).off rfl (p := ⟨w.heap.size, 6, none⟩) (show w.heap.size ≠ g by omega) _)⟩
          case measure => simp [intOf]; omega
        · obtain rfl : k = l.length := by omega
          have hF0 := HF.out
          have r0 := t0'.off hF0 (by omega) (by omega)
          have hT := HB.out
          unfold PBox at hT
          have O5 := HOW.out
          rw [HE.out] at hT O5
          have s5 := hF0.size
          have b5 := b2'.trans hbr
          have hlt5 := hT.lt
          have hlt6 := r0.lt
          clear t0' t1'
          obtain ⟨m0, m1, m2, m3, m4, m5, m6, m7, m8, m9, mf⟩ := id hT
          obtain ⟨n0, n1, n2, n3, n4, n5, n6, n7, n8, n9, nf⟩ := id r0
          have hlen := HQL.out
          have HLL := Lib.hid hlen
          clear hlen
          go_wp2
          exact bodyPost_ret (res_pp2 rfl rfl (r0.all _ _ _ _ _ _ _ _ _ _)) rfl ⟨some ⟨g, 0, none⟩, c2, rfl, ⟨(own_ten O5 (.inl (by omega)) _ _ _ _ _ _ _ _ _ _).mono (by omega), by have := HLL.out; omega, fun e => (by cases e)⟩, below_ten b5 (by omega) _ _ _ _ _ _ _ _ _ _⟩
set_option maxHeartbeats 4000000 in
theorem xpwork_okK (hf : FitP p) (hr : Row w w.heap.size A p.ds) (hl : p.ds.length ≤ 17592186044416) (hs : Row w w.heap.size S l) (hsl : l.length ≤ 17592186044416) (hk : OkP p) (ho : p.on = true) (hm : AllM l) (m : Nat) (hml : m < p.ds.length) :
    Calls Try.prog 27 #[(.agg #[.int .i64 p.pct, .int .u64 (p.least : Nat), .int .u64 (p.live : Nat), .bool p.on, .int .u64 (p.est : Nat), .int .u64 (p.room : Nat), .int .u64 (p.credit : Nat), .int .u64 (p.done : Nat), .int .u64 (p.made : Nat), .slice A p.ds.length c]), .int .i64 (m : Nat), .slice S l.length cl] w fun e w' => ∃ A' c', e = .returned (.tuple #[(.agg #[.int .i64 (wrk (m : Int) p l).pct, .int .u64 ((wrk (m : Int) p l).least : Nat), .int .u64 ((wrk (m : Int) p l).live : Nat), .bool (wrk (m : Int) p l).on, .int .u64 ((wrk (m : Int) p l).est : Nat), .int .u64 ((wrk (m : Int) p l).room : Nat), .int .u64 ((wrk (m : Int) p l).credit : Nat), .int .u64 ((wrk (m : Int) p l).done : Nat), .int .u64 ((wrk (m : Int) p l).made : Nat), .slice A' (wrk (m : Int) p l).ds.length c']), .int .i64 0]) ∧ OwnD w' w.heap.size A' c' ((wrk (m : Int) p l)).ds ∧ Below w.heap.size w w' := by
  have HT := Lib.hid fun (w : World) hr => xpcopy_any (w := w) (p := p) (A := A) c hr hl
  have HK := Lib.hid fun (w : World) hr => xpcheck_any (w := w) (p := p) (A := A) c hf hr 0 (.inl ⟨hk, rfl⟩)
  have hpos : 0 < p.ds.length := hk.len1
  have HM := Lib.hid hm
  have HWx : Hid (∀ k, OkP (wrk (m : Int) p (l.take k))) := Lib.hid fun k => (wrk_ok hk ho (m : Int) _).1
  have HDLx : Hid (∀ k, (wrk (m : Int) p (l.take k)).ds.length = p.ds.length) := Lib.hid fun k => (wrk_ok hk ho (m : Int) _).2.2
  have HNx : Hid (∀ k, k < l.length → wrk (m : Int) p (l.take (k + 1)) = wrkK (wrk (m : Int) p (l.take k)) m (l.getD k 0)) := Lib.hid fun k h => by
    rw [wrk_take h]; unfold wrk1; rw [if_neg (by omega)]; simp
  have HEx : Hid (wrk (m : Int) p (l.take l.length) = wrk (m : Int) p l) := Lib.hid (by rw [take_all])
  have HQLx : Hid ((wrk (m : Int) p l).ds.length = p.ds.length) := Lib.hid (wrk_ok hk ho (m : Int) _).2.2
  have H0x : Hid (wrk (m : Int) p (l.take 0) = p) := Lib.hid rfl
  obtain ⟨qk, hqk⟩ : ∃ qk : Nat → Pc, Hid (∀ k, wrk (m : Int) p (l.take k) = qk k) := ⟨_, Lib.hid fun _ => rfl⟩
  obtain ⟨qf, hqf⟩ : ∃ qf, Hid (wrk (m : Int) p l = qf) := ⟨_, Lib.hid rfl⟩
  have HW : Hid (∀ k, OkP (qk k)) := Lib.hid fun k => by rw [← hqk.out]; exact HWx.out k
  have HDL : Hid (∀ k, (qk k).ds.length = p.ds.length) := Lib.hid fun k => by rw [← hqk.out]; exact HDLx.out k
  have HN : Hid (∀ k, k < l.length → qk (k + 1) = wrkK (qk k) m (l.getD k 0)) := Lib.hid fun k h => by rw [← hqk.out, HNx.out k h, hqk.out]
  have HE : Hid (qk l.length = qf) := Lib.hid (by rw [← hqk.out, HEx.out, hqf.out])
  have HQL : Hid (qf.ds.length = p.ds.length) := Lib.hid (by rw [← hqf.out]; exact HQLx.out)
  have H0 : Hid (qk 0 = p) := Lib.hid ((hqk.out 0).symm.trans H0x.out)
  rw [hqf.out]
  clear hk hf hm hqk hqf HWx HDLx HNx HEx HQLx H0x
  obtain ⟨pct, least, live, on, est, room, credit, done, made, ds⟩ := p
  simp only at *
  subst ho
  have g1 : decide ((m : Int) < -1) = false := by first | decide | (simp; omega) | simp
  have g2 : decide ((ds.length : Int) ≤ (m : Int)) = false := by first | (simp; omega) | simp
  have g3 : decide (ds.length ≤ m) = false := by simp; omega
  go_enter Try.func27, Try.ntmps27
  go_wp2_with fail
  go_at_call 18
  refine (HK.out _ (hr.later (by repeat (first | exact Below.refl _ _ | assumption | (refine below_drewN ?_ _) | (refine Below.drew ?_) | (refine Below.alloc ?_ (by first | omega | (simp; omega) | simp) _) | (refine Below.setCell ?_ (by first | omega | (simp; omega) | simp) _) | (refine below_trans ?_ (by assumption) (by first | omega | (simp; omega) | simp)))))).mono ?_
  rintro e w1 ⟨rfl, hb_w1⟩
  obtain ⟨hc_w1, hf_w1⟩ := bcell hb_w1; have hz_w1_w_0 : w.heap.size < w1.heap.size := (by have hzz := hb_w1.size; (try simp only [World.size_alloc, World.size_setCell, World.size_drew, World.heap_drewN] at hzz); omega); have hz_w1_w_1 : w.heap.size + 1 < w1.heap.size := (by have hzz := hb_w1.size; (try simp only [World.size_alloc, World.size_setCell, World.size_drew, World.heap_drewN] at hzz); omega); have hs_w1 := hb_w1.size; (try simp only [World.size_alloc, World.size_setCell, World.size_drew, World.heap_drewN] at hs_w1)
  have b1 : Below w.heap.size w w1 := (by repeat (first | exact Below.refl _ _ | assumption | (refine below_drewN ?_ _) | (refine Below.drew ?_) | (refine Below.alloc ?_ (by first | omega | (simp; omega) | simp) _) | (refine Below.setCell ?_ (by first | omega | (simp; omega) | simp) _) | (refine below_trans ?_ (by assumption) (by first | omega | (simp; omega) | simp))))
  have t0 := (Ten.new (w.alloc (.cells #[.int .i64 pct, .int .u64 (least : Nat), .int .u64 (live : Nat), .bool true, .int .u64 (est : Nat), .int .u64 (room : Nat), .int .u64 (credit : Nat), .int .u64 (done : Nat), .int .u64 (made : Nat), .slice A ds.length c] 25)) (.int .i64 0) (.int .u64 0) (.int .u64 0) (.bool false) (.int .u64 0) (.int .u64 0) (.int .u64 0) (.int .u64 0) (.int .u64 0) (.slice none 0 0) 25).later hb_w1
  have t1 := ((Ten.new w (.int .i64 pct) (.int .u64 (least : Nat)) (.int .u64 (live : Nat)) (.bool true) (.int .u64 (est : Nat)) (.int .u64 (room : Nat)) (.int .u64 (credit : Nat)) (.int .u64 (done : Nat)) (.int .u64 (made : Nat)) (.slice A ds.length c) 25).later ((Below.refl _ _).alloc (Nat.le_refl _) (.cells #[.int .i64 0, .int .u64 0, .int .u64 0, .bool false, .int .u64 0, .int .u64 0, .int .u64 0, .int .u64 0, .int .u64 0, .slice none 0 0] 25))).later hb_w1
  simp only [World.size_alloc] at t0 t1
  clear hc_w1 hf_w1
  obtain ⟨q0, q1, q2, q3, q4, q5, q6, q7, q8, q9, qf⟩ := id t1
  go_wp2_with fail
  go_at_call 19
  refine (HT.out _ ((hr.later b1).later (by repeat (first | exact Below.refl _ _ | assumption | (refine below_drewN ?_ _) | (refine Below.drew ?_) | (refine Below.alloc ?_ (by first | omega | (simp; omega) | simp) _) | (refine Below.setCell ?_ (by first | omega | (simp; omega) | simp) _) | (refine below_trans ?_ (by assumption) (by first | omega | (simp; omega) | simp)))))).mono ?_
  rintro e w2 ⟨A2, c2, rfl, oD, hb_w2⟩
  clear q0 q1 q2 q3 q4 q5 q6 q7 q8 q9 qf
  have t0 := t0.later hb_w2
  have t1 := t1.later hb_w2
  have s2 := hb_w2.size
  (try simp only [World.size_alloc] at oD s2)
  have b2 : Below w.heap.size w w2 := (by repeat (first | exact Below.refl _ _ | assumption | (refine below_drewN ?_ _) | (refine Below.drew ?_) | (refine Below.alloc ?_ (by first | omega | (simp; omega) | simp) _) | (refine Below.setCell ?_ (by first | omega | (simp; omega) | simp) _) | (refine below_trans ?_ (by assumption) (by first | omega | (simp; omega) | simp))))
  have t1' := t1.all (.int .i64 pct) (.int .u64 (least : Nat)) (.int .u64 (live : Nat)) (.bool true) (.int .u64 (est : Nat)) (.int .u64 (room : Nat)) (.int .u64 (credit : Nat)) (.int .u64 (done : Nat)) (.int .u64 (made : Nat)) (.slice A2 ds.length c2)
  have t0' := t0.over (g := w.heap.size) (by omega) (.int .i64 pct) (.int .u64 (least : Nat)) (.int .u64 (live : Nat)) (.bool true) (.int .u64 (est : Nat)) (.int .u64 (room : Nat)) (.int .u64 (credit : Nat)) (.int .u64 (done : Nat)) (.int .u64 (made : Nat)) (.slice A2 ds.length c2)
  have oD' := oD.ten (g := w.heap.size) (.inl (by first | omega | (simp; omega) | simp)) (.int .i64 pct) (.int .u64 (least : Nat)) (.int .u64 (live : Nat)) (.bool true) (.int .u64 (est : Nat)) (.int .u64 (room : Nat)) (.int .u64 (credit : Nat)) (.int .u64 (done : Nat)) (.int .u64 (made : Nat)) (.slice A2 ds.length c2)
  have b2' := below_ten (b := w.heap.size) b2 (Nat.le_refl _) (.int .i64 pct) (.int .u64 (least : Nat)) (.int .u64 (live : Nat)) (.bool true) (.int .u64 (est : Nat)) (.int .u64 (room : Nat)) (.int .u64 (credit : Nat)) (.int .u64 (done : Nat)) (.int .u64 (made : Nat)) (.slice A2 ds.length c2)
  obtain ⟨x0, x1, x2, x3, x4, x5, x6, x7, x8, x9, xf⟩ := id t1
  obtain ⟨y0, y1, y2, y3, y4, y5, y6, y7, y8, y9, yf⟩ := id t0
  go_wp2_with fail
  have sW := size_ten w.heap.size w2 (.int .i64 pct) (.int .u64 (least : Nat)) (.int .u64 (live : Nat)) (.bool true) (.int .u64 (est : Nat)) (.int .u64 (room : Nat)) (.int .u64 (credit : Nat)) (.int .u64 (done : Nat)) (.int .u64 (made : Nat)) (.slice A2 ds.length c2)
  generalize hW : ((((((((((w2.setCell ⟨w.heap.size, 0, none⟩ (.int .i64 pct)).setCell ⟨w.heap.size, 1, none⟩ (.int .u64 (least : Nat))).setCell ⟨w.heap.size, 2, none⟩ (.int .u64 (live : Nat))).setCell ⟨w.heap.size, 3, none⟩ (.bool true)).setCell ⟨w.heap.size, 4, none⟩ (.int .u64 (est : Nat))).setCell ⟨w.heap.size, 5, none⟩ (.int .u64 (room : Nat))).setCell ⟨w.heap.size, 6, none⟩ (.int .u64 (credit : Nat))).setCell ⟨w.heap.size, 7, none⟩ (.int .u64 (done : Nat))).setCell ⟨w.heap.size, 8, none⟩ (.int .u64 (made : Nat))).setCell ⟨w.heap.size, 9, none⟩ (.slice A2 ds.length c2)) = W at *
  obtain ⟨g, rfl, hBg, hgW, _⟩ := oD'.own.at_ hpos
  clear hW x0 x1 x2 x3 x4 x5 x6 x7 x8 x9 xf y0 y1 y2 y3 y4 y5 y6 y7 y8 y9 yf t0 t1 oD b1 b2 hb_w2
  have hcap := oD'.cap
  have wlt0 := t1'.lt
  have wlt1 := t0'.lt
  have hg2 : w.heap.size + 2 ≤ g := by omega
  have hg1 : g ≠ w.heap.size + 1 := by omega
  have hg0 : g ≠ w.heap.size := by omega
  have HP : Hid (PBox W w.heap.size ⟨pct, least, live, true, est, room, credit, done, made, ds⟩ (some ⟨g, 0, none⟩) c2) := Lib.hid t1'
  go_loopw [35] (fun ii wr => ∃ k : Nat, ii = .int .i64 (k : Nat) ∧ k ≤ l.length ∧ Hid (∀ j, j < k → l.getD j 0 ≤ 1099511627776) ∧ wr = W) (fun ii _ => l.length - (intOf ii).toNat)
  case atStart => exact ⟨0, rfl, Nat.zero_le _, Lib.hid (fun j hj => by omega), rfl⟩
  case round =>
    obtain ⟨k, rfl, hkl, HB, rfl⟩ := hrel
    by_cases hlt : k < l.length
    · obtain ⟨sb, so, rfl, hsb, hcc⟩ := (hs.keep fun x o hx => b2'.cell (p := ⟨x, o, none⟩) hx).cellAt (k := k) hlt
      have i1 : (k : Int) < (l.length : Int) := by omega
      have i2 : (0 : Int) ≤ (k : Int) := by omega
      obtain ⟨x, hx⟩ : ∃ x, Hid (l.getD k 0 = x) := ⟨_, rfl⟩
      rw [hx.out] at hcc
      have hM : x ≤ 1099511627776 := by rw [← hx.out, getD_get _ _ hlt]; exact HM.out _ (List.getElem_mem hlt)
      have f8 : decide (1099511627776 < (x : Int)) = false := by simp; omega
      have hN : Hid (∀ j, j < k + 1 → l.getD j 0 ≤ 1099511627776) := Lib.hid fun j hj => (by
        by_cases e : j = k
        · rw [e, hx.out]; omega
        · exact HB.out j (by omega))
      go_wp2
      go_roundw
      case rel => exact ⟨k + 1, by go_num, by omega, hN, (by trivial)⟩
      case measure => simp [intOf]; omega
    · obtain rfl : k = l.length := by omega
      clear HB hkl hlt
      generalize wr = W at *
      go_wp2_with fail
      go_loopw [45] (fun ii wr => ∃ k : Nat, ii = .int .i64 (k : Nat) ∧ k ≤ l.length ∧ Hid (PBox wr w.heap.size (qk k) (some ⟨g, 0, none⟩) c2) ∧ Hid (Off w.heap.size g W wr) ∧ Hid (Own wr (w.heap.size + 2) (some ⟨g, 0, none⟩) (qk k).ds)) (fun ii _ => l.length - (intOf ii).toNat)
      case atStart => exact ⟨0, rfl, Nat.zero_le _, Lib.hid (by rw [H0.out]; exact HP.out), Lib.hid (Off.refl _ _ _), Lib.hid (by rw [H0.out]; exact oD'.own.mono (by omega))⟩
      case round =>
        obtain ⟨k, rfl, hkl, HB, HF, HOW⟩ := hrel
        have hbr := HF.out.below w.heap.size (Nat.le_refl _) (by omega) (by omega)
        by_cases hlt : k < l.length
        · obtain ⟨sb, so, rfl, hsb, hcc⟩ := (hs.keep fun x o hx => (b2'.trans hbr).cell (p := ⟨x, o, none⟩) hx).cellAt (k := k) hlt
          have i1 : (k : Int) < (l.length : Int) := by omega
          have i2 : (0 : Int) ≤ (k : Int) := by omega
          have hnm : l.getD k 0 ≤ 1099511627776 := by rw [getD_get _ _ hlt]; exact HM.out _ (List.getElem_mem hlt)
          have HN' := Lib.hid (HN.out k hlt)
          have hq := HW.out k
          have hql := HDL.out k
          obtain ⟨q, hqe⟩ : ∃ q, Hid (qk k = q) := ⟨_, rfl⟩
          rw [hqe.out] at HB HN' hq HOW hql
          generalize l.getD k 0 = n at *
          have hd := hq.done; have hcr := hq.credit
          have HC1 := Lib.hid fun (w : World) => xpsum_any (x := (q.done : Int)) (y := (n : Int)) (a := q.done) (b := n) w rfl rfl hd hnm
          have HO2 := HOW.out
          obtain ⟨g', e1, _, hgw, hgc⟩ := HO2.at_ (by omega)
          obtain rfl : g = g' := by injection e1 with e1; injection e1
          obtain ⟨k0, kf⟩ := hgc m (by omega)
          have hdm : q.ds.getD m 0 ≤ 1099511627776 := by rw [getD_get _ _ (by omega)]; exact hq.ds _ (List.getElem_mem _)
          obtain ⟨d, hd2⟩ : ∃ d, Hid (q.ds.getD m 0 = d) := ⟨_, rfl⟩
          rw [hd2.out] at k0 hdm
          obtain ⟨P, hP⟩ : ∃ P, min n d = P := ⟨_, rfl⟩
          obtain ⟨E, hE2⟩ : ∃ E, d - P = E := ⟨_, rfl⟩
          obtain ⟨N2, hN2⟩ : ∃ N2, n - P = N2 := ⟨_, rfl⟩
          have HQK : Hid (wrkK q m n = ⟨q.pct, q.least, q.live, q.on, q.est, q.room, cp (q.credit + N2), cp (q.done + n), q.made, q.ds.set m E⟩) := Lib.hid (by rw [← hN2, ← hE2, ← hP, ← hd2.out]; rfl)
          have HC3 := Lib.hid fun (w : World) => xpleast_any (x := (n : Int)) (y := (d : Int)) (a := n) (b := d) w rfl rfl
          rw [hP] at HC3
          have HC2 := Lib.hid fun (w : World) => xpsum_any (x := (q.credit : Int)) (y := (N2 : Int)) (a := q.credit) (b := N2) w rfl rfl hcr (by omega)
          have e2 : (d : Int) - (P : Int) = (E : Int) := by omega
          have e3 : (n : Int) - (P : Int) = (N2 : Int) := by omega
          have e4 : IntKind.u64.wrap ((d : Int) - (P : Int)) = (E : Int) := by rw [IntKind.wrap_u64]; omega
          have e5 : IntKind.u64.wrap ((n : Int) - (P : Int)) = (N2 : Int) := by rw [IntKind.wrap_u64]; omega
          have e6 : IntKind.u64.wrap (E : Int) = (E : Int) := by rw [IntKind.wrap_u64]; omega
          have e7 : IntKind.u64.wrap (N2 : Int) = (N2 : Int) := by rw [IntKind.wrap_u64]; omega
          have hE9 : E < W64 := by unfold W64; omega
          have j1 : decide ((0 : Int) ≤ (m : Int)) = true := by simp
          have j2 : (m : Int) < (q.ds.length : Int) := by omega
          have j3 : (0 : Int) ≤ (m : Int) := by omega
          have lcap : q.ds.length ≤ c2 := by omega
          have hmq : m < q.ds.length := by omega
          have hgb : g ≠ w.heap.size := by omega
          clear hgc e1 hP hE2 hN2
          have HQ2 := Lib.hid hql
          clear hql
          have hT := HB.out
          unfold PBox at hT
          clear hq hbr
          have hsbb : sb ≠ w.heap.size := by omega
          have hlt2 := hT.lt
          obtain ⟨m0, m1, m2, m3, m4, m5, m6, m7, m8, m9, mf⟩ := id hT
          go_wp2_with fail
          go_at_call 38
          refine (HC1.out _).mono ?_
          rintro e w3 ⟨rfl, rfl⟩
          go_wp2_with fail
          go_at_call 39
          refine (HC3.out _).mono ?_
          rintro e w4 ⟨rfl, rfl⟩
          go_wp2_with fail
          go_at_call 38
          refine (HC2.out _).mono ?_
          rintro e w5 ⟨rfl, rfl⟩
          go_wp2
          go_roundw
          case rel =>
            refine ⟨k + 1, by go_num, by omega, Lib.hid ?_, Lib.hid (((HF.out.trans (Off.set ⟨w.heap.size, 7, none⟩ (.inl rfl) _)).trans (Off.set ⟨g, m, none⟩ (.inr rfl) _)).trans (Off.set ⟨w.heap.size, 6, none⟩ (.inl rfl) _)), Lib.hid ?_⟩
            · rw [HN'.out, HQK.out]
              unfold PBox
              simp only [List.length_set]
              exact ((hT.set7 _).far (p := ⟨g, m, none⟩) hgb _).set6 _
            · rw [HN'.out, HQK.out]
              exact ((HO2.off rfl (p := ⟨w.heap.size, 7, none⟩) (show w.heap.size ≠ g by omega) _).seti rfl hmq rfl hE9).off rfl (p := ⟨w.heap.size, 6, none⟩) (show w.heap.size ≠ g by omega) _
          case measure => simp [intOf]; omega
        · obtain rfl : k = l.length := by omega
          have hF0 := HF.out
          have r0 := t0'.off hF0 (by omega) (by omega)
          have hT := HB.out
          unfold PBox at hT
          have O5 := HOW.out
          rw [HE.out] at hT O5
          have s5 := hF0.size
          have b5 := b2'.trans hbr
          have hlt5 := hT.lt
          have hlt6 := r0.lt
          clear t0' t1'
          obtain ⟨m0, m1, m2, m3, m4, m5, m6, m7, m8, m9, mf⟩ := id hT
          obtain ⟨n0, n1, n2, n3, n4, n5, n6, n7, n8, n9, nf⟩ := id r0
          have hlen := HQL.out
          have HLL := Lib.hid hlen
          clear hlen
          go_wp2
          exact bodyPost_ret (res_pp2 rfl rfl (r0.all _ _ _ _ _ _ _ _ _ _)) rfl ⟨some ⟨g, 0, none⟩, c2, rfl, ⟨(own_ten O5 (.inl (by omega)) _ _ _ _ _ _ _ _ _ _).mono (by omega), by have := HLL.out; omega, fun e => (by cases e)⟩, below_ten b5 (by omega) _ _ _ _ _ _ _ _ _ _⟩
theorem xpwork_any (hf : FitP p) (hr : Row w w.heap.size A p.ds) (hl : p.ds.length ≤ 17592186044416) (hs : Row w w.heap.size S l) (hsl : l.length ≤ 17592186044416) (who : Int) (q : Pc) (y : Int) (hE : WrkE p who l q y) :
    Calls Try.prog 27 #[(.agg #[.int .i64 p.pct, .int .u64 (p.least : Nat), .int .u64 (p.live : Nat), .bool p.on, .int .u64 (p.est : Nat), .int .u64 (p.room : Nat), .int .u64 (p.credit : Nat), .int .u64 (p.done : Nat), .int .u64 (p.made : Nat), .slice A p.ds.length c]), .int .i64 who, .slice S l.length cl] w fun e w' => ∃ A' c', e = .returned (.tuple #[(.agg #[.int .i64 q.pct, .int .u64 (q.least : Nat), .int .u64 (q.live : Nat), .bool q.on, .int .u64 (q.est : Nat), .int .u64 (q.room : Nat), .int .u64 (q.credit : Nat), .int .u64 (q.done : Nat), .int .u64 (q.made : Nat), .slice A' q.ds.length c']), .int .i64 y]) ∧ OwnD w' w.heap.size A' c' q.ds ∧ Below w.heap.size w w' := by
  rcases hE with ⟨hk, rfl, rfl⟩ | ⟨hk, hw, rfl, rfl⟩ | ⟨hk, hw1, hw2, ho, rfl, rfl⟩ | ⟨hk, hw1, hw2, ho, hm, rfl, rfl⟩ | ⟨hk, hw1, hw2, ho, hm, hq, rfl⟩
  · exact xpwork_bad c cl hf hr hl hs hsl who hk
  · exact xpwork_task c cl hf hr hl hs hsl who hk hw
  · exact xpwork_off c cl hf hr hl hs hsl who hk hw1 hw2 ho
  · exact xpwork_big c cl hf hr hl hs hsl who hk hw1 hw2 ho hm
  · subst hq
    by_cases h : who = -1
    · subst h
      exact xpwork_okN c cl hf hr hl hs hsl hk ho hm
    · obtain ⟨m, rfl⟩ : ∃ m : Nat, who = (m : Int) := ⟨who.toNat, by omega⟩
      exact xpwork_okK c cl hf hr hl hs hsl hk ho hm m (by omega)
end
end Go.Proofs.Ytkdbcoibapcmjaa
