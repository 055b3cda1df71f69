/- The document's own pacers: Alloc. -/
import Derived.Test.YtkdbcoibapcmjaaN20
import Derived.Test.YtkdbcoibapcmjaaN13
import Derived.Deep.RegionHeld3
namespace Go.Proofs.Ytkdbcoibapcmjaa
open Go.RowKit
set_option linter.unusedVariables false
set_option linter.unusedSimpArgs false
set_option maxRecDepth 100000

set_option maxHeartbeats 4000000 in
theorem xpalloc_any {w : World} {p : Pc} {A : Option Addr} (c : Nat) (hf : FitP p) (hr : Row w w.heap.size A p.ds) (hl : p.ds.length ≤ 17592186044416) (who : Int) (words : Nat) (q : Pc) (o : Nat) (y : Int) (hE : AllE p who words q o y) :
    Calls Try.prog 25 #[(.agg #[.int .i64 p.pct, .int .u64 (p.least : Nat), .int .u64 (p.live : Nat), .bool p.on, .int .u64 (p.est : Nat), .int .u64 (p.room : Nat), .int .u64 (p.credit : Nat), .int .u64 (p.done : Nat), .int .u64 (p.made : Nat), .slice A p.ds.length c]), .int .i64 who, .int .u64 (words : Nat)] w fun e w' => ∃ A' c', e = .returned (.tuple #[(.agg #[.int .i64 q.pct, .int .u64 (q.least : Nat), .int .u64 (q.live : Nat), .bool q.on, .int .u64 (q.est : Nat), .int .u64 (q.room : Nat), .int .u64 (q.credit : Nat), .int .u64 (q.done : Nat), .int .u64 (q.made : Nat), .slice A' q.ds.length c']), .int .u64 (o : Nat), .int .i64 y]) ∧ OwnD w' w.heap.size A' c' q.ds ∧ Below w.heap.size w w' := by
  have HT := Lib.hid fun (w : World) hr => xpcopy_any (w := w) (p := p) (A := A) c hr hl
  rcases hE with ⟨hk, rfl, rfl, rfl⟩ | ⟨hk, hw, rfl, rfl, rfl⟩ | ⟨hk, hw1, hw2, hwd, rfl, rfl, rfl⟩ | ⟨hk, hw1, hw2, hwd, ho, rfl, rfl, rfl⟩ | ⟨k, rfl, hkl, hk, hwd, ho, rfl, rfl, rfl⟩
  · clear HT
    have HK := Lib.hid fun (w : World) hr => xpcheck_any (w := w) (p := p) (A := A) c hf hr 2 (.inr ⟨hk, rfl⟩)
    clear hk hf
    obtain ⟨pct, least, live, on, est, room, credit, done, made, ds⟩ := p
    simp only at *
    go_enter Try.func25, Try.ntmps25
    go_wp2_with fail
    go_at_call 18
    refine (HK.out _ (hr.later (by repeat (first | exact Below.refl _ _ | assumption | (refine below_drewN ?_ _) | (refine Below.drew ?_) | (refine Below.alloc ?_ (by first | omega | (simp; omega) | simp) _) | (refine Below.setCell ?_ (by first | omega | (simp; omega) | simp) _) | (refine below_trans ?_ (by assumption) (by first | omega | (simp; omega) | simp)))))).mono ?_
    rintro e w1 ⟨rfl, hb_w1⟩
    obtain ⟨hc_w1, hf_w1⟩ := bcell hb_w1; have hz_w1_w_0 : w.heap.size < w1.heap.size := (by have hzz := hb_w1.size; (try simp only [World.size_alloc, World.size_setCell, World.size_drew, World.heap_drewN] at hzz); omega); have hz_w1_w_1 : w.heap.size + 1 < w1.heap.size := (by have hzz := hb_w1.size; (try simp only [World.size_alloc, World.size_setCell, World.size_drew, World.heap_drewN] at hzz); omega); have hs_w1 := hb_w1.size; (try simp only [World.size_alloc, World.size_setCell, World.size_drew, World.heap_drewN] at hs_w1)
    have b1 : Below w.heap.size w w1 := (by repeat (first | exact Below.refl _ _ | assumption | (refine below_drewN ?_ _) | (refine Below.drew ?_) | (refine Below.alloc ?_ (by first | omega | (simp; omega) | simp) _) | (refine Below.setCell ?_ (by first | omega | (simp; omega) | simp) _) | (refine below_trans ?_ (by assumption) (by first | omega | (simp; omega) | simp))))
    have t0 := (Ten.new (w.alloc (.cells #[.int .i64 pct, .int .u64 (least : Nat), .int .u64 (live : Nat), .bool on, .int .u64 (est : Nat), .int .u64 (room : Nat), .int .u64 (credit : Nat), .int .u64 (done : Nat), .int .u64 (made : Nat), .slice A ds.length c] 25)) (.int .i64 0) (.int .u64 0) (.int .u64 0) (.bool false) (.int .u64 0) (.int .u64 0) (.int .u64 0) (.int .u64 0) (.int .u64 0) (.slice none 0 0) 25).later hb_w1
    simp only [World.size_alloc] at t0
    obtain ⟨y0, y1, y2, y3, y4, y5, y6, y7, y8, y9, yf⟩ := id t0
    have ylt := t0.lt
    have b2 := below_ten (b := w.heap.size + 1) b1 (by omega) (.int .i64 0) (.int .u64 0) (.int .u64 0) (.bool false) (.int .u64 0) (.int .u64 0) (.int .u64 0) (.int .u64 0) (.int .u64 0) (.slice none 0 0)
    clear hc_w1 hf_w1
    go_wp2
    exact bodyPost_ret (res_pp3 rfl rfl (t0.all _ _ _ _ _ _ _ _ _ _)) rfl ⟨none, 0, rfl, OwnD.none _ _, b2⟩
  · have HK := Lib.hid fun (w : World) hr => xpcheck_any (w := w) (p := q) (A := A) c hf hr 0 (.inl ⟨hk, rfl⟩)
    clear hk hf
    obtain ⟨pct, least, live, on, est, room, credit, done, made, ds⟩ := q
    simp only at *
    by_cases h1 : who < 0
    · have f1 : decide (who < 0) = true := by simpa using h1
      go_enter Try.func25, Try.ntmps25
      go_wp2_with fail
      go_at_call 18
      refine (HK.out _ (hr.later (by repeat (first | exact Below.refl _ _ | assumption | (refine below_drewN ?_ _) | (refine Below.drew ?_) | (refine Below.alloc ?_ (by first | omega | (simp; omega) | simp) _) | (refine Below.setCell ?_ (by first | omega | (simp; omega) | simp) _) | (refine below_trans ?_ (by assumption) (by first | omega | (simp; omega) | simp)))))).mono ?_
      rintro e w1 ⟨rfl, hb_w1⟩
      obtain ⟨hc_w1, hf_w1⟩ := bcell hb_w1; have hz_w1_w_0 : w.heap.size < w1.heap.size := (by have hzz := hb_w1.size; (try simp only [World.size_alloc, World.size_setCell, World.size_drew, World.heap_drewN] at hzz); omega); have hz_w1_w_1 : w.heap.size + 1 < w1.heap.size := (by have hzz := hb_w1.size; (try simp only [World.size_alloc, World.size_setCell, World.size_drew, World.heap_drewN] at hzz); omega); have hs_w1 := hb_w1.size; (try simp only [World.size_alloc, World.size_setCell, World.size_drew, World.heap_drewN] at hs_w1)
      have b1 : Below w.heap.size w w1 := (by repeat (first | exact Below.refl _ _ | assumption | (refine below_drewN ?_ _) | (refine Below.drew ?_) | (refine Below.alloc ?_ (by first | omega | (simp; omega) | simp) _) | (refine Below.setCell ?_ (by first | omega | (simp; omega) | simp) _) | (refine below_trans ?_ (by assumption) (by first | omega | (simp; omega) | simp))))
      have t0 := (Ten.new (w.alloc (.cells #[.int .i64 pct, .int .u64 (least : Nat), .int .u64 (live : Nat), .bool on, .int .u64 (est : Nat), .int .u64 (room : Nat), .int .u64 (credit : Nat), .int .u64 (done : Nat), .int .u64 (made : Nat), .slice A ds.length c] 25)) (.int .i64 0) (.int .u64 0) (.int .u64 0) (.bool false) (.int .u64 0) (.int .u64 0) (.int .u64 0) (.int .u64 0) (.int .u64 0) (.slice none 0 0) 25).later hb_w1
      have t1 := ((Ten.new w (.int .i64 pct) (.int .u64 (least : Nat)) (.int .u64 (live : Nat)) (.bool on) (.int .u64 (est : Nat)) (.int .u64 (room : Nat)) (.int .u64 (credit : Nat)) (.int .u64 (done : Nat)) (.int .u64 (made : Nat)) (.slice A ds.length c) 25).later ((Below.refl _ _).alloc (Nat.le_refl _) (.cells #[.int .i64 0, .int .u64 0, .int .u64 0, .bool false, .int .u64 0, .int .u64 0, .int .u64 0, .int .u64 0, .int .u64 0, .slice none 0 0] 25))).later hb_w1
      simp only [World.size_alloc] at t0 t1
      clear hc_w1 hf_w1
      obtain ⟨q0, q1, q2, q3, q4, q5, q6, q7, q8, q9, qf⟩ := id t1
      go_wp2_with fail
      go_at_call 19
      refine (HT.out _ ((hr.later b1).later (by repeat (first | exact Below.refl _ _ | assumption | (refine below_drewN ?_ _) | (refine Below.drew ?_) | (refine Below.alloc ?_ (by first | omega | (simp; omega) | simp) _) | (refine Below.setCell ?_ (by first | omega | (simp; omega) | simp) _) | (refine below_trans ?_ (by assumption) (by first | omega | (simp; omega) | simp)))))).mono ?_
      rintro e w2 ⟨A2, c2, rfl, oD, hb_w2⟩
      clear q0 q1 q2 q3 q4 q5 q6 q7 q8 q9 qf
      have t0 := t0.later hb_w2
      have t1 := t1.later hb_w2
      have s2 := hb_w2.size
      (try simp only [World.size_alloc] at oD s2)
      have b2 : Below w.heap.size w w2 := (by repeat (first | exact Below.refl _ _ | assumption | (refine below_drewN ?_ _) | (refine Below.drew ?_) | (refine Below.alloc ?_ (by first | omega | (simp; omega) | simp) _) | (refine Below.setCell ?_ (by first | omega | (simp; omega) | simp) _) | (refine below_trans ?_ (by assumption) (by first | omega | (simp; omega) | simp))))
      have t1' := t1.all (.int .i64 pct) (.int .u64 (least : Nat)) (.int .u64 (live : Nat)) (.bool on) (.int .u64 (est : Nat)) (.int .u64 (room : Nat)) (.int .u64 (credit : Nat)) (.int .u64 (done : Nat)) (.int .u64 (made : Nat)) (.slice A2 ds.length c2)
      have t0' := t0.over (g := w.heap.size) (by omega) (.int .i64 pct) (.int .u64 (least : Nat)) (.int .u64 (live : Nat)) (.bool on) (.int .u64 (est : Nat)) (.int .u64 (room : Nat)) (.int .u64 (credit : Nat)) (.int .u64 (done : Nat)) (.int .u64 (made : Nat)) (.slice A2 ds.length c2)
      have oD' := oD.ten (g := w.heap.size) (.inl (by first | omega | (simp; omega) | simp)) (.int .i64 pct) (.int .u64 (least : Nat)) (.int .u64 (live : Nat)) (.bool on) (.int .u64 (est : Nat)) (.int .u64 (room : Nat)) (.int .u64 (credit : Nat)) (.int .u64 (done : Nat)) (.int .u64 (made : Nat)) (.slice A2 ds.length c2)
      have b2' := below_ten (b := w.heap.size) b2 (Nat.le_refl _) (.int .i64 pct) (.int .u64 (least : Nat)) (.int .u64 (live : Nat)) (.bool on) (.int .u64 (est : Nat)) (.int .u64 (room : Nat)) (.int .u64 (credit : Nat)) (.int .u64 (done : Nat)) (.int .u64 (made : Nat)) (.slice A2 ds.length c2)
      obtain ⟨x0, x1, x2, x3, x4, x5, x6, x7, x8, x9, xf⟩ := id t1
      obtain ⟨y0, y1, y2, y3, y4, y5, y6, y7, y8, y9, yf⟩ := id t0
      go_wp2
      exact bodyPost_ret (res_pp3 rfl rfl (t0'.all _ _ _ _ _ _ _ _ _ _)) rfl ⟨A2, c2, rfl, (oD'.ten (.inl (by omega)) _ _ _ _ _ _ _ _ _ _).mono (by omega), below_ten b2' (by omega) _ _ _ _ _ _ _ _ _ _⟩
    · have f1 : decide (who < 0) = false := by simpa using h1
      have f2 : decide ((ds.length : Int) ≤ who) = true := by simp; omega
      go_enter Try.func25, Try.ntmps25
      go_wp2_with fail
      go_at_call 18
      refine (HK.out _ (hr.later (by repeat (first | exact Below.refl _ _ | assumption | (refine below_drewN ?_ _) | (refine Below.drew ?_) | (refine Below.alloc ?_ (by first | omega | (simp; omega) | simp) _) | (refine Below.setCell ?_ (by first | omega | (simp; omega) | simp) _) | (refine below_trans ?_ (by assumption) (by first | omega | (simp; omega) | simp)))))).mono ?_
      rintro e w1 ⟨rfl, hb_w1⟩
      obtain ⟨hc_w1, hf_w1⟩ := bcell hb_w1; have hz_w1_w_0 : w.heap.size < w1.heap.size := (by have hzz := hb_w1.size; (try simp only [World.size_alloc, World.size_setCell, World.size_drew, World.heap_drewN] at hzz); omega); have hz_w1_w_1 : w.heap.size + 1 < w1.heap.size := (by have hzz := hb_w1.size; (try simp only [World.size_alloc, World.size_setCell, World.size_drew, World.heap_drewN] at hzz); omega); have hs_w1 := hb_w1.size; (try simp only [World.size_alloc, World.size_setCell, World.size_drew, World.heap_drewN] at hs_w1)
      have b1 : Below w.heap.size w w1 := (by repeat (first | exact Below.refl _ _ | assumption | (refine below_drewN ?_ _) | (refine Below.drew ?_) | (refine Below.alloc ?_ (by first | omega | (simp; omega) | simp) _) | (refine Below.setCell ?_ (by first | omega | (simp; omega) | simp) _) | (refine below_trans ?_ (by assumption) (by first | omega | (simp; omega) | simp))))
      have t0 := (Ten.new (w.alloc (.cells #[.int .i64 pct, .int .u64 (least : Nat), .int .u64 (live : Nat), .bool on, .int .u64 (est : Nat), .int .u64 (room : Nat), .int .u64 (credit : Nat), .int .u64 (done : Nat), .int .u64 (made : Nat), .slice A ds.length c] 25)) (.int .i64 0) (.int .u64 0) (.int .u64 0) (.bool false) (.int .u64 0) (.int .u64 0) (.int .u64 0) (.int .u64 0) (.int .u64 0) (.slice none 0 0) 25).later hb_w1
      have t1 := ((Ten.new w (.int .i64 pct) (.int .u64 (least : Nat)) (.int .u64 (live : Nat)) (.bool on) (.int .u64 (est : Nat)) (.int .u64 (room : Nat)) (.int .u64 (credit : Nat)) (.int .u64 (done : Nat)) (.int .u64 (made : Nat)) (.slice A ds.length c) 25).later ((Below.refl _ _).alloc (Nat.le_refl _) (.cells #[.int .i64 0, .int .u64 0, .int .u64 0, .bool false, .int .u64 0, .int .u64 0, .int .u64 0, .int .u64 0, .int .u64 0, .slice none 0 0] 25))).later hb_w1
      simp only [World.size_alloc] at t0 t1
      clear hc_w1 hf_w1
      obtain ⟨q0, q1, q2, q3, q4, q5, q6, q7, q8, q9, qf⟩ := id t1
      go_wp2_with fail
      go_at_call 19
      refine (HT.out _ ((hr.later b1).later (by repeat (first | exact Below.refl _ _ | assumption | (refine below_drewN ?_ _) | (refine Below.drew ?_) | (refine Below.alloc ?_ (by first | omega | (simp; omega) | simp) _) | (refine Below.setCell ?_ (by first | omega | (simp; omega) | simp) _) | (refine below_trans ?_ (by assumption) (by first | omega | (simp; omega) | simp)))))).mono ?_
      rintro e w2 ⟨A2, c2, rfl, oD, hb_w2⟩
      clear q0 q1 q2 q3 q4 q5 q6 q7 q8 q9 qf
      have t0 := t0.later hb_w2
      have t1 := t1.later hb_w2
      have s2 := hb_w2.size
      (try simp only [World.size_alloc] at oD s2)
      have b2 : Below w.heap.size w w2 := (by repeat (first | exact Below.refl _ _ | assumption | (refine below_drewN ?_ _) | (refine Below.drew ?_) | (refine Below.alloc ?_ (by first | omega | (simp; omega) | simp) _) | (refine Below.setCell ?_ (by first | omega | (simp; omega) | simp) _) | (refine below_trans ?_ (by assumption) (by first | omega | (simp; omega) | simp))))
      have t1' := t1.all (.int .i64 pct) (.int .u64 (least : Nat)) (.int .u64 (live : Nat)) (.bool on) (.int .u64 (est : Nat)) (.int .u64 (room : Nat)) (.int .u64 (credit : Nat)) (.int .u64 (done : Nat)) (.int .u64 (made : Nat)) (.slice A2 ds.length c2)
      have t0' := t0.over (g := w.heap.size) (by omega) (.int .i64 pct) (.int .u64 (least : Nat)) (.int .u64 (live : Nat)) (.bool on) (.int .u64 (est : Nat)) (.int .u64 (room : Nat)) (.int .u64 (credit : Nat)) (.int .u64 (done : Nat)) (.int .u64 (made : Nat)) (.slice A2 ds.length c2)
      have oD' := oD.ten (g := w.heap.size) (.inl (by first | omega | (simp; omega) | simp)) (.int .i64 pct) (.int .u64 (least : Nat)) (.int .u64 (live : Nat)) (.bool on) (.int .u64 (est : Nat)) (.int .u64 (room : Nat)) (.int .u64 (credit : Nat)) (.int .u64 (done : Nat)) (.int .u64 (made : Nat)) (.slice A2 ds.length c2)
      have b2' := below_ten (b := w.heap.size) b2 (Nat.le_refl _) (.int .i64 pct) (.int .u64 (least : Nat)) (.int .u64 (live : Nat)) (.bool on) (.int .u64 (est : Nat)) (.int .u64 (room : Nat)) (.int .u64 (credit : Nat)) (.int .u64 (done : Nat)) (.int .u64 (made : Nat)) (.slice A2 ds.length c2)
      obtain ⟨x0, x1, x2, x3, x4, x5, x6, x7, x8, x9, xf⟩ := id t1
      obtain ⟨y0, y1, y2, y3, y4, y5, y6, y7, y8, y9, yf⟩ := id t0
      go_wp2
      exact bodyPost_ret (res_pp3 rfl rfl (t0'.all _ _ _ _ _ _ _ _ _ _)) rfl ⟨A2, c2, rfl, (oD'.ten (.inl (by omega)) _ _ _ _ _ _ _ _ _ _).mono (by omega), below_ten b2' (by omega) _ _ _ _ _ _ _ _ _ _⟩
  · have HK := Lib.hid fun (w : World) hr => xpcheck_any (w := w) (p := q) (A := A) c hf hr 0 (.inl ⟨hk, rfl⟩)
    have f1 : decide ((1048576 : Int) < (words : Int)) = true := by simp; omega
    clear hk hf hwd
    obtain ⟨pct, least, live, on, est, room, credit, done, made, ds⟩ := q
    simp only at *
    have g1 : decide (who < 0) = false := by simp; omega
    have g2 : decide ((ds.length : Int) ≤ who) = false := by simp; omega
    go_enter Try.func25, Try.ntmps25
    go_wp2_with fail
    go_at_call 18
    refine (HK.out _ (hr.later (by repeat (first | exact Below.refl _ _ | assumption | (refine below_drewN ?_ _) | (refine Below.drew ?_) | (refine Below.alloc ?_ (by first | omega | (simp; omega) | simp) _) | (refine Below.setCell ?_ (by first | omega | (simp; omega) | simp) _) | (refine below_trans ?_ (by assumption) (by first | omega | (simp; omega) | simp)))))).mono ?_
    rintro e w1 ⟨rfl, hb_w1⟩
    obtain ⟨hc_w1, hf_w1⟩ := bcell hb_w1; have hz_w1_w_0 : w.heap.size < w1.heap.size := (by have hzz := hb_w1.size; (try simp only [World.size_alloc, World.size_setCell, World.size_drew, World.heap_drewN] at hzz); omega); have hz_w1_w_1 : w.heap.size + 1 < w1.heap.size := (by have hzz := hb_w1.size; (try simp only [World.size_alloc, World.size_setCell, World.size_drew, World.heap_drewN] at hzz); omega); have hs_w1 := hb_w1.size; (try simp only [World.size_alloc, World.size_setCell, World.size_drew, World.heap_drewN] at hs_w1)
    have b1 : Below w.heap.size w w1 := (by repeat (first | exact Below.refl _ _ | assumption | (refine below_drewN ?_ _) | (refine Below.drew ?_) | (refine Below.alloc ?_ (by first | omega | (simp; omega) | simp) _) | (refine Below.setCell ?_ (by first | omega | (simp; omega) | simp) _) | (refine below_trans ?_ (by assumption) (by first | omega | (simp; omega) | simp))))
    have t0 := (Ten.new (w.alloc (.cells #[.int .i64 pct, .int .u64 (least : Nat), .int .u64 (live : Nat), .bool on, .int .u64 (est : Nat), .int .u64 (room : Nat), .int .u64 (credit : Nat), .int .u64 (done : Nat), .int .u64 (made : Nat), .slice A ds.length c] 25)) (.int .i64 0) (.int .u64 0) (.int .u64 0) (.bool false) (.int .u64 0) (.int .u64 0) (.int .u64 0) (.int .u64 0) (.int .u64 0) (.slice none 0 0) 25).later hb_w1
    have t1 := ((Ten.new w (.int .i64 pct) (.int .u64 (least : Nat)) (.int .u64 (live : Nat)) (.bool on) (.int .u64 (est : Nat)) (.int .u64 (room : Nat)) (.int .u64 (credit : Nat)) (.int .u64 (done : Nat)) (.int .u64 (made : Nat)) (.slice A ds.length c) 25).later ((Below.refl _ _).alloc (Nat.le_refl _) (.cells #[.int .i64 0, .int .u64 0, .int .u64 0, .bool false, .int .u64 0, .int .u64 0, .int .u64 0, .int .u64 0, .int .u64 0, .slice none 0 0] 25))).later hb_w1
    simp only [World.size_alloc] at t0 t1
    clear hc_w1 hf_w1
    obtain ⟨q0, q1, q2, q3, q4, q5, q6, q7, q8, q9, qf⟩ := id t1
    go_wp2_with fail
    go_at_call 19
    refine (HT.out _ ((hr.later b1).later (by repeat (first | exact Below.refl _ _ | assumption | (refine below_drewN ?_ _) | (refine Below.drew ?_) | (refine Below.alloc ?_ (by first | omega | (simp; omega) | simp) _) | (refine Below.setCell ?_ (by first | omega | (simp; omega) | simp) _) | (refine below_trans ?_ (by assumption) (by first | omega | (simp; omega) | simp)))))).mono ?_
    rintro e w2 ⟨A2, c2, rfl, oD, hb_w2⟩
    clear q0 q1 q2 q3 q4 q5 q6 q7 q8 q9 qf
    have t0 := t0.later hb_w2
    have t1 := t1.later hb_w2
    have s2 := hb_w2.size
    (try simp only [World.size_alloc] at oD s2)
    have b2 : Below w.heap.size w w2 := (by repeat (first | exact Below.refl _ _ | assumption | (refine below_drewN ?_ _) | (refine Below.drew ?_) | (refine Below.alloc ?_ (by first | omega | (simp; omega) | simp) _) | (refine Below.setCell ?_ (by first | omega | (simp; omega) | simp) _) | (refine below_trans ?_ (by assumption) (by first | omega | (simp; omega) | simp))))
    have t1' := t1.all (.int .i64 pct) (.int .u64 (least : Nat)) (.int .u64 (live : Nat)) (.bool on) (.int .u64 (est : Nat)) (.int .u64 (room : Nat)) (.int .u64 (credit : Nat)) (.int .u64 (done : Nat)) (.int .u64 (made : Nat)) (.slice A2 ds.length c2)
    have t0' := t0.over (g := w.heap.size) (by omega) (.int .i64 pct) (.int .u64 (least : Nat)) (.int .u64 (live : Nat)) (.bool on) (.int .u64 (est : Nat)) (.int .u64 (room : Nat)) (.int .u64 (credit : Nat)) (.int .u64 (done : Nat)) (.int .u64 (made : Nat)) (.slice A2 ds.length c2)
    have oD' := oD.ten (g := w.heap.size) (.inl (by first | omega | (simp; omega) | simp)) (.int .i64 pct) (.int .u64 (least : Nat)) (.int .u64 (live : Nat)) (.bool on) (.int .u64 (est : Nat)) (.int .u64 (room : Nat)) (.int .u64 (credit : Nat)) (.int .u64 (done : Nat)) (.int .u64 (made : Nat)) (.slice A2 ds.length c2)
    have b2' := below_ten (b := w.heap.size) b2 (Nat.le_refl _) (.int .i64 pct) (.int .u64 (least : Nat)) (.int .u64 (live : Nat)) (.bool on) (.int .u64 (est : Nat)) (.int .u64 (room : Nat)) (.int .u64 (credit : Nat)) (.int .u64 (done : Nat)) (.int .u64 (made : Nat)) (.slice A2 ds.length c2)
    obtain ⟨x0, x1, x2, x3, x4, x5, x6, x7, x8, x9, xf⟩ := id t1
    obtain ⟨y0, y1, y2, y3, y4, y5, y6, y7, y8, y9, yf⟩ := id t0
    go_wp2
    exact bodyPost_ret (res_pp3 rfl rfl (t0'.all _ _ _ _ _ _ _ _ _ _)) rfl ⟨A2, c2, rfl, (oD'.ten (.inl (by omega)) _ _ _ _ _ _ _ _ _ _).mono (by omega), below_ten b2' (by omega) _ _ _ _ _ _ _ _ _ _⟩
  · have HK := Lib.hid fun (w : World) hr => xpcheck_any (w := w) (p := q) (A := A) c hf hr 0 (.inl ⟨hk, rfl⟩)
    have f1 : decide ((1048576 : Int) < (words : Int)) = false := by simp; omega
    clear hk hf hwd
    obtain ⟨pct, least, live, on, est, room, credit, done, made, ds⟩ := q
    simp only at *
    subst ho
    have g1 : decide (who < 0) = false := by simp; omega
    have g2 : decide ((ds.length : Int) ≤ who) = false := by simp; omega
    go_enter Try.func25, Try.ntmps25
    go_wp2_with fail
    go_at_call 18
    refine (HK.out _ (hr.later (by repeat (first | exact Below.refl _ _ | assumption | (refine below_drewN ?_ _) | (refine Below.drew ?_) | (refine Below.alloc ?_ (by first | omega | (simp; omega) | simp) _) | (refine Below.setCell ?_ (by first | omega | (simp; omega) | simp) _) | (refine below_trans ?_ (by assumption) (by first | omega | (simp; omega) | simp)))))).mono ?_
    rintro e w1 ⟨rfl, hb_w1⟩
    obtain ⟨hc_w1, hf_w1⟩ := bcell hb_w1; have hz_w1_w_0 : w.heap.size < w1.heap.size := (by have hzz := hb_w1.size; (try simp only [World.size_alloc, World.size_setCell, World.size_drew, World.heap_drewN] at hzz); omega); have hz_w1_w_1 : w.heap.size + 1 < w1.heap.size := (by have hzz := hb_w1.size; (try simp only [World.size_alloc, World.size_setCell, World.size_drew, World.heap_drewN] at hzz); omega); have hs_w1 := hb_w1.size; (try simp only [World.size_alloc, World.size_setCell, World.size_drew, World.heap_drewN] at hs_w1)
    have b1 : Below w.heap.size w w1 := (by repeat (first | exact Below.refl _ _ | assumption | (refine below_drewN ?_ _) | (refine Below.drew ?_) | (refine Below.alloc ?_ (by first | omega | (simp; omega) | simp) _) | (refine Below.setCell ?_ (by first | omega | (simp; omega) | simp) _) | (refine below_trans ?_ (by assumption) (by first | omega | (simp; omega) | simp))))
    have t0 := (Ten.new (w.alloc (.cells #[.int .i64 pct, .int .u64 (least : Nat), .int .u64 (live : Nat), .bool false, .int .u64 (est : Nat), .int .u64 (room : Nat), .int .u64 (credit : Nat), .int .u64 (done : Nat), .int .u64 (made : Nat), .slice A ds.length c] 25)) (.int .i64 0) (.int .u64 0) (.int .u64 0) (.bool false) (.int .u64 0) (.int .u64 0) (.int .u64 0) (.int .u64 0) (.int .u64 0) (.slice none 0 0) 25).later hb_w1
    have t1 := ((Ten.new w (.int .i64 pct) (.int .u64 (least : Nat)) (.int .u64 (live : Nat)) (.bool false) (.int .u64 (est : Nat)) (.int .u64 (room : Nat)) (.int .u64 (credit : Nat)) (.int .u64 (done : Nat)) (.int .u64 (made : Nat)) (.slice A ds.length c) 25).later ((Below.refl _ _).alloc (Nat.le_refl _) (.cells #[.int .i64 0, .int .u64 0, .int .u64 0, .bool false, .int .u64 0, .int .u64 0, .int .u64 0, .int .u64 0, .int .u64 0, .slice none 0 0] 25))).later hb_w1
    simp only [World.size_alloc] at t0 t1
    clear hc_w1 hf_w1
    obtain ⟨q0, q1, q2, q3, q4, q5, q6, q7, q8, q9, qf⟩ := id t1
    go_wp2_with fail
    go_at_call 19
    refine (HT.out _ ((hr.later b1).later (by repeat (first | exact Below.refl _ _ | assumption | (refine below_drewN ?_ _) | (refine Below.drew ?_) | (refine Below.alloc ?_ (by first | omega | (simp; omega) | simp) _) | (refine Below.setCell ?_ (by first | omega | (simp; omega) | simp) _) | (refine below_trans ?_ (by assumption) (by first | omega | (simp; omega) | simp)))))).mono ?_
    rintro e w2 ⟨A2, c2, rfl, oD, hb_w2⟩
    clear q0 q1 q2 q3 q4 q5 q6 q7 q8 q9 qf
    have t0 := t0.later hb_w2
    have t1 := t1.later hb_w2
    have s2 := hb_w2.size
    (try simp only [World.size_alloc] at oD s2)
    have b2 : Below w.heap.size w w2 := (by repeat (first | exact Below.refl _ _ | assumption | (refine below_drewN ?_ _) | (refine Below.drew ?_) | (refine Below.alloc ?_ (by first | omega | (simp; omega) | simp) _) | (refine Below.setCell ?_ (by first | omega | (simp; omega) | simp) _) | (refine below_trans ?_ (by assumption) (by first | omega | (simp; omega) | simp))))
    have t1' := t1.all (.int .i64 pct) (.int .u64 (least : Nat)) (.int .u64 (live : Nat)) (.bool false) (.int .u64 (est : Nat)) (.int .u64 (room : Nat)) (.int .u64 (credit : Nat)) (.int .u64 (done : Nat)) (.int .u64 (made : Nat)) (.slice A2 ds.length c2)
    have t0' := t0.over (g := w.heap.size) (by omega) (.int .i64 pct) (.int .u64 (least : Nat)) (.int .u64 (live : Nat)) (.bool false) (.int .u64 (est : Nat)) (.int .u64 (room : Nat)) (.int .u64 (credit : Nat)) (.int .u64 (done : Nat)) (.int .u64 (made : Nat)) (.slice A2 ds.length c2)
    have oD' := oD.ten (g := w.heap.size) (.inl (by first | omega | (simp; omega) | simp)) (.int .i64 pct) (.int .u64 (least : Nat)) (.int .u64 (live : Nat)) (.bool false) (.int .u64 (est : Nat)) (.int .u64 (room : Nat)) (.int .u64 (credit : Nat)) (.int .u64 (done : Nat)) (.int .u64 (made : Nat)) (.slice A2 ds.length c2)
    have b2' := below_ten (b := w.heap.size) b2 (Nat.le_refl _) (.int .i64 pct) (.int .u64 (least : Nat)) (.int .u64 (live : Nat)) (.bool false) (.int .u64 (est : Nat)) (.int .u64 (room : Nat)) (.int .u64 (credit : Nat)) (.int .u64 (done : Nat)) (.int .u64 (made : Nat)) (.slice A2 ds.length c2)
    obtain ⟨x0, x1, x2, x3, x4, x5, x6, x7, x8, x9, xf⟩ := id t1
    obtain ⟨y0, y1, y2, y3, y4, y5, y6, y7, y8, y9, yf⟩ := id t0
    go_wp2
    exact bodyPost_ret (res_pp3 rfl rfl (t0'.all _ _ _ _ _ _ _ _ _ _)) rfl ⟨A2, c2, rfl, (oD'.ten (.inl (by omega)) _ _ _ _ _ _ _ _ _ _).mono (by omega), below_ten b2' (by omega) _ _ _ _ _ _ _ _ _ _⟩
  · have HK := Lib.hid fun (w : World) hr => xpcheck_any (w := w) (p := p) (A := A) c hf hr 0 (.inl ⟨hk, rfl⟩)
    have f1 : decide ((1048576 : Int) < (words : Int)) = false := by simp; omega
    have h1 := hk.est; have h2 := hk.room; have h3 := hk.credit; have h4 := hk.made; have h5 := (hk.on1 ho).2; have h6 := hk.len2
    have h7 : p.ds.getD k 0 ≤ 1099511627776 := by rw [getD_get _ _ hkl]; exact hk.ds _ (List.getElem_mem hkl)
    obtain ⟨d, hd⟩ : ∃ d, Hid (p.ds.getD k 0 = d) := ⟨_, rfl⟩
    rw [hd.out] at h7
    obtain ⟨m, hm⟩ : ∃ m, words * p.est = m := ⟨_, rfl⟩
    have hm2 : m ≤ 1048576 * 1099511627776 := by rw [← hm]; exact prod_le hwd h1
    have hm3 : (words : Int) * (p.est : Int) = (m : Int) := by rw [← hm]; simp
    have hOE : owesP p words = m / p.room + (if 0 < m % p.room then 1 else 0) := by rw [← hm]; exact owes_ref h5
    obtain ⟨z, hz⟩ : ∃ z, m / p.room = z := ⟨_, rfl⟩
    obtain ⟨r, hr2⟩ : ∃ r, m % p.room = r := ⟨_, rfl⟩
    have hz2 : z ≤ m := by rw [← hz]; exact Nat.div_le_self _ _
    have hr3 : r ≤ m := by rw [← hr2]; exact Nat.mod_le _ _
    have hz3 : (m : Int) / (p.room : Int) = (z : Int) := by rw [← hz]; simp
    have hz4 : (m : Int).tdiv (p.room : Int) = (z : Int) := by rw [Int.tdiv_eq_ediv_of_nonneg (by omega)]; exact hz3
    have hr4 : (m : Int) % (p.room : Int) = (r : Int) := by rw [← hr2]; simp
    have hr5 : (m : Int).tmod (p.room : Int) = (r : Int) := by rw [Int.tmod_eq_emod_of_nonneg (by omega)]; exact hr4
    have hne2 : ¬ (p.room = 0) := by omega
    have hmw : IntKind.u64.wrap (m : Int) = (m : Int) := by rw [IntKind.wrap_u64]; omega
    have hzw : IntKind.u64.wrap (z : Int) = (z : Int) := by rw [IntKind.wrap_u64]; omega
    have hrw : IntKind.u64.wrap (r : Int) = (r : Int) := by rw [IntKind.wrap_u64]; omega
    rw [hz, hr2] at hOE
    obtain ⟨O, hO⟩ : ∃ O, owesP p words = O := ⟨_, rfl⟩
    rw [hO] at hOE
    have HD : Hid (debtP p k words = cp (d + min 1099511627776 O)) := Lib.hid (by unfold debtP cp; rw [hd.out, hO]; omega)
    obtain ⟨D, hD⟩ : ∃ D, cp (d + min 1099511627776 O) = D := ⟨_, rfl⟩
    rw [hD] at HD
    obtain ⟨P, hP⟩ : ∃ P, min D p.credit = P := ⟨_, rfl⟩
    obtain ⟨Q, hQ⟩ : ∃ Q, p.credit - P = Q := ⟨_, rfl⟩
    obtain ⟨E, hE⟩ : ∃ E, D - P = E := ⟨_, rfl⟩
    obtain ⟨M, hM⟩ : ∃ M, cp (p.made + words) = M := ⟨_, rfl⟩
    have HA : Hid (allP p k words = ⟨p.pct, p.least, p.live, p.on, p.est, p.room, Q, p.done, M, p.ds.set k E⟩) := Lib.hid (by unfold allP; rw [HD.out, hP, hQ, hE, hM])
    have HO : Hid (debtP p k words - min (debtP p k words) p.credit = E) := Lib.hid (by rw [HD.out, hP, hE])
    rw [HA.out, HO.out]
    have hDM : D ≤ 1099511627776 := by rw [← hD]; exact cp_le _
    have e1 : (p.credit : Int) - (P : Int) = (Q : Int) := by omega
    have e2 : (D : Int) - (P : Int) = (E : Int) := by omega
    have e3 : IntKind.u64.wrap ((p.credit : Int) - (P : Int)) = (Q : Int) := by rw [IntKind.wrap_u64]; omega
    have e4 : IntKind.u64.wrap ((D : Int) - (P : Int)) = (E : Int) := by rw [IntKind.wrap_u64]; omega
    have e5 : IntKind.u64.wrap (Q : Int) = (Q : Int) := by rw [IntKind.wrap_u64]; omega
    have e6 : IntKind.u64.wrap (E : Int) = (E : Int) := by rw [IntKind.wrap_u64]; omega
    have HC1 := Lib.hid fun (w : World) => xpsum_any (x := (p.made : Int)) (y := (words : Int)) (a := p.made) (b := words) w rfl rfl h4 (by omega)
    rw [hM] at HC1
    have HC2 := Lib.hid fun (w : World) (x : Int) (hx : x = (O : Int)) => xpleast_any (x := 1099511627776) (a := 1099511627776) w (by rfl) hx
    have HC3 := Lib.hid fun (w : World) => xpsum_any (x := (d : Int)) (y := ((min 1099511627776 O : Nat) : Int)) (a := d) (b := min 1099511627776 O) w rfl rfl h7 (by omega)
    rw [hD] at HC3
    have HC4 := Lib.hid fun (w : World) => xpleast_any (x := (D : Int)) (y := (p.credit : Int)) (a := D) (b := p.credit) w rfl rfl
    rw [hP] at HC4
    have HE := Lib.hid hE
    clear hk hf hm hz hr2 HD HA HO hD hP hQ hE hM hO
    generalize min 1099511627776 O = mo at *
    obtain ⟨pct, least, live, on, est, room, credit, done, made, ds⟩ := p
    simp only at *
    subst ho
    have i1 : (k : Int) < (ds.length : Int) := by omega
    have i2 : (0 : Int) ≤ (k : Int) := by omega
    have g1 : decide ((k : Int) < 0) = false := by simp
    have g2 : decide ((ds.length : Int) ≤ (k : Int)) = false := by simp; omega
    go_enter Try.func25, Try.ntmps25
    go_wp2_with fail
    go_at_call 18
    refine (HK.out _ (hr.later (by repeat (first | exact Below.refl _ _ | assumption | (refine below_drewN ?_ _) | (refine Below.drew ?_) | (refine Below.alloc ?_ (by first | omega | (simp; omega) | simp) _) | (refine Below.setCell ?_ (by first | omega | (simp; omega) | simp) _) | (refine below_trans ?_ (by assumption) (by first | omega | (simp; omega) | simp)))))).mono ?_
    rintro e w1 ⟨rfl, hb_w1⟩
    obtain ⟨hc_w1, hf_w1⟩ := bcell hb_w1; have hz_w1_w_0 : w.heap.size < w1.heap.size := (by have hzz := hb_w1.size; (try simp only [World.size_alloc, World.size_setCell, World.size_drew, World.heap_drewN] at hzz); omega); have hz_w1_w_1 : w.heap.size + 1 < w1.heap.size := (by have hzz := hb_w1.size; (try simp only [World.size_alloc, World.size_setCell, World.size_drew, World.heap_drewN] at hzz); omega); have hs_w1 := hb_w1.size; (try simp only [World.size_alloc, World.size_setCell, World.size_drew, World.heap_drewN] at hs_w1)
    have b1 : Below w.heap.size w w1 := (by repeat (first | exact Below.refl _ _ | assumption | (refine below_drewN ?_ _) | (refine Below.drew ?_) | (refine Below.alloc ?_ (by first | omega | (simp; omega) | simp) _) | (refine Below.setCell ?_ (by first | omega | (simp; omega) | simp) _) | (refine below_trans ?_ (by assumption) (by first | omega | (simp; omega) | simp))))
    have t0 := (Ten.new (w.alloc (.cells #[.int .i64 pct, .int .u64 (least : Nat), .int .u64 (live : Nat), .bool true, .int .u64 (est : Nat), .int .u64 (room : Nat), .int .u64 (credit : Nat), .int .u64 (done : Nat), .int .u64 (made : Nat), .slice A ds.length c] 25)) (.int .i64 0) (.int .u64 0) (.int .u64 0) (.bool false) (.int .u64 0) (.int .u64 0) (.int .u64 0) (.int .u64 0) (.int .u64 0) (.slice none 0 0) 25).later hb_w1
    have t1 := ((Ten.new w (.int .i64 pct) (.int .u64 (least : Nat)) (.int .u64 (live : Nat)) (.bool true) (.int .u64 (est : Nat)) (.int .u64 (room : Nat)) (.int .u64 (credit : Nat)) (.int .u64 (done : Nat)) (.int .u64 (made : Nat)) (.slice A ds.length c) 25).later ((Below.refl _ _).alloc (Nat.le_refl _) (.cells #[.int .i64 0, .int .u64 0, .int .u64 0, .bool false, .int .u64 0, .int .u64 0, .int .u64 0, .int .u64 0, .int .u64 0, .slice none 0 0] 25))).later hb_w1
    simp only [World.size_alloc] at t0 t1
    clear hc_w1 hf_w1
    obtain ⟨q0, q1, q2, q3, q4, q5, q6, q7, q8, q9, qf⟩ := id t1
    go_wp2_with fail
    go_at_call 19
    refine (HT.out _ ((hr.later b1).later (by repeat (first | exact Below.refl _ _ | assumption | (refine below_drewN ?_ _) | (refine Below.drew ?_) | (refine Below.alloc ?_ (by first | omega | (simp; omega) | simp) _) | (refine Below.setCell ?_ (by first | omega | (simp; omega) | simp) _) | (refine below_trans ?_ (by assumption) (by first | omega | (simp; omega) | simp)))))).mono ?_
    rintro e w2 ⟨A2, c2, rfl, oD, hb_w2⟩
    clear q0 q1 q2 q3 q4 q5 q6 q7 q8 q9 qf
    have t0 := t0.later hb_w2
    have t1 := t1.later hb_w2
    have s2 := hb_w2.size
    (try simp only [World.size_alloc] at oD s2)
    have b2 : Below w.heap.size w w2 := (by repeat (first | exact Below.refl _ _ | assumption | (refine below_drewN ?_ _) | (refine Below.drew ?_) | (refine Below.alloc ?_ (by first | omega | (simp; omega) | simp) _) | (refine Below.setCell ?_ (by first | omega | (simp; omega) | simp) _) | (refine below_trans ?_ (by assumption) (by first | omega | (simp; omega) | simp))))
    have t1' := t1.all (.int .i64 pct) (.int .u64 (least : Nat)) (.int .u64 (live : Nat)) (.bool true) (.int .u64 (est : Nat)) (.int .u64 (room : Nat)) (.int .u64 (credit : Nat)) (.int .u64 (done : Nat)) (.int .u64 (made : Nat)) (.slice A2 ds.length c2)
    have t0' := t0.over (g := w.heap.size) (by omega) (.int .i64 pct) (.int .u64 (least : Nat)) (.int .u64 (live : Nat)) (.bool true) (.int .u64 (est : Nat)) (.int .u64 (room : Nat)) (.int .u64 (credit : Nat)) (.int .u64 (done : Nat)) (.int .u64 (made : Nat)) (.slice A2 ds.length c2)
    have oD' := oD.ten (g := w.heap.size) (.inl (by first | omega | (simp; omega) | simp)) (.int .i64 pct) (.int .u64 (least : Nat)) (.int .u64 (live : Nat)) (.bool true) (.int .u64 (est : Nat)) (.int .u64 (room : Nat)) (.int .u64 (credit : Nat)) (.int .u64 (done : Nat)) (.int .u64 (made : Nat)) (.slice A2 ds.length c2)
    have b2' := below_ten (b := w.heap.size) b2 (Nat.le_refl _) (.int .i64 pct) (.int .u64 (least : Nat)) (.int .u64 (live : Nat)) (.bool true) (.int .u64 (est : Nat)) (.int .u64 (room : Nat)) (.int .u64 (credit : Nat)) (.int .u64 (done : Nat)) (.int .u64 (made : Nat)) (.slice A2 ds.length c2)
    obtain ⟨x0, x1, x2, x3, x4, x5, x6, x7, x8, x9, xf⟩ := id t1
    obtain ⟨y0, y1, y2, y3, y4, y5, y6, y7, y8, y9, yf⟩ := id t0
    go_wp2_with fail
    have sW := size_ten w.heap.size w2 (.int .i64 pct) (.int .u64 (least : Nat)) (.int .u64 (live : Nat)) (.bool true) (.int .u64 (est : Nat)) (.int .u64 (room : Nat)) (.int .u64 (credit : Nat)) (.int .u64 (done : Nat)) (.int .u64 (made : Nat)) (.slice A2 ds.length c2)
    generalize hW : ((((((((((w2.setCell ⟨w.heap.size, 0, none⟩ (.int .i64 pct)).setCell ⟨w.heap.size, 1, none⟩ (.int .u64 (least : Nat))).setCell ⟨w.heap.size, 2, none⟩ (.int .u64 (live : Nat))).setCell ⟨w.heap.size, 3, none⟩ (.bool true)).setCell ⟨w.heap.size, 4, none⟩ (.int .u64 (est : Nat))).setCell ⟨w.heap.size, 5, none⟩ (.int .u64 (room : Nat))).setCell ⟨w.heap.size, 6, none⟩ (.int .u64 (credit : Nat))).setCell ⟨w.heap.size, 7, none⟩ (.int .u64 (done : Nat))).setCell ⟨w.heap.size, 8, none⟩ (.int .u64 (made : Nat))).setCell ⟨w.heap.size, 9, none⟩ (.slice A2 ds.length c2)) = W at *
    obtain ⟨g, rfl, hBg, hg2, hgc⟩ := oD'.own.at_ (by omega)
    obtain ⟨k0, kf⟩ := hgc k hkl
    rw [hd.out] at k0
    have hgb : g ≠ w.heap.size := by omega
    have hgb1 : g ≠ w.heap.size + 1 := by omega
    clear hgc t0 t1 oD b1 b2 hb_w2 x0 x1 x2 x3 x4 x5 x6 x7 x8 x9 xf y0 y1 y2 y3 y4 y5 y6 y7 y8 y9 yf
    obtain ⟨m0, m1, m2, m3, m4, m5, m6, m7, m8, m9, mf⟩ := id t1'
    go_at_call 38
    refine (HC1.out _).mono ?_
    rintro e w3 ⟨rfl, rfl⟩
    have T1 := t1'.set8 (.int .u64 (M : Nat))
    have O1 := oD'.own.off rfl (p := ⟨w.heap.size, 8, none⟩) (show w.heap.size ≠ g by omega) (.int .u64 (M : Nat))
    have T0 := t0'.far (p := ⟨w.heap.size, 8, none⟩) (show w.heap.size ≠ w.heap.size + 1 by omega) (.int .u64 (M : Nat))
    have B1 := b2'.setCell (p := ⟨w.heap.size, 8, none⟩) (Nat.le_refl _) (.int .u64 (M : Nat))
    have k1 : (W.setCell ⟨w.heap.size, 8, none⟩ (.int .u64 (M : Nat))).cell? ⟨g, k, none⟩ = some (.int .u64 (d : Nat)) := (World.cell?_setCell_other _ _ _ _ (by intro e; injection e; omega)).trans k0
    have kf1 : (W.setCell ⟨w.heap.size, 8, none⟩ (.int .u64 (M : Nat))).frozen? ⟨g, k, none⟩ = false := (World.frozen?_setCell _ _ _ _).trans kf
    have hcap := oD'.cap
    clear t1' t0' oD' b2' k0 kf
    by_cases hr0 : 0 < r
    · rw [if_pos hr0] at hOE
      have hzz : IntKind.u64.wrap ((z : Int) + 1) = (O : Int) := by rw [IntKind.wrap_u64]; omega
      have hzo : (z : Int) + 1 = (O : Int) := by omega
      clear hOE
      go_wp2_with fail
      clear m0 m1 m2 m3 m4 m5 m6 m7 m8 m9 mf
      generalize hW1 : W.setCell ⟨w.heap.size, 8, none⟩ (.int .u64 (M : Nat)) = W1 at *
      have wlt0 := T1.lt
      have wlt1 := T0.lt
      obtain ⟨m0, m1, m2, m3, m4, m5, m6, m7, m8, m9, mf⟩ := id T1
      go_region_held3 (fun X : World => X.cell? ⟨w.heap.size, 9, none⟩ = some (.slice (some ⟨g, 0, none⟩) ds.length c2) ∧ X.cell? ⟨g, k, none⟩ = some (.int .u64 (d : Nat)))
        ((refine ⟨?_, ?_⟩ <;> first | assumption | (simp [go_sem]; done)))
        ((first | (go_at_call 39; refine (HC2.out _ _ (by first | rfl | omega)).mono ?_; rintro e w4 ⟨rfl, rfl⟩) | (go_at_call 38; refine (HC3.out _).mono ?_; rintro e w4 ⟨rfl, rfl⟩)))
      have T2 := T1.later (Below.refl _ _).drew
      have T02 := T0.later (Below.refl _ _).drew
      have O2 := O1.later (Below.refl _ _).drew
      have B2 : Below w.heap.size w W1.drew := B1.drew
      have k2 : W1.drew.cell? ⟨g, k, none⟩ = some (.int .u64 (d : Nat)) := k1
      have kf2 : W1.drew.frozen? ⟨g, k, none⟩ = false := kf1
      generalize hW2 : W1.drew = W2 at *
      clear m0 m1 m2 m3 m4 m5 m6 m7 m8 m9 mf T1 T0 O1 B1 k1 kf1 hW1 hW2 wlt0 wlt1
      have wlt0 := T2.lt
      have wlt1 := T02.lt
      obtain ⟨m0, m1, m2, m3, m4, m5, m6, m7, m8, m9, mf⟩ := id T2
      obtain ⟨n0, n1, n2, n3, n4, n5, n6, n7, n8, n9, nf⟩ := id T02
      go_wp2_with fail
      go_at_call 39
      refine (HC4.out _).mono ?_
      rintro e w5 ⟨rfl, rfl⟩
      go_wp2
      exact bodyPost_ret (res_pp3 rfl rfl (((T02.far (p := ⟨w.heap.size, 6, none⟩) (show w.heap.size ≠ w.heap.size + 1 by omega) _).far (p := ⟨g, k, none⟩) hgb1 _).all _ _ _ _ _ _ _ _ _ _)) rfl ⟨some ⟨g, 0, none⟩, c2, by rw [List.length_set]; rfl, ⟨own_ten (((O2.off rfl (p := ⟨w.heap.size, 6, none⟩) (show w.heap.size ≠ g by omega) _).seti rfl hkl rfl (by have := HE.out; unfold W64; omega))) (.inl (by omega)) _ _ _ _ _ _ _ _ _ _ |>.mono (by omega), by rw [List.length_set]; exact hcap, fun e => (by cases e)⟩, below_ten ((B2.setCell (p := ⟨w.heap.size, 6, none⟩) (Nat.le_refl _) _).setCell (p := ⟨g, k, none⟩) (show w.heap.size ≤ g by omega) _) (by omega) _ _ _ _ _ _ _ _ _ _⟩
    · rw [if_neg hr0] at hOE
      obtain rfl : r = 0 := by omega
      obtain rfl : O = z := by omega
      clear hOE hr0
      go_wp2_with fail
      clear m0 m1 m2 m3 m4 m5 m6 m7 m8 m9 mf
      generalize hW1 : W.setCell ⟨w.heap.size, 8, none⟩ (.int .u64 (M : Nat)) = W1 at *
      have wlt0 := T1.lt
      have wlt1 := T0.lt
      obtain ⟨m0, m1, m2, m3, m4, m5, m6, m7, m8, m9, mf⟩ := id T1
      go_region_held3 (fun X : World => X.cell? ⟨w.heap.size, 9, none⟩ = some (.slice (some ⟨g, 0, none⟩) ds.length c2) ∧ X.cell? ⟨g, k, none⟩ = some (.int .u64 (d : Nat)))
        ((refine ⟨?_, ?_⟩ <;> first | assumption | (simp [go_sem]; done)))
        ((first | (go_at_call 39; refine (HC2.out _ _ (by first | rfl | omega)).mono ?_; rintro e w4 ⟨rfl, rfl⟩) | (go_at_call 38; refine (HC3.out _).mono ?_; rintro e w4 ⟨rfl, rfl⟩)))
      have T2 := T1.later (Below.refl _ _).drew
      have T02 := T0.later (Below.refl _ _).drew
      have O2 := O1.later (Below.refl _ _).drew
      have B2 : Below w.heap.size w W1.drew := B1.drew
      have k2 : W1.drew.cell? ⟨g, k, none⟩ = some (.int .u64 (d : Nat)) := k1
      have kf2 : W1.drew.frozen? ⟨g, k, none⟩ = false := kf1
      generalize hW2 : W1.drew = W2 at *
      clear m0 m1 m2 m3 m4 m5 m6 m7 m8 m9 mf T1 T0 O1 B1 k1 kf1 hW1 hW2 wlt0 wlt1
      have wlt0 := T2.lt
      have wlt1 := T02.lt
      obtain ⟨m0, m1, m2, m3, m4, m5, m6, m7, m8, m9, mf⟩ := id T2
      obtain ⟨n0, n1, n2, n3, n4, n5, n6, n7, n8, n9, nf⟩ := id T02
      go_wp2_with fail
      go_at_call 39
      refine (HC4.out _).mono ?_
      rintro e w5 ⟨rfl, rfl⟩
      go_wp2
      exact bodyPost_ret (res_pp3 rfl rfl (((T02.far (p := ⟨w.heap.size, 6, none⟩) (show w.heap.size ≠ w.heap.size + 1 by omega) _).far (p := ⟨g, k, none⟩) hgb1 _).all _ _ _ _ _ _ _ _ _ _)) rfl ⟨some ⟨g, 0, none⟩, c2, by rw [List.length_set]; rfl, ⟨own_ten (((O2.off rfl (p := ⟨w.heap.size, 6, none⟩) (show w.heap.size ≠ g by omega) _).seti rfl hkl rfl (by have := HE.out; unfold W64; omega))) (.inl (by omega)) _ _ _ _ _ _ _ _ _ _ |>.mono (by omega), by rw [List.length_set]; exact hcap, fun e => (by cases e)⟩, below_ten ((B2.setCell (p := ⟨w.heap.size, 6, none⟩) (Nat.le_refl _) _).setCell (p := ⟨g, k, none⟩) (show w.heap.size ≤ g by omega) _) (by omega) _ _ _ _ _ _ _ _ _ _⟩
end Go.Proofs.Ytkdbcoibapcmjaa
