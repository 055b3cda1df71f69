/- The document's own pacers: End. -/
import Derived.Test.YtkdbcoibapcmjaaN20
import Derived.Deep.RegionHeld3
namespace Go.Proofs.Ytkdbcoibapcmjaa
open Go.RowKit
set_option linter.unusedVariables false
set_option linter.unusedSimpArgs false
set_option maxRecDepth 100000

section
variable {w : World} {p : Pc} {A : Option Addr} (c : Nat)
set_option maxHeartbeats 4000000 in
theorem xpend_any (hf : FitP p) (hr : Row w w.heap.size A p.ds) (hl : p.ds.length ≤ 17592186044416) (live2 : Nat) (q : Pc) (y : Int) (hE : EndE p live2 q y) :
    Calls Try.prog 23 #[(.agg #[.int .i64 p.pct, .int .u64 (p.least : Nat), .int .u64 (p.live : Nat), .bool p.on, .int .u64 (p.est : Nat), .int .u64 (p.room : Nat), .int .u64 (p.credit : Nat), .int .u64 (p.done : Nat), .int .u64 (p.made : Nat), .slice A p.ds.length c]), .int .u64 (live2 : Nat)] w fun e w' => ∃ A' c', e = .returned (.tuple #[(.agg #[.int .i64 q.pct, .int .u64 (q.least : Nat), .int .u64 (q.live : Nat), .bool q.on, .int .u64 (q.est : Nat), .int .u64 (q.room : Nat), .int .u64 (q.credit : Nat), .int .u64 (q.done : Nat), .int .u64 (q.made : Nat), .slice A' q.ds.length c']), .int .i64 y]) ∧ OwnD w' w.heap.size A' c' q.ds ∧ Below w.heap.size w w' := by
  have HT := Lib.hid fun (w : World) hr => xpcopy_any (w := w) (p := p) (A := A) c hr hl
  rcases hE with ⟨hk, rfl, rfl⟩ | ⟨hk, ho, rfl, rfl⟩ | ⟨hk, ho, hh, rfl, rfl⟩ | ⟨hk, ho, hh, rfl, rfl⟩
  · clear HT
    have HK := Lib.hid fun (w : World) hr => xpcheck_any (w := w) (p := p) (A := A) c hf hr 2 (.inr ⟨hk, rfl⟩)
    clear hk hf
    obtain ⟨pct, least, live, on, est, room, credit, done, made, ds⟩ := p
    simp only at *
    go_enter Try.func23, Try.ntmps23
    go_wp2_with fail
    go_at_call 18
    refine (HK.out _ (hr.later (by repeat (first | exact Below.refl _ _ | assumption | (refine below_drewN ?_ _) | (refine Below.drew ?_) | (refine Below.alloc ?_ (by first | omega | (simp; omega) | simp) _) | (refine Below.setCell ?_ (by first | omega | (simp; omega) | simp) _) | (refine below_trans ?_ (by assumption) (by first | omega | (simp; omega) | simp)))))).mono ?_
    rintro e w1 ⟨rfl, hb_w1⟩
    obtain ⟨hc_w1, hf_w1⟩ := bcell hb_w1; have hz_w1_w_0 : w.heap.size < w1.heap.size := (by have hzz := hb_w1.size; (try simp only [World.size_alloc, World.size_setCell, World.size_drew, World.heap_drewN] at hzz); omega); have hz_w1_w_1 : w.heap.size + 1 < w1.heap.size := (by have hzz := hb_w1.size; (try simp only [World.size_alloc, World.size_setCell, World.size_drew, World.heap_drewN] at hzz); omega); have hs_w1 := hb_w1.size; (try simp only [World.size_alloc, World.size_setCell, World.size_drew, World.heap_drewN] at hs_w1)
    have b1 : Below w.heap.size w w1 := (by repeat (first | exact Below.refl _ _ | assumption | (refine below_drewN ?_ _) | (refine Below.drew ?_) | (refine Below.alloc ?_ (by first | omega | (simp; omega) | simp) _) | (refine Below.setCell ?_ (by first | omega | (simp; omega) | simp) _) | (refine below_trans ?_ (by assumption) (by first | omega | (simp; omega) | simp))))
    have t0 := (Ten.new (w.alloc (.cells #[.int .i64 pct, .int .u64 (least : Nat), .int .u64 (live : Nat), .bool on, .int .u64 (est : Nat), .int .u64 (room : Nat), .int .u64 (credit : Nat), .int .u64 (done : Nat), .int .u64 (made : Nat), .slice A ds.length c] 25)) (.int .i64 0) (.int .u64 0) (.int .u64 0) (.bool false) (.int .u64 0) (.int .u64 0) (.int .u64 0) (.int .u64 0) (.int .u64 0) (.slice none 0 0) 25).later hb_w1
    simp only [World.size_alloc] at t0
    obtain ⟨y0, y1, y2, y3, y4, y5, y6, y7, y8, y9, yf⟩ := id t0
    have ylt := t0.lt
    have b2 := below_ten (b := w.heap.size + 1) b1 (by omega) (.int .i64 0) (.int .u64 0) (.int .u64 0) (.bool false) (.int .u64 0) (.int .u64 0) (.int .u64 0) (.int .u64 0) (.int .u64 0) (.slice none 0 0)
    clear hc_w1 hf_w1
    go_wp2
    exact bodyPost_ret (res_pp2 rfl rfl (t0.all _ _ _ _ _ _ _ _ _ _)) rfl ⟨none, 0, rfl, OwnD.none _ _, b2⟩
  · have HK := Lib.hid fun (w : World) hr => xpcheck_any (w := w) (p := q) (A := A) c hf hr 0 (.inl ⟨hk, rfl⟩)
    clear hk hf
    obtain ⟨pct, least, live, on, est, room, credit, done, made, ds⟩ := q
    simp only at *
    subst ho
    go_enter Try.func23, Try.ntmps23
    go_wp2_with fail
    go_at_call 18
    refine (HK.out _ (hr.later (by repeat (first | exact Below.refl _ _ | assumption | (refine below_drewN ?_ _) | (refine Below.drew ?_) | (refine Below.alloc ?_ (by first | omega | (simp; omega) | simp) _) | (refine Below.setCell ?_ (by first | omega | (simp; omega) | simp) _) | (refine below_trans ?_ (by assumption) (by first | omega | (simp; omega) | simp)))))).mono ?_
    rintro e w1 ⟨rfl, hb_w1⟩
    obtain ⟨hc_w1, hf_w1⟩ := bcell hb_w1; have hz_w1_w_0 : w.heap.size < w1.heap.size := (by have hzz := hb_w1.size; (try simp only [World.size_alloc, World.size_setCell, World.size_drew, World.heap_drewN] at hzz); omega); have hz_w1_w_1 : w.heap.size + 1 < w1.heap.size := (by have hzz := hb_w1.size; (try simp only [World.size_alloc, World.size_setCell, World.size_drew, World.heap_drewN] at hzz); omega); have hs_w1 := hb_w1.size; (try simp only [World.size_alloc, World.size_setCell, World.size_drew, World.heap_drewN] at hs_w1)
    have b1 : Below w.heap.size w w1 := (by repeat (first | exact Below.refl _ _ | assumption | (refine below_drewN ?_ _) | (refine Below.drew ?_) | (refine Below.alloc ?_ (by first | omega | (simp; omega) | simp) _) | (refine Below.setCell ?_ (by first | omega | (simp; omega) | simp) _) | (refine below_trans ?_ (by assumption) (by first | omega | (simp; omega) | simp))))
    have t0 := (Ten.new (w.alloc (.cells #[.int .i64 pct, .int .u64 (least : Nat), .int .u64 (live : Nat), .bool false, .int .u64 (est : Nat), .int .u64 (room : Nat), .int .u64 (credit : Nat), .int .u64 (done : Nat), .int .u64 (made : Nat), .slice A ds.length c] 25)) (.int .i64 0) (.int .u64 0) (.int .u64 0) (.bool false) (.int .u64 0) (.int .u64 0) (.int .u64 0) (.int .u64 0) (.int .u64 0) (.slice none 0 0) 25).later hb_w1
    have t1 := ((Ten.new w (.int .i64 pct) (.int .u64 (least : Nat)) (.int .u64 (live : Nat)) (.bool false) (.int .u64 (est : Nat)) (.int .u64 (room : Nat)) (.int .u64 (credit : Nat)) (.int .u64 (done : Nat)) (.int .u64 (made : Nat)) (.slice A ds.length c) 25).later ((Below.refl _ _).alloc (Nat.le_refl _) (.cells #[.int .i64 0, .int .u64 0, .int .u64 0, .bool false, .int .u64 0, .int .u64 0, .int .u64 0, .int .u64 0, .int .u64 0, .slice none 0 0] 25))).later hb_w1
    simp only [World.size_alloc] at t0 t1
    clear hc_w1 hf_w1
    obtain ⟨q0, q1, q2, q3, q4, q5, q6, q7, q8, q9, qf⟩ := id t1
    go_wp2_with fail
    go_at_call 19
    refine (HT.out _ ((hr.later b1).later (by repeat (first | exact Below.refl _ _ | assumption | (refine below_drewN ?_ _) | (refine Below.drew ?_) | (refine Below.alloc ?_ (by first | omega | (simp; omega) | simp) _) | (refine Below.setCell ?_ (by first | omega | (simp; omega) | simp) _) | (refine below_trans ?_ (by assumption) (by first | omega | (simp; omega) | simp)))))).mono ?_
    rintro e w2 ⟨A2, c2, rfl, oD, hb_w2⟩
    clear q0 q1 q2 q3 q4 q5 q6 q7 q8 q9 qf
    have t0 := t0.later hb_w2
    have t1 := t1.later hb_w2
    have s2 := hb_w2.size
    (try simp only [World.size_alloc] at oD s2)
    have b2 : Below w.heap.size w w2 := (by repeat (first | exact Below.refl _ _ | assumption | (refine below_drewN ?_ _) | (refine Below.drew ?_) | (refine Below.alloc ?_ (by first | omega | (simp; omega) | simp) _) | (refine Below.setCell ?_ (by first | omega | (simp; omega) | simp) _) | (refine below_trans ?_ (by assumption) (by first | omega | (simp; omega) | simp))))
    have t1' := t1.all (.int .i64 pct) (.int .u64 (least : Nat)) (.int .u64 (live : Nat)) (.bool false) (.int .u64 (est : Nat)) (.int .u64 (room : Nat)) (.int .u64 (credit : Nat)) (.int .u64 (done : Nat)) (.int .u64 (made : Nat)) (.slice A2 ds.length c2)
    have t0' := t0.over (g := w.heap.size) (by omega) (.int .i64 pct) (.int .u64 (least : Nat)) (.int .u64 (live : Nat)) (.bool false) (.int .u64 (est : Nat)) (.int .u64 (room : Nat)) (.int .u64 (credit : Nat)) (.int .u64 (done : Nat)) (.int .u64 (made : Nat)) (.slice A2 ds.length c2)
    have oD' := oD.ten (g := w.heap.size) (.inl (by first | omega | (simp; omega) | simp)) (.int .i64 pct) (.int .u64 (least : Nat)) (.int .u64 (live : Nat)) (.bool false) (.int .u64 (est : Nat)) (.int .u64 (room : Nat)) (.int .u64 (credit : Nat)) (.int .u64 (done : Nat)) (.int .u64 (made : Nat)) (.slice A2 ds.length c2)
    have b2' := below_ten (b := w.heap.size) b2 (Nat.le_refl _) (.int .i64 pct) (.int .u64 (least : Nat)) (.int .u64 (live : Nat)) (.bool false) (.int .u64 (est : Nat)) (.int .u64 (room : Nat)) (.int .u64 (credit : Nat)) (.int .u64 (done : Nat)) (.int .u64 (made : Nat)) (.slice A2 ds.length c2)
    obtain ⟨x0, x1, x2, x3, x4, x5, x6, x7, x8, x9, xf⟩ := id t1
    obtain ⟨y0, y1, y2, y3, y4, y5, y6, y7, y8, y9, yf⟩ := id t0
    go_wp2
    exact bodyPost_ret (res_pp2 rfl rfl (t0'.all _ _ _ _ _ _ _ _ _ _)) rfl ⟨A2, c2, rfl, (oD'.ten (.inl (by omega)) _ _ _ _ _ _ _ _ _ _).mono (by omega), below_ten b2' (by omega) _ _ _ _ _ _ _ _ _ _⟩
  · have HK := Lib.hid fun (w : World) hr => xpcheck_any (w := w) (p := q) (A := A) c hf hr 0 (.inl ⟨hk, rfl⟩)
    clear hk hf
    have f1 : decide ((1099511627776 : Int) < (live2 : Int)) = true := by simp; omega
    obtain ⟨pct, least, live, on, est, room, credit, done, made, ds⟩ := q
    simp only at *
    subst ho
    go_enter Try.func23, Try.ntmps23
    go_wp2_with fail
    go_at_call 18
    refine (HK.out _ (hr.later (by repeat (first | exact Below.refl _ _ | assumption | (refine below_drewN ?_ _) | (refine Below.drew ?_) | (refine Below.alloc ?_ (by first | omega | (simp; omega) | simp) _) | (refine Below.setCell ?_ (by first | omega | (simp; omega) | simp) _) | (refine below_trans ?_ (by assumption) (by first | omega | (simp; omega) | simp)))))).mono ?_
    rintro e w1 ⟨rfl, hb_w1⟩
    obtain ⟨hc_w1, hf_w1⟩ := bcell hb_w1; have hz_w1_w_0 : w.heap.size < w1.heap.size := (by have hzz := hb_w1.size; (try simp only [World.size_alloc, World.size_setCell, World.size_drew, World.heap_drewN] at hzz); omega); have hz_w1_w_1 : w.heap.size + 1 < w1.heap.size := (by have hzz := hb_w1.size; (try simp only [World.size_alloc, World.size_setCell, World.size_drew, World.heap_drewN] at hzz); omega); have hs_w1 := hb_w1.size; (try simp only [World.size_alloc, World.size_setCell, World.size_drew, World.heap_drewN] at hs_w1)
    have b1 : Below w.heap.size w w1 := (by repeat (first | exact Below.refl _ _ | assumption | (refine below_drewN ?_ _) | (refine Below.drew ?_) | (refine Below.alloc ?_ (by first | omega | (simp; omega) | simp) _) | (refine Below.setCell ?_ (by first | omega | (simp; omega) | simp) _) | (refine below_trans ?_ (by assumption) (by first | omega | (simp; omega) | simp))))
    have t0 := (Ten.new (w.alloc (.cells #[.int .i64 pct, .int .u64 (least : Nat), .int .u64 (live : Nat), .bool true, .int .u64 (est : Nat), .int .u64 (room : Nat), .int .u64 (credit : Nat), .int .u64 (done : Nat), .int .u64 (made : Nat), .slice A ds.length c] 25)) (.int .i64 0) (.int .u64 0) (.int .u64 0) (.bool false) (.int .u64 0) (.int .u64 0) (.int .u64 0) (.int .u64 0) (.int .u64 0) (.slice none 0 0) 25).later hb_w1
    have t1 := ((Ten.new w (.int .i64 pct) (.int .u64 (least : Nat)) (.int .u64 (live : Nat)) (.bool true) (.int .u64 (est : Nat)) (.int .u64 (room : Nat)) (.int .u64 (credit : Nat)) (.int .u64 (done : Nat)) (.int .u64 (made : Nat)) (.slice A ds.length c) 25).later ((Below.refl _ _).alloc (Nat.le_refl _) (.cells #[.int .i64 0, .int .u64 0, .int .u64 0, .bool false, .int .u64 0, .int .u64 0, .int .u64 0, .int .u64 0, .int .u64 0, .slice none 0 0] 25))).later hb_w1
    simp only [World.size_alloc] at t0 t1
    clear hc_w1 hf_w1
    obtain ⟨q0, q1, q2, q3, q4, q5, q6, q7, q8, q9, qf⟩ := id t1
    go_wp2_with fail
    go_at_call 19
    refine (HT.out _ ((hr.later b1).later (by repeat (first | exact Below.refl _ _ | assumption | (refine below_drewN ?_ _) | (refine Below.drew ?_) | (refine Below.alloc ?_ (by first | omega | (simp; omega) | simp) _) | (refine Below.setCell ?_ (by first | omega | (simp; omega) | simp) _) | (refine below_trans ?_ (by assumption) (by first | omega | (simp; omega) | simp)))))).mono ?_
    rintro e w2 ⟨A2, c2, rfl, oD, hb_w2⟩
    clear q0 q1 q2 q3 q4 q5 q6 q7 q8 q9 qf
    have t0 := t0.later hb_w2
    have t1 := t1.later hb_w2
    have s2 := hb_w2.size
    (try simp only [World.size_alloc] at oD s2)
    have b2 : Below w.heap.size w w2 := (by repeat (first | exact Below.refl _ _ | assumption | (refine below_drewN ?_ _) | (refine Below.drew ?_) | (refine Below.alloc ?_ (by first | omega | (simp; omega) | simp) _) | (refine Below.setCell ?_ (by first | omega | (simp; omega) | simp) _) | (refine below_trans ?_ (by assumption) (by first | omega | (simp; omega) | simp))))
    have t1' := t1.all (.int .i64 pct) (.int .u64 (least : Nat)) (.int .u64 (live : Nat)) (.bool true) (.int .u64 (est : Nat)) (.int .u64 (room : Nat)) (.int .u64 (credit : Nat)) (.int .u64 (done : Nat)) (.int .u64 (made : Nat)) (.slice A2 ds.length c2)
    have t0' := t0.over (g := w.heap.size) (by omega) (.int .i64 pct) (.int .u64 (least : Nat)) (.int .u64 (live : Nat)) (.bool true) (.int .u64 (est : Nat)) (.int .u64 (room : Nat)) (.int .u64 (credit : Nat)) (.int .u64 (done : Nat)) (.int .u64 (made : Nat)) (.slice A2 ds.length c2)
    have oD' := oD.ten (g := w.heap.size) (.inl (by first | omega | (simp; omega) | simp)) (.int .i64 pct) (.int .u64 (least : Nat)) (.int .u64 (live : Nat)) (.bool true) (.int .u64 (est : Nat)) (.int .u64 (room : Nat)) (.int .u64 (credit : Nat)) (.int .u64 (done : Nat)) (.int .u64 (made : Nat)) (.slice A2 ds.length c2)
    have b2' := below_ten (b := w.heap.size) b2 (Nat.le_refl _) (.int .i64 pct) (.int .u64 (least : Nat)) (.int .u64 (live : Nat)) (.bool true) (.int .u64 (est : Nat)) (.int .u64 (room : Nat)) (.int .u64 (credit : Nat)) (.int .u64 (done : Nat)) (.int .u64 (made : Nat)) (.slice A2 ds.length c2)
    obtain ⟨x0, x1, x2, x3, x4, x5, x6, x7, x8, x9, xf⟩ := id t1
    obtain ⟨y0, y1, y2, y3, y4, y5, y6, y7, y8, y9, yf⟩ := id t0
    go_wp2
    exact bodyPost_ret (res_pp2 rfl rfl (t0'.all _ _ _ _ _ _ _ _ _ _)) rfl ⟨A2, c2, rfl, (oD'.ten (.inl (by omega)) _ _ _ _ _ _ _ _ _ _).mono (by omega), below_ten b2' (by omega) _ _ _ _ _ _ _ _ _ _⟩
  · have HK := Lib.hid fun (w : World) hr => xpcheck_any (w := w) (p := p) (A := A) c hf hr 0 (.inl ⟨hk, rfl⟩)
    have f1 : decide ((1099511627776 : Int) < (live2 : Int)) = false := by simp; omega
    have h6 := hk.len2
    have hmk := run_make_words p.ds.length (by omega)
    have HE : Hid (endP p live2 = ⟨p.pct, p.least, live2, false, 0, 0, 0, 0, 0, List.replicate p.ds.length 0⟩) := Lib.hid rfl
    rw [HE.out]
    clear hk hf HE
    obtain ⟨pct, least, live, on, est, room, credit, done, made, ds⟩ := p
    simp only at *
    subst ho
    go_enter Try.func23, Try.ntmps23
    go_wp2_with fail
    go_at_call 18
    refine (HK.out _ (hr.later (by repeat (first | exact Below.refl _ _ | assumption | (refine below_drewN ?_ _) | (refine Below.drew ?_) | (refine Below.alloc ?_ (by first | omega | (simp; omega) | simp) _) | (refine Below.setCell ?_ (by first | omega | (simp; omega) | simp) _) | (refine below_trans ?_ (by assumption) (by first | omega | (simp; omega) | simp)))))).mono ?_
    rintro e w1 ⟨rfl, hb_w1⟩
    obtain ⟨hc_w1, hf_w1⟩ := bcell hb_w1; have hz_w1_w_0 : w.heap.size < w1.heap.size := (by have hzz := hb_w1.size; (try simp only [World.size_alloc, World.size_setCell, World.size_drew, World.heap_drewN] at hzz); omega); have hz_w1_w_1 : w.heap.size + 1 < w1.heap.size := (by have hzz := hb_w1.size; (try simp only [World.size_alloc, World.size_setCell, World.size_drew, World.heap_drewN] at hzz); omega); have hs_w1 := hb_w1.size; (try simp only [World.size_alloc, World.size_setCell, World.size_drew, World.heap_drewN] at hs_w1)
    have b1 : Below w.heap.size w w1 := (by repeat (first | exact Below.refl _ _ | assumption | (refine below_drewN ?_ _) | (refine Below.drew ?_) | (refine Below.alloc ?_ (by first | omega | (simp; omega) | simp) _) | (refine Below.setCell ?_ (by first | omega | (simp; omega) | simp) _) | (refine below_trans ?_ (by assumption) (by first | omega | (simp; omega) | simp))))
    have t0 := (Ten.new (w.alloc (.cells #[.int .i64 pct, .int .u64 (least : Nat), .int .u64 (live : Nat), .bool true, .int .u64 (est : Nat), .int .u64 (room : Nat), .int .u64 (credit : Nat), .int .u64 (done : Nat), .int .u64 (made : Nat), .slice A ds.length c] 25)) (.int .i64 0) (.int .u64 0) (.int .u64 0) (.bool false) (.int .u64 0) (.int .u64 0) (.int .u64 0) (.int .u64 0) (.int .u64 0) (.slice none 0 0) 25).later hb_w1
    have t1 := ((Ten.new w (.int .i64 pct) (.int .u64 (least : Nat)) (.int .u64 (live : Nat)) (.bool true) (.int .u64 (est : Nat)) (.int .u64 (room : Nat)) (.int .u64 (credit : Nat)) (.int .u64 (done : Nat)) (.int .u64 (made : Nat)) (.slice A ds.length c) 25).later ((Below.refl _ _).alloc (Nat.le_refl _) (.cells #[.int .i64 0, .int .u64 0, .int .u64 0, .bool false, .int .u64 0, .int .u64 0, .int .u64 0, .int .u64 0, .int .u64 0, .slice none 0 0] 25))).later hb_w1
    simp only [World.size_alloc] at t0 t1
    clear hc_w1 hf_w1
    obtain ⟨q0, q1, q2, q3, q4, q5, q6, q7, q8, q9, qf⟩ := id t1
    go_wp2_with fail
    go_at_call 19
    refine (HT.out _ ((hr.later b1).later (by repeat (first | exact Below.refl _ _ | assumption | (refine below_drewN ?_ _) | (refine Below.drew ?_) | (refine Below.alloc ?_ (by first | omega | (simp; omega) | simp) _) | (refine Below.setCell ?_ (by first | omega | (simp; omega) | simp) _) | (refine below_trans ?_ (by assumption) (by first | omega | (simp; omega) | simp)))))).mono ?_
    rintro e w2 ⟨A2, c2, rfl, oD, hb_w2⟩
    clear q0 q1 q2 q3 q4 q5 q6 q7 q8 q9 qf
    have t0 := t0.later hb_w2
    have t1 := t1.later hb_w2
    have s2 := hb_w2.size
    (try simp only [World.size_alloc] at oD s2)
    have b2 : Below w.heap.size w w2 := (by repeat (first | exact Below.refl _ _ | assumption | (refine below_drewN ?_ _) | (refine Below.drew ?_) | (refine Below.alloc ?_ (by first | omega | (simp; omega) | simp) _) | (refine Below.setCell ?_ (by first | omega | (simp; omega) | simp) _) | (refine below_trans ?_ (by assumption) (by first | omega | (simp; omega) | simp))))
    have t1' := t1.all (.int .i64 pct) (.int .u64 (least : Nat)) (.int .u64 (live : Nat)) (.bool true) (.int .u64 (est : Nat)) (.int .u64 (room : Nat)) (.int .u64 (credit : Nat)) (.int .u64 (done : Nat)) (.int .u64 (made : Nat)) (.slice A2 ds.length c2)
    have t0' := t0.over (g := w.heap.size) (by omega) (.int .i64 pct) (.int .u64 (least : Nat)) (.int .u64 (live : Nat)) (.bool true) (.int .u64 (est : Nat)) (.int .u64 (room : Nat)) (.int .u64 (credit : Nat)) (.int .u64 (done : Nat)) (.int .u64 (made : Nat)) (.slice A2 ds.length c2)
    have oD' := oD.ten (g := w.heap.size) (.inl (by first | omega | (simp; omega) | simp)) (.int .i64 pct) (.int .u64 (least : Nat)) (.int .u64 (live : Nat)) (.bool true) (.int .u64 (est : Nat)) (.int .u64 (room : Nat)) (.int .u64 (credit : Nat)) (.int .u64 (done : Nat)) (.int .u64 (made : Nat)) (.slice A2 ds.length c2)
    have b2' := below_ten (b := w.heap.size) b2 (Nat.le_refl _) (.int .i64 pct) (.int .u64 (least : Nat)) (.int .u64 (live : Nat)) (.bool true) (.int .u64 (est : Nat)) (.int .u64 (room : Nat)) (.int .u64 (credit : Nat)) (.int .u64 (done : Nat)) (.int .u64 (made : Nat)) (.slice A2 ds.length c2)
    obtain ⟨x0, x1, x2, x3, x4, x5, x6, x7, x8, x9, xf⟩ := id t1
    obtain ⟨y0, y1, y2, y3, y4, y5, y6, y7, y8, y9, yf⟩ := id t0
    have T0 := Lib.hid t0'
    have B2 := Lib.hid b2'
    go_wp2_with fail
    have z1 := t1'
    obtain ⟨m0, m1, m2, m3, m4, m5, m6, m7, m8, m9, mf⟩ := id t1'
    obtain ⟨n0, n1, n2, n3, n4, n5, n6, n7, n8, n9, nf⟩ := id t0'
    have sW := size_ten w.heap.size w2 (.int .i64 pct) (.int .u64 (least : Nat)) (.int .u64 (live : Nat)) (.bool true) (.int .u64 (est : Nat)) (.int .u64 (room : Nat)) (.int .u64 (credit : Nat)) (.int .u64 (done : Nat)) (.int .u64 (made : Nat)) (.slice A2 ds.length c2)
    generalize hW : ((((((((((w2.setCell ⟨w.heap.size, 0, none⟩ (.int .i64 pct)).setCell ⟨w.heap.size, 1, none⟩ (.int .u64 (least : Nat))).setCell ⟨w.heap.size, 2, none⟩ (.int .u64 (live : Nat))).setCell ⟨w.heap.size, 3, none⟩ (.bool true)).setCell ⟨w.heap.size, 4, none⟩ (.int .u64 (est : Nat))).setCell ⟨w.heap.size, 5, none⟩ (.int .u64 (room : Nat))).setCell ⟨w.heap.size, 6, none⟩ (.int .u64 (credit : Nat))).setCell ⟨w.heap.size, 7, none⟩ (.int .u64 (done : Nat))).setCell ⟨w.heap.size, 8, none⟩ (.int .u64 (made : Nat))).setCell ⟨w.heap.size, 9, none⟩ (.slice A2 ds.length c2)) = W at *
    clear x0 x1 x2 x3 x4 x5 x6 x7 x8 x9 xf y0 y1 y2 y3 y4 y5 y6 y7 y8 y9 yf t0 t1 oD
    have wlt : w.heap.size + 1 < W.heap.size := by omega
    have wlt0 : w.heap.size < W.heap.size := by omega
    clear sW s2
    go_region
    go_wp2
    have hO := Own.news (w := ((((((((((W.setCell ⟨w.heap.size + 1, 0, none⟩ (.int .i64 pct)).setCell ⟨w.heap.size + 1, 1, none⟩ (.int .u64 (least : Nat))).setCell ⟨w.heap.size + 1, 2, none⟩ (.int .u64 (live2 : Nat))).setCell ⟨w.heap.size + 1, 3, none⟩ (.bool false)).setCell ⟨w.heap.size + 1, 4, none⟩ (.int .u64 0)).setCell ⟨w.heap.size + 1, 5, none⟩ (.int .u64 0)).setCell ⟨w.heap.size + 1, 6, none⟩ (.int .u64 0)).setCell ⟨w.heap.size + 1, 7, none⟩ (.int .u64 0)).setCell ⟨w.heap.size + 1, 8, none⟩ (.int .u64 0)).setCell ⟨w.heap.size + 1, 9, none⟩ (.slice (some ⟨W.heap.size, 0, none⟩) ds.length ds.length))) (l := List.replicate ds.length 0) (t := 22) (g := W.heap.size) (B := w.heap.size) (words_zeros _) (size_ten _ _ _ _ _ _ _ _ _ _ _ _).symm (by omega)
    exact bodyPost_ret (res_pp2 rfl rfl ((T0.out.all _ _ _ _ _ _ _ _ _ _).later (below_fresh _ _))) rfl ⟨some ⟨W.heap.size, 0, none⟩, ds.length, by rw [List.length_replicate]; rfl, ⟨hO.later ((Below.refl _ _).drew), by simp, fun e => (by cases e)⟩, ((below_ten B2.out (by omega) _ _ _ _ _ _ _ _ _ _).alloc (by rw [size_ten]; omega) _).drew⟩
end
end Go.Proofs.Ytkdbcoibapcmjaa
