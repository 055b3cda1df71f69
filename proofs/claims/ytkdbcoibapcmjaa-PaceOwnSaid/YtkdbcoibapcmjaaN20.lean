/- The document's own pacers: Begin, End. -/
import Derived.Test.YtkdbcoibapcmjaaN19
import Derived.Test.YtkdbcoibapcmjaaN9
namespace Go.Proofs.Ytkdbcoibapcmjaa
open Go.RowKit
set_option linter.unusedVariables false
set_option linter.unusedSimpArgs false
set_option maxRecDepth 100000

theorem ret_pv {c0 c1 c2 c3 c6 c7 c8 c9 y : Value} {X X' Y Y' : Int} (h1 : X = X') (h2 : Y = Y') : Ending.returned (.tuple #[.agg #[c0, c1, c2, c3, .int .u64 X, .int .u64 Y, c6, c7, c8, c9], y]) = .returned (.tuple #[.agg #[c0, c1, c2, c3, .int .u64 X', .int .u64 Y', c6, c7, c8, c9], y]) := by rw [h1, h2]
section
variable {w : World} {p : Pc} {A : Option Addr} (c : Nat)
set_option maxHeartbeats 4000000 in
theorem xpbegin_any (hf : FitP p) (hr : Row w w.heap.size A p.ds) (hl : p.ds.length ≤ 17592186044416) (heap : Nat) (q : Pc) (y : Int) (hE : BegE p heap q y) :
    Calls Try.prog 21 #[(.agg #[.int .i64 p.pct, .int .u64 (p.least : Nat), .int .u64 (p.live : Nat), .bool p.on, .int .u64 (p.est : Nat), .int .u64 (p.room : Nat), .int .u64 (p.credit : Nat), .int .u64 (p.done : Nat), .int .u64 (p.made : Nat), .slice A p.ds.length c]), .int .u64 (heap : Nat)] w fun e w' => ∃ A' c', e = .returned (.tuple #[(.agg #[.int .i64 q.pct, .int .u64 (q.least : Nat), .int .u64 (q.live : Nat), .bool q.on, .int .u64 (q.est : Nat), .int .u64 (q.room : Nat), .int .u64 (q.credit : Nat), .int .u64 (q.done : Nat), .int .u64 (q.made : Nat), .slice A' q.ds.length c']), .int .i64 y]) ∧ OwnD w' w.heap.size A' c' q.ds ∧ Below w.heap.size w w' := by
  have HT := Lib.hid fun (w : World) hr => xpcopy_any (w := w) (p := p) (A := A) c hr hl
  rcases hE with ⟨hk, rfl, rfl⟩ | ⟨hk, ho, rfl, rfl⟩ | ⟨hk, ho, hh, rfl, rfl⟩ | ⟨hk, ho, hh, rfl, rfl⟩
  · clear HT
    have HK := Lib.hid fun (w : World) hr => xpcheck_any (w := w) (p := p) (A := A) c hf hr 2 (.inr ⟨hk, rfl⟩)
    clear hk hf
    obtain ⟨pct, least, live, on, est, room, credit, done, made, ds⟩ := p
    simp only at *
    go_enter Try.func21, Try.ntmps21
    go_wp2_with fail
    go_at_call 18
    refine (HK.out _ (hr.later (by repeat (first | exact Below.refl _ _ | assumption | (refine below_drewN ?_ _) | (refine Below.drew ?_) | (refine Below.alloc ?_ (by first | omega | (simp; omega) | simp) _) | (refine Below.setCell ?_ (by first | omega | (simp; omega) | simp) _) | (refine below_trans ?_ (by assumption) (by first | omega | (simp; omega) | simp)))))).mono ?_
    rintro e w1 ⟨rfl, hb_w1⟩
    obtain ⟨hc_w1, hf_w1⟩ := bcell hb_w1; have hz_w1_w_0 : w.heap.size < w1.heap.size := (by have hzz := hb_w1.size; (try simp only [World.size_alloc, World.size_setCell, World.size_drew, World.heap_drewN] at hzz); omega); have hz_w1_w_1 : w.heap.size + 1 < w1.heap.size := (by have hzz := hb_w1.size; (try simp only [World.size_alloc, World.size_setCell, World.size_drew, World.heap_drewN] at hzz); omega); have hs_w1 := hb_w1.size; (try simp only [World.size_alloc, World.size_setCell, World.size_drew, World.heap_drewN] at hs_w1)
    have b1 : Below w.heap.size w w1 := (by repeat (first | exact Below.refl _ _ | assumption | (refine below_drewN ?_ _) | (refine Below.drew ?_) | (refine Below.alloc ?_ (by first | omega | (simp; omega) | simp) _) | (refine Below.setCell ?_ (by first | omega | (simp; omega) | simp) _) | (refine below_trans ?_ (by assumption) (by first | omega | (simp; omega) | simp))))
    have t0 := (Ten.new (w.alloc (.cells #[.int .i64 pct, .int .u64 (least : Nat), .int .u64 (live : Nat), .bool on, .int .u64 (est : Nat), .int .u64 (room : Nat), .int .u64 (credit : Nat), .int .u64 (done : Nat), .int .u64 (made : Nat), .slice A ds.length c] 25)) (.int .i64 0) (.int .u64 0) (.int .u64 0) (.bool false) (.int .u64 0) (.int .u64 0) (.int .u64 0) (.int .u64 0) (.int .u64 0) (.slice none 0 0) 25).later hb_w1
    simp only [World.size_alloc] at t0
    obtain ⟨y0, y1, y2, y3, y4, y5, y6, y7, y8, y9, yf⟩ := id t0
    have ylt := t0.lt
    have b2 := below_ten (b := w.heap.size + 1) b1 (by omega) (.int .i64 0) (.int .u64 0) (.int .u64 0) (.bool false) (.int .u64 0) (.int .u64 0) (.int .u64 0) (.int .u64 0) (.int .u64 0) (.slice none 0 0)
    clear hc_w1 hf_w1
    go_wp2
    exact bodyPost_ret (res_pp2 rfl rfl (t0.all _ _ _ _ _ _ _ _ _ _)) rfl ⟨none, 0, rfl, OwnD.none _ _, b2⟩
  · have HK := Lib.hid fun (w : World) hr => xpcheck_any (w := w) (p := q) (A := A) c hf hr 0 (.inl ⟨hk, rfl⟩)
    clear hk hf
    obtain ⟨pct, least, live, on, est, room, credit, done, made, ds⟩ := q
    simp only at *
    subst ho
    go_enter Try.func21, Try.ntmps21
    go_wp2_with fail
    go_at_call 18
    refine (HK.out _ (hr.later (by repeat (first | exact Below.refl _ _ | assumption | (refine below_drewN ?_ _) | (refine Below.drew ?_) | (refine Below.alloc ?_ (by first | omega | (simp; omega) | simp) _) | (refine Below.setCell ?_ (by first | omega | (simp; omega) | simp) _) | (refine below_trans ?_ (by assumption) (by first | omega | (simp; omega) | simp)))))).mono ?_
    rintro e w1 ⟨rfl, hb_w1⟩
    obtain ⟨hc_w1, hf_w1⟩ := bcell hb_w1; have hz_w1_w_0 : w.heap.size < w1.heap.size := (by have hzz := hb_w1.size; (try simp only [World.size_alloc, World.size_setCell, World.size_drew, World.heap_drewN] at hzz); omega); have hz_w1_w_1 : w.heap.size + 1 < w1.heap.size := (by have hzz := hb_w1.size; (try simp only [World.size_alloc, World.size_setCell, World.size_drew, World.heap_drewN] at hzz); omega); have hs_w1 := hb_w1.size; (try simp only [World.size_alloc, World.size_setCell, World.size_drew, World.heap_drewN] at hs_w1)
    have b1 : Below w.heap.size w w1 := (by repeat (first | exact Below.refl _ _ | assumption | (refine below_drewN ?_ _) | (refine Below.drew ?_) | (refine Below.alloc ?_ (by first | omega | (simp; omega) | simp) _) | (refine Below.setCell ?_ (by first | omega | (simp; omega) | simp) _) | (refine below_trans ?_ (by assumption) (by first | omega | (simp; omega) | simp))))
    have t0 := (Ten.new (w.alloc (.cells #[.int .i64 pct, .int .u64 (least : Nat), .int .u64 (live : Nat), .bool true, .int .u64 (est : Nat), .int .u64 (room : Nat), .int .u64 (credit : Nat), .int .u64 (done : Nat), .int .u64 (made : Nat), .slice A ds.length c] 25)) (.int .i64 0) (.int .u64 0) (.int .u64 0) (.bool false) (.int .u64 0) (.int .u64 0) (.int .u64 0) (.int .u64 0) (.int .u64 0) (.slice none 0 0) 25).later hb_w1
    have t1 := ((Ten.new w (.int .i64 pct) (.int .u64 (least : Nat)) (.int .u64 (live : Nat)) (.bool true) (.int .u64 (est : Nat)) (.int .u64 (room : Nat)) (.int .u64 (credit : Nat)) (.int .u64 (done : Nat)) (.int .u64 (made : Nat)) (.slice A ds.length c) 25).later ((Below.refl _ _).alloc (Nat.le_refl _) (.cells #[.int .i64 0, .int .u64 0, .int .u64 0, .bool false, .int .u64 0, .int .u64 0, .int .u64 0, .int .u64 0, .int .u64 0, .slice none 0 0] 25))).later hb_w1
    simp only [World.size_alloc] at t0 t1
    clear hc_w1 hf_w1
    obtain ⟨q0, q1, q2, q3, q4, q5, q6, q7, q8, q9, qf⟩ := id t1
    go_wp2_with fail
    go_at_call 19
    refine (HT.out _ ((hr.later b1).later (by repeat (first | exact Below.refl _ _ | assumption | (refine below_drewN ?_ _) | (refine Below.drew ?_) | (refine Below.alloc ?_ (by first | omega | (simp; omega) | simp) _) | (refine Below.setCell ?_ (by first | omega | (simp; omega) | simp) _) | (refine below_trans ?_ (by assumption) (by first | omega | (simp; omega) | simp)))))).mono ?_
    rintro e w2 ⟨A2, c2, rfl, oD, hb_w2⟩
    clear q0 q1 q2 q3 q4 q5 q6 q7 q8 q9 qf
    have t0 := t0.later hb_w2
    have t1 := t1.later hb_w2
    have s2 := hb_w2.size
    (try simp only [World.size_alloc] at oD s2)
    have b2 : Below w.heap.size w w2 := (by repeat (first | exact Below.refl _ _ | assumption | (refine below_drewN ?_ _) | (refine Below.drew ?_) | (refine Below.alloc ?_ (by first | omega | (simp; omega) | simp) _) | (refine Below.setCell ?_ (by first | omega | (simp; omega) | simp) _) | (refine below_trans ?_ (by assumption) (by first | omega | (simp; omega) | simp))))
    have t1' := t1.all (.int .i64 pct) (.int .u64 (least : Nat)) (.int .u64 (live : Nat)) (.bool true) (.int .u64 (est : Nat)) (.int .u64 (room : Nat)) (.int .u64 (credit : Nat)) (.int .u64 (done : Nat)) (.int .u64 (made : Nat)) (.slice A2 ds.length c2)
    have t0' := t0.over (g := w.heap.size) (by omega) (.int .i64 pct) (.int .u64 (least : Nat)) (.int .u64 (live : Nat)) (.bool true) (.int .u64 (est : Nat)) (.int .u64 (room : Nat)) (.int .u64 (credit : Nat)) (.int .u64 (done : Nat)) (.int .u64 (made : Nat)) (.slice A2 ds.length c2)
    have oD' := oD.ten (g := w.heap.size) (.inl (by first | omega | (simp; omega) | simp)) (.int .i64 pct) (.int .u64 (least : Nat)) (.int .u64 (live : Nat)) (.bool true) (.int .u64 (est : Nat)) (.int .u64 (room : Nat)) (.int .u64 (credit : Nat)) (.int .u64 (done : Nat)) (.int .u64 (made : Nat)) (.slice A2 ds.length c2)
    have b2' := below_ten (b := w.heap.size) b2 (Nat.le_refl _) (.int .i64 pct) (.int .u64 (least : Nat)) (.int .u64 (live : Nat)) (.bool true) (.int .u64 (est : Nat)) (.int .u64 (room : Nat)) (.int .u64 (credit : Nat)) (.int .u64 (done : Nat)) (.int .u64 (made : Nat)) (.slice A2 ds.length c2)
    obtain ⟨x0, x1, x2, x3, x4, x5, x6, x7, x8, x9, xf⟩ := id t1
    obtain ⟨y0, y1, y2, y3, y4, y5, y6, y7, y8, y9, yf⟩ := id t0
    go_wp2
    exact bodyPost_ret (res_pp2 rfl rfl (t0'.all _ _ _ _ _ _ _ _ _ _)) rfl ⟨A2, c2, rfl, (oD'.ten (.inl (by omega)) _ _ _ _ _ _ _ _ _ _).mono (by omega), below_ten b2' (by omega) _ _ _ _ _ _ _ _ _ _⟩
  · have HK := Lib.hid fun (w : World) hr => xpcheck_any (w := w) (p := q) (A := A) c hf hr 0 (.inl ⟨hk, rfl⟩)
    clear hk hf
    have f1 : decide ((1099511627776 : Int) < (heap : Int)) = true := by simp; omega
    obtain ⟨pct, least, live, on, est, room, credit, done, made, ds⟩ := q
    simp only at *
    subst ho
    go_enter Try.func21, Try.ntmps21
    go_wp2_with fail
    go_at_call 18
    refine (HK.out _ (hr.later (by repeat (first | exact Below.refl _ _ | assumption | (refine below_drewN ?_ _) | (refine Below.drew ?_) | (refine Below.alloc ?_ (by first | omega | (simp; omega) | simp) _) | (refine Below.setCell ?_ (by first | omega | (simp; omega) | simp) _) | (refine below_trans ?_ (by assumption) (by first | omega | (simp; omega) | simp)))))).mono ?_
    rintro e w1 ⟨rfl, hb_w1⟩
    obtain ⟨hc_w1, hf_w1⟩ := bcell hb_w1; have hz_w1_w_0 : w.heap.size < w1.heap.size := (by have hzz := hb_w1.size; (try simp only [World.size_alloc, World.size_setCell, World.size_drew, World.heap_drewN] at hzz); omega); have hz_w1_w_1 : w.heap.size + 1 < w1.heap.size := (by have hzz := hb_w1.size; (try simp only [World.size_alloc, World.size_setCell, World.size_drew, World.heap_drewN] at hzz); omega); have hs_w1 := hb_w1.size; (try simp only [World.size_alloc, World.size_setCell, World.size_drew, World.heap_drewN] at hs_w1)
    have b1 : Below w.heap.size w w1 := (by repeat (first | exact Below.refl _ _ | assumption | (refine below_drewN ?_ _) | (refine Below.drew ?_) | (refine Below.alloc ?_ (by first | omega | (simp; omega) | simp) _) | (refine Below.setCell ?_ (by first | omega | (simp; omega) | simp) _) | (refine below_trans ?_ (by assumption) (by first | omega | (simp; omega) | simp))))
    have t0 := (Ten.new (w.alloc (.cells #[.int .i64 pct, .int .u64 (least : Nat), .int .u64 (live : Nat), .bool false, .int .u64 (est : Nat), .int .u64 (room : Nat), .int .u64 (credit : Nat), .int .u64 (done : Nat), .int .u64 (made : Nat), .slice A ds.length c] 25)) (.int .i64 0) (.int .u64 0) (.int .u64 0) (.bool false) (.int .u64 0) (.int .u64 0) (.int .u64 0) (.int .u64 0) (.int .u64 0) (.slice none 0 0) 25).later hb_w1
    have t1 := ((Ten.new w (.int .i64 pct) (.int .u64 (least : Nat)) (.int .u64 (live : Nat)) (.bool false) (.int .u64 (est : Nat)) (.int .u64 (room : Nat)) (.int .u64 (credit : Nat)) (.int .u64 (done : Nat)) (.int .u64 (made : Nat)) (.slice A ds.length c) 25).later ((Below.refl _ _).alloc (Nat.le_refl _) (.cells #[.int .i64 0, .int .u64 0, .int .u64 0, .bool false, .int .u64 0, .int .u64 0, .int .u64 0, .int .u64 0, .int .u64 0, .slice none 0 0] 25))).later hb_w1
    simp only [World.size_alloc] at t0 t1
    clear hc_w1 hf_w1
    obtain ⟨q0, q1, q2, q3, q4, q5, q6, q7, q8, q9, qf⟩ := id t1
    go_wp2_with fail
    go_at_call 19
    refine (HT.out _ ((hr.later b1).later (by repeat (first | exact Below.refl _ _ | assumption | (refine below_drewN ?_ _) | (refine Below.drew ?_) | (refine Below.alloc ?_ (by first | omega | (simp; omega) | simp) _) | (refine Below.setCell ?_ (by first | omega | (simp; omega) | simp) _) | (refine below_trans ?_ (by assumption) (by first | omega | (simp; omega) | simp)))))).mono ?_
    rintro e w2 ⟨A2, c2, rfl, oD, hb_w2⟩
    clear q0 q1 q2 q3 q4 q5 q6 q7 q8 q9 qf
    have t0 := t0.later hb_w2
    have t1 := t1.later hb_w2
    have s2 := hb_w2.size
    (try simp only [World.size_alloc] at oD s2)
    have b2 : Below w.heap.size w w2 := (by repeat (first | exact Below.refl _ _ | assumption | (refine below_drewN ?_ _) | (refine Below.drew ?_) | (refine Below.alloc ?_ (by first | omega | (simp; omega) | simp) _) | (refine Below.setCell ?_ (by first | omega | (simp; omega) | simp) _) | (refine below_trans ?_ (by assumption) (by first | omega | (simp; omega) | simp))))
    have t1' := t1.all (.int .i64 pct) (.int .u64 (least : Nat)) (.int .u64 (live : Nat)) (.bool false) (.int .u64 (est : Nat)) (.int .u64 (room : Nat)) (.int .u64 (credit : Nat)) (.int .u64 (done : Nat)) (.int .u64 (made : Nat)) (.slice A2 ds.length c2)
    have t0' := t0.over (g := w.heap.size) (by omega) (.int .i64 pct) (.int .u64 (least : Nat)) (.int .u64 (live : Nat)) (.bool false) (.int .u64 (est : Nat)) (.int .u64 (room : Nat)) (.int .u64 (credit : Nat)) (.int .u64 (done : Nat)) (.int .u64 (made : Nat)) (.slice A2 ds.length c2)
    have oD' := oD.ten (g := w.heap.size) (.inl (by first | omega | (simp; omega) | simp)) (.int .i64 pct) (.int .u64 (least : Nat)) (.int .u64 (live : Nat)) (.bool false) (.int .u64 (est : Nat)) (.int .u64 (room : Nat)) (.int .u64 (credit : Nat)) (.int .u64 (done : Nat)) (.int .u64 (made : Nat)) (.slice A2 ds.length c2)
    have b2' := below_ten (b := w.heap.size) b2 (Nat.le_refl _) (.int .i64 pct) (.int .u64 (least : Nat)) (.int .u64 (live : Nat)) (.bool false) (.int .u64 (est : Nat)) (.int .u64 (room : Nat)) (.int .u64 (credit : Nat)) (.int .u64 (done : Nat)) (.int .u64 (made : Nat)) (.slice A2 ds.length c2)
    obtain ⟨x0, x1, x2, x3, x4, x5, x6, x7, x8, x9, xf⟩ := id t1
    obtain ⟨y0, y1, y2, y3, y4, y5, y6, y7, y8, y9, yf⟩ := id t0
    go_wp2
    exact bodyPost_ret (res_pp2 rfl rfl (t0'.all _ _ _ _ _ _ _ _ _ _)) rfl ⟨A2, c2, rfl, (oD'.ten (.inl (by omega)) _ _ _ _ _ _ _ _ _ _).mono (by omega), below_ten b2' (by omega) _ _ _ _ _ _ _ _ _ _⟩
  · have HK := Lib.hid fun (w : World) hr => xpcheck_any (w := w) (p := p) (A := A) c hf hr 0 (.inl ⟨hk, rfl⟩)
    have f1 : decide ((1099511627776 : Int) < (heap : Int)) = false := by simp; omega
    have HG := Lib.hid fun (w : World) (A : Option Addr) (c : Nat) => xpgoal_any (w := w) (p := p) (A := A) c hk
    have h3 := hk.live; have h5 := goalP_le p; have h6 := goalP_pos hk
    have HR : Hid ((begP p heap).room = max (max (goalP p - min heap (goalP p)) (goalP p / 20)) 1) := Lib.hid rfl
    have HE : Hid ((begP p heap).est = max p.live 1) := Lib.hid rfl
    have HQ : Hid ((begP p heap).pct = p.pct ∧ (begP p heap).least = p.least ∧ (begP p heap).live = p.live ∧ (begP p heap).on = true ∧ (begP p heap).credit = p.credit ∧ (begP p heap).done = p.done ∧ (begP p heap).made = p.made ∧ (begP p heap).ds = p.ds) := Lib.hid ⟨rfl, rfl, rfl, rfl, rfl, rfl, rfl, rfl⟩
    generalize goalP p = g at *
    generalize begP p heap = q at *
    obtain ⟨q0, q1, q2, q3, q4, q5, q6, q7⟩ := HQ.out
    rw [q0, q1, q2, q3, q4, q5, q6, q7, HE.out, HR.out]
    clear q0 q1 q2 q3 q4 q5 q6 q7 HQ HE HR hk hf
    obtain ⟨pct, least, live, on, est, room, credit, done, made, ds⟩ := p
    simp only at *
    subst ho
    go_enter Try.func21, Try.ntmps21
    go_wp2_with fail
    go_at_call 18
    refine (HK.out _ (hr.later (by repeat (first | exact Below.refl _ _ | assumption | (refine below_drewN ?_ _) | (refine Below.drew ?_) | (refine Below.alloc ?_ (by first | omega | (simp; omega) | simp) _) | (refine Below.setCell ?_ (by first | omega | (simp; omega) | simp) _) | (refine below_trans ?_ (by assumption) (by first | omega | (simp; omega) | simp)))))).mono ?_
    rintro e w1 ⟨rfl, hb_w1⟩
    obtain ⟨hc_w1, hf_w1⟩ := bcell hb_w1; have hz_w1_w_0 : w.heap.size < w1.heap.size := (by have hzz := hb_w1.size; (try simp only [World.size_alloc, World.size_setCell, World.size_drew, World.heap_drewN] at hzz); omega); have hz_w1_w_1 : w.heap.size + 1 < w1.heap.size := (by have hzz := hb_w1.size; (try simp only [World.size_alloc, World.size_setCell, World.size_drew, World.heap_drewN] at hzz); omega); have hs_w1 := hb_w1.size; (try simp only [World.size_alloc, World.size_setCell, World.size_drew, World.heap_drewN] at hs_w1)
    have b1 : Below w.heap.size w w1 := (by repeat (first | exact Below.refl _ _ | assumption | (refine below_drewN ?_ _) | (refine Below.drew ?_) | (refine Below.alloc ?_ (by first | omega | (simp; omega) | simp) _) | (refine Below.setCell ?_ (by first | omega | (simp; omega) | simp) _) | (refine below_trans ?_ (by assumption) (by first | omega | (simp; omega) | simp))))
    have t0 := (Ten.new (w.alloc (.cells #[.int .i64 pct, .int .u64 (least : Nat), .int .u64 (live : Nat), .bool false, .int .u64 (est : Nat), .int .u64 (room : Nat), .int .u64 (credit : Nat), .int .u64 (done : Nat), .int .u64 (made : Nat), .slice A ds.length c] 25)) (.int .i64 0) (.int .u64 0) (.int .u64 0) (.bool false) (.int .u64 0) (.int .u64 0) (.int .u64 0) (.int .u64 0) (.int .u64 0) (.slice none 0 0) 25).later hb_w1
    have t1 := ((Ten.new w (.int .i64 pct) (.int .u64 (least : Nat)) (.int .u64 (live : Nat)) (.bool false) (.int .u64 (est : Nat)) (.int .u64 (room : Nat)) (.int .u64 (credit : Nat)) (.int .u64 (done : Nat)) (.int .u64 (made : Nat)) (.slice A ds.length c) 25).later ((Below.refl _ _).alloc (Nat.le_refl _) (.cells #[.int .i64 0, .int .u64 0, .int .u64 0, .bool false, .int .u64 0, .int .u64 0, .int .u64 0, .int .u64 0, .int .u64 0, .slice none 0 0] 25))).later hb_w1
    simp only [World.size_alloc] at t0 t1
    clear hc_w1 hf_w1
    obtain ⟨q0, q1, q2, q3, q4, q5, q6, q7, q8, q9, qf⟩ := id t1
    go_wp2_with fail
    go_at_call 19
    refine (HT.out _ ((hr.later b1).later (by repeat (first | exact Below.refl _ _ | assumption | (refine below_drewN ?_ _) | (refine Below.drew ?_) | (refine Below.alloc ?_ (by first | omega | (simp; omega) | simp) _) | (refine Below.setCell ?_ (by first | omega | (simp; omega) | simp) _) | (refine below_trans ?_ (by assumption) (by first | omega | (simp; omega) | simp)))))).mono ?_
    rintro e w2 ⟨A2, c2, rfl, oD, hb_w2⟩
    clear q0 q1 q2 q3 q4 q5 q6 q7 q8 q9 qf
    have t0 := t0.later hb_w2
    have t1 := t1.later hb_w2
    have s2 := hb_w2.size
    (try simp only [World.size_alloc] at oD s2)
    have b2 : Below w.heap.size w w2 := (by repeat (first | exact Below.refl _ _ | assumption | (refine below_drewN ?_ _) | (refine Below.drew ?_) | (refine Below.alloc ?_ (by first | omega | (simp; omega) | simp) _) | (refine Below.setCell ?_ (by first | omega | (simp; omega) | simp) _) | (refine below_trans ?_ (by assumption) (by first | omega | (simp; omega) | simp))))
    have t1' := t1.all (.int .i64 pct) (.int .u64 (least : Nat)) (.int .u64 (live : Nat)) (.bool false) (.int .u64 (est : Nat)) (.int .u64 (room : Nat)) (.int .u64 (credit : Nat)) (.int .u64 (done : Nat)) (.int .u64 (made : Nat)) (.slice A2 ds.length c2)
    have t0' := t0.over (g := w.heap.size) (by omega) (.int .i64 pct) (.int .u64 (least : Nat)) (.int .u64 (live : Nat)) (.bool false) (.int .u64 (est : Nat)) (.int .u64 (room : Nat)) (.int .u64 (credit : Nat)) (.int .u64 (done : Nat)) (.int .u64 (made : Nat)) (.slice A2 ds.length c2)
    have oD' := oD.ten (g := w.heap.size) (.inl (by first | omega | (simp; omega) | simp)) (.int .i64 pct) (.int .u64 (least : Nat)) (.int .u64 (live : Nat)) (.bool false) (.int .u64 (est : Nat)) (.int .u64 (room : Nat)) (.int .u64 (credit : Nat)) (.int .u64 (done : Nat)) (.int .u64 (made : Nat)) (.slice A2 ds.length c2)
    have b2' := below_ten (b := w.heap.size) b2 (Nat.le_refl _) (.int .i64 pct) (.int .u64 (least : Nat)) (.int .u64 (live : Nat)) (.bool false) (.int .u64 (est : Nat)) (.int .u64 (room : Nat)) (.int .u64 (credit : Nat)) (.int .u64 (done : Nat)) (.int .u64 (made : Nat)) (.slice A2 ds.length c2)
    obtain ⟨x0, x1, x2, x3, x4, x5, x6, x7, x8, x9, xf⟩ := id t1
    obtain ⟨y0, y1, y2, y3, y4, y5, y6, y7, y8, y9, yf⟩ := id t0
    go_wp2_with fail
    go_at_call 31
    refine (HG.out _ _ _).mono ?_
    rintro e w3 ⟨rfl, hb_w3⟩
    have s3 := hb_w3.size
    rw [size_ten] at s3
    have u0 := t0'.later hb_w3
    have u1 := t1'.later hb_w3
    have oD3 := oD'.later hb_w3
    have b3 := below_trans b2' hb_w3 b2'.size
    clear x0 x1 x2 x3 x4 x5 x6 x7 x8 x9 xf y0 y1 y2 y3 y4 y5 y6 y7 y8 y9 yf
    obtain ⟨m0, m1, m2, m3, m4, m5, m6, m7, m8, m9, mf⟩ := id u1
    obtain ⟨n0, n1, n2, n3, n4, n5, n6, n7, n8, n9, nf⟩ := id u0
    have H4 : ∀ (R V : Value), (((w3.setCell ⟨w.heap.size, 3, none⟩ (.bool true)).setCell ⟨w.heap.size, 5, none⟩ R).setCell ⟨w.heap.size, 4, none⟩ V).cell? ⟨w.heap.size, 4, none⟩ = some V := fun R V => (((u1.set3 _).set5 _).set4 _).c4
    have H44 : ∀ (R V V' : Value), ((((w3.setCell ⟨w.heap.size, 3, none⟩ (.bool true)).setCell ⟨w.heap.size, 5, none⟩ R).setCell ⟨w.heap.size, 4, none⟩ V).setCell ⟨w.heap.size, 4, none⟩ V').cell? ⟨w.heap.size, 4, none⟩ = some V' := fun R V V' => ((((u1.set3 _).set5 _).set4 _).set4 _).c4
    have T0 := Lib.hid u0
    have O3 := Lib.hid oD3
    have B3 := Lib.hid b3
    clear u0 u1 oD3 b3 t0 t1 t0' t1' oD oD' b1 b2 b2' hb_w2 hb_w3 HT HK HG hr
    by_cases hlv : live < 1
    · by_cases ha : heap < g
      · obtain ⟨z, hz⟩ : ∃ z : Nat, g = heap + z := ⟨g - heap, by omega⟩
        have hzw : IntKind.u64.wrap ((g : Int) - (heap : Int)) = (z : Int) := by rw [IntKind.wrap_u64]; omega
        have HZ := Lib.hid hz
        clear hz
        by_cases hb : 1 < z
        · by_cases hd : z < g / 20
          · go_wp2
            have hz := HZ.out
            have u0 := T0.out
            have oD3 := O3.out
            have b3 := B3.out
            exact bodyPost_ret (res_pp2 rfl rfl (((((u0.far (p := ⟨w.heap.size, 3, none⟩) (show w.heap.size ≠ w.heap.size + 1 by omega) _).far (p := ⟨w.heap.size, 5, none⟩) (show w.heap.size ≠ w.heap.size + 1 by omega) _).far (p := ⟨w.heap.size, 4, none⟩) (show w.heap.size ≠ w.heap.size + 1 by omega) _).far (p := ⟨w.heap.size, 4, none⟩) (show w.heap.size ≠ w.heap.size + 1 by omega) _).all _ _ _ _ _ _ _ _ _ _)) rfl ⟨A2, c2, ret_pv (by omega) (by omega), (((((oD3.far (p := ⟨w.heap.size, 3, none⟩) (.inl (show w.heap.size < _ by omega)) _).far (p := ⟨w.heap.size, 5, none⟩) (.inl (show w.heap.size < _ by omega)) _).far (p := ⟨w.heap.size, 4, none⟩) (.inl (show w.heap.size < _ by omega)) _).far (p := ⟨w.heap.size, 4, none⟩) (.inl (show w.heap.size < _ by omega)) _).ten (.inl (by omega)) _ _ _ _ _ _ _ _ _ _).mono (by omega), below_ten ((((b3.setCell (p := ⟨w.heap.size, 3, none⟩) (Nat.le_refl _) _).setCell (p := ⟨w.heap.size, 5, none⟩) (Nat.le_refl _) _).setCell (p := ⟨w.heap.size, 4, none⟩) (Nat.le_refl _) _).setCell (p := ⟨w.heap.size, 4, none⟩) (Nat.le_refl _) _) (by omega) _ _ _ _ _ _ _ _ _ _⟩
          · go_wp2
            have hz := HZ.out
            have u0 := T0.out
            have oD3 := O3.out
            have b3 := B3.out
            exact bodyPost_ret (res_pp2 rfl rfl (((((u0.far (p := ⟨w.heap.size, 3, none⟩) (show w.heap.size ≠ w.heap.size + 1 by omega) _).far (p := ⟨w.heap.size, 5, none⟩) (show w.heap.size ≠ w.heap.size + 1 by omega) _).far (p := ⟨w.heap.size, 4, none⟩) (show w.heap.size ≠ w.heap.size + 1 by omega) _).far (p := ⟨w.heap.size, 4, none⟩) (show w.heap.size ≠ w.heap.size + 1 by omega) _).all _ _ _ _ _ _ _ _ _ _)) rfl ⟨A2, c2, ret_pv (by omega) (by omega), (((((oD3.far (p := ⟨w.heap.size, 3, none⟩) (.inl (show w.heap.size < _ by omega)) _).far (p := ⟨w.heap.size, 5, none⟩) (.inl (show w.heap.size < _ by omega)) _).far (p := ⟨w.heap.size, 4, none⟩) (.inl (show w.heap.size < _ by omega)) _).far (p := ⟨w.heap.size, 4, none⟩) (.inl (show w.heap.size < _ by omega)) _).ten (.inl (by omega)) _ _ _ _ _ _ _ _ _ _).mono (by omega), below_ten ((((b3.setCell (p := ⟨w.heap.size, 3, none⟩) (Nat.le_refl _) _).setCell (p := ⟨w.heap.size, 5, none⟩) (Nat.le_refl _) _).setCell (p := ⟨w.heap.size, 4, none⟩) (Nat.le_refl _) _).setCell (p := ⟨w.heap.size, 4, none⟩) (Nat.le_refl _) _) (by omega) _ _ _ _ _ _ _ _ _ _⟩
        · by_cases hd : 1 < g / 20
          · go_wp2
            have hz := HZ.out
            have u0 := T0.out
            have oD3 := O3.out
            have b3 := B3.out
            exact bodyPost_ret (res_pp2 rfl rfl (((((u0.far (p := ⟨w.heap.size, 3, none⟩) (show w.heap.size ≠ w.heap.size + 1 by omega) _).far (p := ⟨w.heap.size, 5, none⟩) (show w.heap.size ≠ w.heap.size + 1 by omega) _).far (p := ⟨w.heap.size, 4, none⟩) (show w.heap.size ≠ w.heap.size + 1 by omega) _).far (p := ⟨w.heap.size, 4, none⟩) (show w.heap.size ≠ w.heap.size + 1 by omega) _).all _ _ _ _ _ _ _ _ _ _)) rfl ⟨A2, c2, ret_pv (by omega) (by omega), (((((oD3.far (p := ⟨w.heap.size, 3, none⟩) (.inl (show w.heap.size < _ by omega)) _).far (p := ⟨w.heap.size, 5, none⟩) (.inl (show w.heap.size < _ by omega)) _).far (p := ⟨w.heap.size, 4, none⟩) (.inl (show w.heap.size < _ by omega)) _).far (p := ⟨w.heap.size, 4, none⟩) (.inl (show w.heap.size < _ by omega)) _).ten (.inl (by omega)) _ _ _ _ _ _ _ _ _ _).mono (by omega), below_ten ((((b3.setCell (p := ⟨w.heap.size, 3, none⟩) (Nat.le_refl _) _).setCell (p := ⟨w.heap.size, 5, none⟩) (Nat.le_refl _) _).setCell (p := ⟨w.heap.size, 4, none⟩) (Nat.le_refl _) _).setCell (p := ⟨w.heap.size, 4, none⟩) (Nat.le_refl _) _) (by omega) _ _ _ _ _ _ _ _ _ _⟩
          · go_wp2
            have hz := HZ.out
            have u0 := T0.out
            have oD3 := O3.out
            have b3 := B3.out
            exact bodyPost_ret (res_pp2 rfl rfl (((((u0.far (p := ⟨w.heap.size, 3, none⟩) (show w.heap.size ≠ w.heap.size + 1 by omega) _).far (p := ⟨w.heap.size, 5, none⟩) (show w.heap.size ≠ w.heap.size + 1 by omega) _).far (p := ⟨w.heap.size, 4, none⟩) (show w.heap.size ≠ w.heap.size + 1 by omega) _).far (p := ⟨w.heap.size, 4, none⟩) (show w.heap.size ≠ w.heap.size + 1 by omega) _).all _ _ _ _ _ _ _ _ _ _)) rfl ⟨A2, c2, ret_pv (by omega) (by omega), (((((oD3.far (p := ⟨w.heap.size, 3, none⟩) (.inl (show w.heap.size < _ by omega)) _).far (p := ⟨w.heap.size, 5, none⟩) (.inl (show w.heap.size < _ by omega)) _).far (p := ⟨w.heap.size, 4, none⟩) (.inl (show w.heap.size < _ by omega)) _).far (p := ⟨w.heap.size, 4, none⟩) (.inl (show w.heap.size < _ by omega)) _).ten (.inl (by omega)) _ _ _ _ _ _ _ _ _ _).mono (by omega), below_ten ((((b3.setCell (p := ⟨w.heap.size, 3, none⟩) (Nat.le_refl _) _).setCell (p := ⟨w.heap.size, 5, none⟩) (Nat.le_refl _) _).setCell (p := ⟨w.heap.size, 4, none⟩) (Nat.le_refl _) _).setCell (p := ⟨w.heap.size, 4, none⟩) (Nat.le_refl _) _) (by omega) _ _ _ _ _ _ _ _ _ _⟩
      · by_cases hd : 1 < g / 20
        · go_wp2
          have u0 := T0.out
          have oD3 := O3.out
          have b3 := B3.out
          exact bodyPost_ret (res_pp2 rfl rfl (((((u0.far (p := ⟨w.heap.size, 3, none⟩) (show w.heap.size ≠ w.heap.size + 1 by omega) _).far (p := ⟨w.heap.size, 5, none⟩) (show w.heap.size ≠ w.heap.size + 1 by omega) _).far (p := ⟨w.heap.size, 4, none⟩) (show w.heap.size ≠ w.heap.size + 1 by omega) _).far (p := ⟨w.heap.size, 4, none⟩) (show w.heap.size ≠ w.heap.size + 1 by omega) _).all _ _ _ _ _ _ _ _ _ _)) rfl ⟨A2, c2, ret_pv (by omega) (by omega), (((((oD3.far (p := ⟨w.heap.size, 3, none⟩) (.inl (show w.heap.size < _ by omega)) _).far (p := ⟨w.heap.size, 5, none⟩) (.inl (show w.heap.size < _ by omega)) _).far (p := ⟨w.heap.size, 4, none⟩) (.inl (show w.heap.size < _ by omega)) _).far (p := ⟨w.heap.size, 4, none⟩) (.inl (show w.heap.size < _ by omega)) _).ten (.inl (by omega)) _ _ _ _ _ _ _ _ _ _).mono (by omega), below_ten ((((b3.setCell (p := ⟨w.heap.size, 3, none⟩) (Nat.le_refl _) _).setCell (p := ⟨w.heap.size, 5, none⟩) (Nat.le_refl _) _).setCell (p := ⟨w.heap.size, 4, none⟩) (Nat.le_refl _) _).setCell (p := ⟨w.heap.size, 4, none⟩) (Nat.le_refl _) _) (by omega) _ _ _ _ _ _ _ _ _ _⟩
        · go_wp2
          have u0 := T0.out
          have oD3 := O3.out
          have b3 := B3.out
          exact bodyPost_ret (res_pp2 rfl rfl (((((u0.far (p := ⟨w.heap.size, 3, none⟩) (show w.heap.size ≠ w.heap.size + 1 by omega) _).far (p := ⟨w.heap.size, 5, none⟩) (show w.heap.size ≠ w.heap.size + 1 by omega) _).far (p := ⟨w.heap.size, 4, none⟩) (show w.heap.size ≠ w.heap.size + 1 by omega) _).far (p := ⟨w.heap.size, 4, none⟩) (show w.heap.size ≠ w.heap.size + 1 by omega) _).all _ _ _ _ _ _ _ _ _ _)) rfl ⟨A2, c2, ret_pv (by omega) (by omega), (((((oD3.far (p := ⟨w.heap.size, 3, none⟩) (.inl (show w.heap.size < _ by omega)) _).far (p := ⟨w.heap.size, 5, none⟩) (.inl (show w.heap.size < _ by omega)) _).far (p := ⟨w.heap.size, 4, none⟩) (.inl (show w.heap.size < _ by omega)) _).far (p := ⟨w.heap.size, 4, none⟩) (.inl (show w.heap.size < _ by omega)) _).ten (.inl (by omega)) _ _ _ _ _ _ _ _ _ _).mono (by omega), below_ten ((((b3.setCell (p := ⟨w.heap.size, 3, none⟩) (Nat.le_refl _) _).setCell (p := ⟨w.heap.size, 5, none⟩) (Nat.le_refl _) _).setCell (p := ⟨w.heap.size, 4, none⟩) (Nat.le_refl _) _).setCell (p := ⟨w.heap.size, 4, none⟩) (Nat.le_refl _) _) (by omega) _ _ _ _ _ _ _ _ _ _⟩
    · by_cases ha : heap < g
      · obtain ⟨z, hz⟩ : ∃ z : Nat, g = heap + z := ⟨g - heap, by omega⟩
        have hzw : IntKind.u64.wrap ((g : Int) - (heap : Int)) = (z : Int) := by rw [IntKind.wrap_u64]; omega
        have HZ := Lib.hid hz
        clear hz
        by_cases hb : 1 < z
        · by_cases hd : z < g / 20
          · go_wp2
            have hz := HZ.out
            have u0 := T0.out
            have oD3 := O3.out
            have b3 := B3.out
            exact bodyPost_ret (res_pp2 rfl rfl ((((u0.far (p := ⟨w.heap.size, 3, none⟩) (show w.heap.size ≠ w.heap.size + 1 by omega) _).far (p := ⟨w.heap.size, 5, none⟩) (show w.heap.size ≠ w.heap.size + 1 by omega) _).far (p := ⟨w.heap.size, 4, none⟩) (show w.heap.size ≠ w.heap.size + 1 by omega) _).all _ _ _ _ _ _ _ _ _ _)) rfl ⟨A2, c2, ret_pv (by omega) (by omega), ((((oD3.far (p := ⟨w.heap.size, 3, none⟩) (.inl (show w.heap.size < _ by omega)) _).far (p := ⟨w.heap.size, 5, none⟩) (.inl (show w.heap.size < _ by omega)) _).far (p := ⟨w.heap.size, 4, none⟩) (.inl (show w.heap.size < _ by omega)) _).ten (.inl (by omega)) _ _ _ _ _ _ _ _ _ _).mono (by omega), below_ten (((b3.setCell (p := ⟨w.heap.size, 3, none⟩) (Nat.le_refl _) _).setCell (p := ⟨w.heap.size, 5, none⟩) (Nat.le_refl _) _).setCell (p := ⟨w.heap.size, 4, none⟩) (Nat.le_refl _) _) (by omega) _ _ _ _ _ _ _ _ _ _⟩
          · go_wp2
            have hz := HZ.out
            have u0 := T0.out
            have oD3 := O3.out
            have b3 := B3.out
            exact bodyPost_ret (res_pp2 rfl rfl ((((u0.far (p := ⟨w.heap.size, 3, none⟩) (show w.heap.size ≠ w.heap.size + 1 by omega) _).far (p := ⟨w.heap.size, 5, none⟩) (show w.heap.size ≠ w.heap.size + 1 by omega) _).far (p := ⟨w.heap.size, 4, none⟩) (show w.heap.size ≠ w.heap.size + 1 by omega) _).all _ _ _ _ _ _ _ _ _ _)) rfl ⟨A2, c2, ret_pv (by omega) (by omega), ((((oD3.far (p := ⟨w.heap.size, 3, none⟩) (.inl (show w.heap.size < _ by omega)) _).far (p := ⟨w.heap.size, 5, none⟩) (.inl (show w.heap.size < _ by omega)) _).far (p := ⟨w.heap.size, 4, none⟩) (.inl (show w.heap.size < _ by omega)) _).ten (.inl (by omega)) _ _ _ _ _ _ _ _ _ _).mono (by omega), below_ten (((b3.setCell (p := ⟨w.heap.size, 3, none⟩) (Nat.le_refl _) _).setCell (p := ⟨w.heap.size, 5, none⟩) (Nat.le_refl _) _).setCell (p := ⟨w.heap.size, 4, none⟩) (Nat.le_refl _) _) (by omega) _ _ _ _ _ _ _ _ _ _⟩
        · by_cases hd : 1 < g / 20
          · go_wp2
            have hz := HZ.out
            have u0 := T0.out
            have oD3 := O3.out
            have b3 := B3.out
            exact bodyPost_ret (res_pp2 rfl rfl ((((u0.far (p := ⟨w.heap.size, 3, none⟩) (show w.heap.size ≠ w.heap.size + 1 by omega) _).far (p := ⟨w.heap.size, 5, none⟩) (show w.heap.size ≠ w.heap.size + 1 by omega) _).far (p := ⟨w.heap.size, 4, none⟩) (show w.heap.size ≠ w.heap.size + 1 by omega) _).all _ _ _ _ _ _ _ _ _ _)) rfl ⟨A2, c2, ret_pv (by omega) (by omega), ((((oD3.far (p := ⟨w.heap.size, 3, none⟩) (.inl (show w.heap.size < _ by omega)) _).far (p := ⟨w.heap.size, 5, none⟩) (.inl (show w.heap.size < _ by omega)) _).far (p := ⟨w.heap.size, 4, none⟩) (.inl (show w.heap.size < _ by omega)) _).ten (.inl (by omega)) _ _ _ _ _ _ _ _ _ _).mono (by omega), below_ten (((b3.setCell (p := ⟨w.heap.size, 3, none⟩) (Nat.le_refl _) _).setCell (p := ⟨w.heap.size, 5, none⟩) (Nat.le_refl _) _).setCell (p := ⟨w.heap.size, 4, none⟩) (Nat.le_refl _) _) (by omega) _ _ _ _ _ _ _ _ _ _⟩
          · go_wp2
            have hz := HZ.out
            have u0 := T0.out
            have oD3 := O3.out
            have b3 := B3.out
            exact bodyPost_ret (res_pp2 rfl rfl ((((u0.far (p := ⟨w.heap.size, 3, none⟩) (show w.heap.size ≠ w.heap.size + 1 by omega) _).far (p := ⟨w.heap.size, 5, none⟩) (show w.heap.size ≠ w.heap.size + 1 by omega) _).far (p := ⟨w.heap.size, 4, none⟩) (show w.heap.size ≠ w.heap.size + 1 by omega) _).all _ _ _ _ _ _ _ _ _ _)) rfl ⟨A2, c2, ret_pv (by omega) (by omega), ((((oD3.far (p := ⟨w.heap.size, 3, none⟩) (.inl (show w.heap.size < _ by omega)) _).far (p := ⟨w.heap.size, 5, none⟩) (.inl (show w.heap.size < _ by omega)) _).far (p := ⟨w.heap.size, 4, none⟩) (.inl (show w.heap.size < _ by omega)) _).ten (.inl (by omega)) _ _ _ _ _ _ _ _ _ _).mono (by omega), below_ten (((b3.setCell (p := ⟨w.heap.size, 3, none⟩) (Nat.le_refl _) _).setCell (p := ⟨w.heap.size, 5, none⟩) (Nat.le_refl _) _).setCell (p := ⟨w.heap.size, 4, none⟩) (Nat.le_refl _) _) (by omega) _ _ _ _ _ _ _ _ _ _⟩
      · by_cases hd : 1 < g / 20
        · go_wp2
          have u0 := T0.out
          have oD3 := O3.out
          have b3 := B3.out
          exact bodyPost_ret (res_pp2 rfl rfl ((((u0.far (p := ⟨w.heap.size, 3, none⟩) (show w.heap.size ≠ w.heap.size + 1 by omega) _).far (p := ⟨w.heap.size, 5, none⟩) (show w.heap.size ≠ w.heap.size + 1 by omega) _).far (p := ⟨w.heap.size, 4, none⟩) (show w.heap.size ≠ w.heap.size + 1 by omega) _).all _ _ _ _ _ _ _ _ _ _)) rfl ⟨A2, c2, ret_pv (by omega) (by omega), ((((oD3.far (p := ⟨w.heap.size, 3, none⟩) (.inl (show w.heap.size < _ by omega)) _).far (p := ⟨w.heap.size, 5, none⟩) (.inl (show w.heap.size < _ by omega)) _).far (p := ⟨w.heap.size, 4, none⟩) (.inl (show w.heap.size < _ by omega)) _).ten (.inl (by omega)) _ _ _ _ _ _ _ _ _ _).mono (by omega), below_ten (((b3.setCell (p := ⟨w.heap.size, 3, none⟩) (Nat.le_refl _) _).setCell (p := ⟨w.heap.size, 5, none⟩) (Nat.le_refl _) _).setCell (p := ⟨w.heap.size, 4, none⟩) (Nat.le_refl _) _) (by omega) _ _ _ _ _ _ _ _ _ _⟩
        · go_wp2
          have u0 := T0.out
          have oD3 := O3.out
          have b3 := B3.out
          exact bodyPost_ret (res_pp2 rfl rfl ((((u0.far (p := ⟨w.heap.size, 3, none⟩) (show w.heap.size ≠ w.heap.size + 1 by omega) _).far (p := ⟨w.heap.size, 5, none⟩) (show w.heap.size ≠ w.heap.size + 1 by omega) _).far (p := ⟨w.heap.size, 4, none⟩) (show w.heap.size ≠ w.heap.size + 1 by omega) _).all _ _ _ _ _ _ _ _ _ _)) rfl ⟨A2, c2, ret_pv (by omega) (by omega), ((((oD3.far (p := ⟨w.heap.size, 3, none⟩) (.inl (show w.heap.size < _ by omega)) _).far (p := ⟨w.heap.size, 5, none⟩) (.inl (show w.heap.size < _ by omega)) _).far (p := ⟨w.heap.size, 4, none⟩) (.inl (show w.heap.size < _ by omega)) _).ten (.inl (by omega)) _ _ _ _ _ _ _ _ _ _).mono (by omega), below_ten (((b3.setCell (p := ⟨w.heap.size, 3, none⟩) (Nat.le_refl _) _).setCell (p := ⟨w.heap.size, 5, none⟩) (Nat.le_refl _) _).setCell (p := ⟨w.heap.size, 4, none⟩) (Nat.le_refl _) _) (by omega) _ _ _ _ _ _ _ _ _ _⟩
end
end Go.Proofs.Ytkdbcoibapcmjaa
