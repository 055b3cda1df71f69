/- Contracts of package pace: Begin, End. -/
import Derived.Test.YtkdbcoibapcmjaaN9
namespace Go.Proofs.Ytkdbcoibapcmjaa
open Go.RowKit
set_option linter.unusedVariables false
set_option linter.unusedSimpArgs false
set_option maxRecDepth 100000

section
variable {w : World} {p : Pc} {A : Option Addr} (c : Nat)
set_option maxHeartbeats 4000000 in
theorem pbeginX_any (hf : FitP p) (hr : Row w w.heap.size A p.ds) (hl : p.ds.length ≤ 17592186044416) (hn : A = none → c = 0) (heap : Nat) (q : Pc) (y : Int) (hE : BegE p heap q y) :
    Calls Try.prog 20 #[(.agg #[.int .i64 p.pct, .int .u64 (p.least : Nat), .int .u64 (p.live : Nat), .bool p.on, .int .u64 (p.est : Nat), .int .u64 (p.room : Nat), .int .u64 (p.credit : Nat), .int .u64 (p.done : Nat), .int .u64 (p.made : Nat), .slice A p.ds.length c]), .int .u64 (heap : Nat)] w fun e w' => ∃ A' c', e = .returned (.tuple #[(.agg #[.int .i64 q.pct, .int .u64 (q.least : Nat), .int .u64 (q.live : Nat), .bool q.on, .int .u64 (q.est : Nat), .int .u64 (q.room : Nat), .int .u64 (q.credit : Nat), .int .u64 (q.done : Nat), .int .u64 (q.made : Nat), .slice A' q.ds.length c']), .int .i64 y]) ∧ OwnD w' w.heap.size A' c' q.ds ∧ Below w.heap.size w w' := by
  have HT := Lib.hid fun (w : World) hr => ptwin_any (w := w) (p := p) (A := A) c hr hl hn
  rcases hE with ⟨hk, rfl, rfl⟩ | ⟨hk, ho, rfl, rfl⟩ | ⟨hk, ho, hh, rfl, rfl⟩ | ⟨hk, ho, hh, rfl, rfl⟩
  · clear HT
    have HV := Lib.hid fun (w : World) hr => pview_bad (w := w) (p := p) (A := A) c hf hr hl hk
    clear hk hf
    obtain ⟨pct, least, live, on, est, room, credit, done, made, ds⟩ := p
    simp only at *
    go_enter Try.func20, Try.ntmps20
    go_wp2_with fail
    go_at_call 28
    refine (HV.out _ (hr.later (by repeat (first | exact Below.refl _ _ | assumption | (refine below_drewN ?_ _) | (refine Below.drew ?_) | (refine Below.alloc ?_ (by first | omega | (simp; omega) | simp) _) | (refine Below.setCell ?_ (by first | omega | (simp; omega) | simp) _) | (refine below_trans ?_ (by assumption) (by first | omega | (simp; omega) | simp)))))).mono ?_
    rintro e w1 ⟨rfl, hb_w1⟩
    obtain ⟨hc_w1, hf_w1⟩ := bcell hb_w1; have hz_w1_w_0 : w.heap.size < w1.heap.size := (by have hzz := hb_w1.size; (try simp only [World.size_alloc, World.size_setCell, World.size_drew, World.heap_drewN] at hzz); omega); have hz_w1_w_1 : w.heap.size + 1 < w1.heap.size := (by have hzz := hb_w1.size; (try simp only [World.size_alloc, World.size_setCell, World.size_drew, World.heap_drewN] at hzz); omega); have hs_w1 := hb_w1.size; (try simp only [World.size_alloc, World.size_setCell, World.size_drew, World.heap_drewN] at hs_w1)
    have b1 : Below w.heap.size w w1 := (by repeat (first | exact Below.refl _ _ | assumption | (refine below_drewN ?_ _) | (refine Below.drew ?_) | (refine Below.alloc ?_ (by first | omega | (simp; omega) | simp) _) | (refine Below.setCell ?_ (by first | omega | (simp; omega) | simp) _) | (refine below_trans ?_ (by assumption) (by first | omega | (simp; omega) | simp))))
    have t0 := (Ten.new (w.alloc (.cells #[.int .i64 pct, .int .u64 (least : Nat), .int .u64 (live : Nat), .bool on, .int .u64 (est : Nat), .int .u64 (room : Nat), .int .u64 (credit : Nat), .int .u64 (done : Nat), .int .u64 (made : Nat), .slice A ds.length c] 25)) (.int .i64 0) (.int .u64 0) (.int .u64 0) (.bool false) (.int .u64 0) (.int .u64 0) (.int .u64 0) (.int .u64 0) (.int .u64 0) (.slice none 0 0) 25).later hb_w1
    simp only [World.size_alloc] at t0
    obtain ⟨y0, y1, y2, y3, y4, y5, y6, y7, y8, y9, yf⟩ := id t0
    have ylt := t0.lt
    have u0 := (t0.all (.int .i64 0) (.int .u64 0) (.int .u64 0) (.bool false) (.int .u64 0) (.int .u64 0) (.int .u64 0) (.int .u64 0) (.int .u64 0) (.slice none 0 0)).later ((Below.refl _ _).alloc (Nat.le_refl _) (.cells #[.int .i64 0, .int .u64 0, .int .u64 0, .bool false, .int .u64 0, .int .u64 0, .int .u64 0, .int .u64 0, .int .u64 0, .slice none 0 0] 51))
    have b2 := (below_ten (b := w.heap.size + 1) b1 (by omega) (.int .i64 0) (.int .u64 0) (.int .u64 0) (.bool false) (.int .u64 0) (.int .u64 0) (.int .u64 0) (.int .u64 0) (.int .u64 0) (.slice none 0 0)).alloc (by rw [size_ten]; omega) (.cells #[.int .i64 0, .int .u64 0, .int .u64 0, .bool false, .int .u64 0, .int .u64 0, .int .u64 0, .int .u64 0, .int .u64 0, .slice none 0 0] 51)
    clear hc_w1 hf_w1
    go_wp2
    exact bodyPost_ret (res_pp2 rfl rfl u0) rfl ⟨none, 0, rfl, OwnD.none _ _, b2⟩
  · have HV := Lib.hid fun (w : World) hr => pview_ok (w := w) (p := q) (A := A) c hf hr hl hk
    clear hk hf
    obtain ⟨pct, least, live, on, est, room, credit, done, made, ds⟩ := q
    simp only at *
    subst ho
    go_enter Try.func20, Try.ntmps20
    go_wp2_with fail
    go_at_call 28
    refine (HV.out _ (hr.later (by repeat (first | exact Below.refl _ _ | assumption | (refine below_drewN ?_ _) | (refine Below.drew ?_) | (refine Below.alloc ?_ (by first | omega | (simp; omega) | simp) _) | (refine Below.setCell ?_ (by first | omega | (simp; omega) | simp) _) | (refine below_trans ?_ (by assumption) (by first | omega | (simp; omega) | simp)))))).mono ?_
    rintro e w1 ⟨rfl, hb_w1⟩
    obtain ⟨hc_w1, hf_w1⟩ := bcell hb_w1; have hz_w1_w_0 : w.heap.size < w1.heap.size := (by have hzz := hb_w1.size; (try simp only [World.size_alloc, World.size_setCell, World.size_drew, World.heap_drewN] at hzz); omega); have hz_w1_w_1 : w.heap.size + 1 < w1.heap.size := (by have hzz := hb_w1.size; (try simp only [World.size_alloc, World.size_setCell, World.size_drew, World.heap_drewN] at hzz); omega); have hs_w1 := hb_w1.size; (try simp only [World.size_alloc, World.size_setCell, World.size_drew, World.heap_drewN] at hs_w1)
    have b1 : Below w.heap.size w w1 := (by repeat (first | exact Below.refl _ _ | assumption | (refine below_drewN ?_ _) | (refine Below.drew ?_) | (refine Below.alloc ?_ (by first | omega | (simp; omega) | simp) _) | (refine Below.setCell ?_ (by first | omega | (simp; omega) | simp) _) | (refine below_trans ?_ (by assumption) (by first | omega | (simp; omega) | simp))))
    have t0 := (Ten.new (w.alloc (.cells #[.int .i64 pct, .int .u64 (least : Nat), .int .u64 (live : Nat), .bool true, .int .u64 (est : Nat), .int .u64 (room : Nat), .int .u64 (credit : Nat), .int .u64 (done : Nat), .int .u64 (made : Nat), .slice A ds.length c] 25)) (.int .i64 0) (.int .u64 0) (.int .u64 0) (.bool false) (.int .u64 0) (.int .u64 0) (.int .u64 0) (.int .u64 0) (.int .u64 0) (.slice none 0 0) 25).later hb_w1
    simp only [World.size_alloc] at t0
    have t1 := Ten.new w1 (.int .i64 pct) (.int .u64 (least : Nat)) (.int .u64 (live : Nat)) (.bool true) (.int .u64 (est : Nat)) (.int .u64 (room : Nat)) (.int .u64 (credit : Nat)) (.int .u64 (done : Nat)) (.int .u64 (made : Nat)) (.slice A ds.length c) 51
    have t0 := t0.later ((Below.refl _ _).alloc (Nat.le_refl _) (.cells #[.int .i64 pct, .int .u64 (least : Nat), .int .u64 (live : Nat), .bool true, .int .u64 (est : Nat), .int .u64 (room : Nat), .int .u64 (credit : Nat), .int .u64 (done : Nat), .int .u64 (made : Nat), .slice A ds.length c] 51))
    clear hc_w1 hf_w1
    go_wp2_with fail
    go_at_call 33
    refine (HT.out _ ((hr.later b1).later (by repeat (first | exact Below.refl _ _ | assumption | (refine below_drewN ?_ _) | (refine Below.drew ?_) | (refine Below.alloc ?_ (by first | omega | (simp; omega) | simp) _) | (refine Below.setCell ?_ (by first | omega | (simp; omega) | simp) _) | (refine below_trans ?_ (by assumption) (by first | omega | (simp; omega) | simp)))))).mono ?_
    rintro e w2 ⟨A2, c2, rfl, oD, hb_w2⟩
    have t0 := t0.later hb_w2
    have t1 := t1.later hb_w2
    have s2 := hb_w2.size
    simp only [World.size_alloc] at oD s2
    have b2 : Below w.heap.size w w2 := (by repeat (first | exact Below.refl _ _ | assumption | (refine below_drewN ?_ _) | (refine Below.drew ?_) | (refine Below.alloc ?_ (by first | omega | (simp; omega) | simp) _) | (refine Below.setCell ?_ (by first | omega | (simp; omega) | simp) _) | (refine below_trans ?_ (by assumption) (by first | omega | (simp; omega) | simp))))
    have t1' := t1.all (.int .i64 pct) (.int .u64 (least : Nat)) (.int .u64 (live : Nat)) (.bool true) (.int .u64 (est : Nat)) (.int .u64 (room : Nat)) (.int .u64 (credit : Nat)) (.int .u64 (done : Nat)) (.int .u64 (made : Nat)) (.slice A2 ds.length c2)
    have t0' := t0.over (g := w1.heap.size) (by omega) (.int .i64 pct) (.int .u64 (least : Nat)) (.int .u64 (live : Nat)) (.bool true) (.int .u64 (est : Nat)) (.int .u64 (room : Nat)) (.int .u64 (credit : Nat)) (.int .u64 (done : Nat)) (.int .u64 (made : Nat)) (.slice A2 ds.length c2)
    have oD' := oD.ten (g := w1.heap.size) (.inl (by first | omega | (simp; omega) | simp)) (.int .i64 pct) (.int .u64 (least : Nat)) (.int .u64 (live : Nat)) (.bool true) (.int .u64 (est : Nat)) (.int .u64 (room : Nat)) (.int .u64 (credit : Nat)) (.int .u64 (done : Nat)) (.int .u64 (made : Nat)) (.slice A2 ds.length c2)
    have b2' := below_ten (b := w1.heap.size) b2 (by omega) (.int .i64 pct) (.int .u64 (least : Nat)) (.int .u64 (live : Nat)) (.bool true) (.int .u64 (est : Nat)) (.int .u64 (room : Nat)) (.int .u64 (credit : Nat)) (.int .u64 (done : Nat)) (.int .u64 (made : Nat)) (.slice A2 ds.length c2)
    obtain ⟨x0, x1, x2, x3, x4, x5, x6, x7, x8, x9, xf⟩ := id t1
    obtain ⟨y0, y1, y2, y3, y4, y5, y6, y7, y8, y9, yf⟩ := id t0
    go_wp2
    exact bodyPost_ret (res_pp2 rfl rfl (t0'.all _ _ _ _ _ _ _ _ _ _)) rfl ⟨A2, c2, rfl, (oD'.ten (.inl (by omega)) _ _ _ _ _ _ _ _ _ _).mono (by omega), below_ten b2' (by omega) _ _ _ _ _ _ _ _ _ _⟩
  · have HV := Lib.hid fun (w : World) hr => pview_ok (w := w) (p := q) (A := A) c hf hr hl hk
    clear hk hf
    have f1 : decide ((1099511627776 : Int) < (heap : Int)) = true := by simp; omega
    obtain ⟨pct, least, live, on, est, room, credit, done, made, ds⟩ := q
    simp only at *
    subst ho
    go_enter Try.func20, Try.ntmps20
    go_wp2_with fail
    go_at_call 28
    refine (HV.out _ (hr.later (by repeat (first | exact Below.refl _ _ | assumption | (refine below_drewN ?_ _) | (refine Below.drew ?_) | (refine Below.alloc ?_ (by first | omega | (simp; omega) | simp) _) | (refine Below.setCell ?_ (by first | omega | (simp; omega) | simp) _) | (refine below_trans ?_ (by assumption) (by first | omega | (simp; omega) | simp)))))).mono ?_
    rintro e w1 ⟨rfl, hb_w1⟩
    obtain ⟨hc_w1, hf_w1⟩ := bcell hb_w1; have hz_w1_w_0 : w.heap.size < w1.heap.size := (by have hzz := hb_w1.size; (try simp only [World.size_alloc, World.size_setCell, World.size_drew, World.heap_drewN] at hzz); omega); have hz_w1_w_1 : w.heap.size + 1 < w1.heap.size := (by have hzz := hb_w1.size; (try simp only [World.size_alloc, World.size_setCell, World.size_drew, World.heap_drewN] at hzz); omega); have hs_w1 := hb_w1.size; (try simp only [World.size_alloc, World.size_setCell, World.size_drew, World.heap_drewN] at hs_w1)
    have b1 : Below w.heap.size w w1 := (by repeat (first | exact Below.refl _ _ | assumption | (refine below_drewN ?_ _) | (refine Below.drew ?_) | (refine Below.alloc ?_ (by first | omega | (simp; omega) | simp) _) | (refine Below.setCell ?_ (by first | omega | (simp; omega) | simp) _) | (refine below_trans ?_ (by assumption) (by first | omega | (simp; omega) | simp))))
    have t0 := (Ten.new (w.alloc (.cells #[.int .i64 pct, .int .u64 (least : Nat), .int .u64 (live : Nat), .bool false, .int .u64 (est : Nat), .int .u64 (room : Nat), .int .u64 (credit : Nat), .int .u64 (done : Nat), .int .u64 (made : Nat), .slice A ds.length c] 25)) (.int .i64 0) (.int .u64 0) (.int .u64 0) (.bool false) (.int .u64 0) (.int .u64 0) (.int .u64 0) (.int .u64 0) (.int .u64 0) (.slice none 0 0) 25).later hb_w1
    simp only [World.size_alloc] at t0
    have t1 := Ten.new w1 (.int .i64 pct) (.int .u64 (least : Nat)) (.int .u64 (live : Nat)) (.bool false) (.int .u64 (est : Nat)) (.int .u64 (room : Nat)) (.int .u64 (credit : Nat)) (.int .u64 (done : Nat)) (.int .u64 (made : Nat)) (.slice A ds.length c) 51
    have t0 := t0.later ((Below.refl _ _).alloc (Nat.le_refl _) (.cells #[.int .i64 pct, .int .u64 (least : Nat), .int .u64 (live : Nat), .bool false, .int .u64 (est : Nat), .int .u64 (room : Nat), .int .u64 (credit : Nat), .int .u64 (done : Nat), .int .u64 (made : Nat), .slice A ds.length c] 51))
    clear hc_w1 hf_w1
    go_wp2_with fail
    go_at_call 33
    refine (HT.out _ ((hr.later b1).later (by repeat (first | exact Below.refl _ _ | assumption | (refine below_drewN ?_ _) | (refine Below.drew ?_) | (refine Below.alloc ?_ (by first | omega | (simp; omega) | simp) _) | (refine Below.setCell ?_ (by first | omega | (simp; omega) | simp) _) | (refine below_trans ?_ (by assumption) (by first | omega | (simp; omega) | simp)))))).mono ?_
    rintro e w2 ⟨A2, c2, rfl, oD, hb_w2⟩
    have t0 := t0.later hb_w2
    have t1 := t1.later hb_w2
    have s2 := hb_w2.size
    simp only [World.size_alloc] at oD s2
    have b2 : Below w.heap.size w w2 := (by repeat (first | exact Below.refl _ _ | assumption | (refine below_drewN ?_ _) | (refine Below.drew ?_) | (refine Below.alloc ?_ (by first | omega | (simp; omega) | simp) _) | (refine Below.setCell ?_ (by first | omega | (simp; omega) | simp) _) | (refine below_trans ?_ (by assumption) (by first | omega | (simp; omega) | simp))))
    have t1' := t1.all (.int .i64 pct) (.int .u64 (least : Nat)) (.int .u64 (live : Nat)) (.bool false) (.int .u64 (est : Nat)) (.int .u64 (room : Nat)) (.int .u64 (credit : Nat)) (.int .u64 (done : Nat)) (.int .u64 (made : Nat)) (.slice A2 ds.length c2)
    have t0' := t0.over (g := w1.heap.size) (by omega) (.int .i64 pct) (.int .u64 (least : Nat)) (.int .u64 (live : Nat)) (.bool false) (.int .u64 (est : Nat)) (.int .u64 (room : Nat)) (.int .u64 (credit : Nat)) (.int .u64 (done : Nat)) (.int .u64 (made : Nat)) (.slice A2 ds.length c2)
    have oD' := oD.ten (g := w1.heap.size) (.inl (by first | omega | (simp; omega) | simp)) (.int .i64 pct) (.int .u64 (least : Nat)) (.int .u64 (live : Nat)) (.bool false) (.int .u64 (est : Nat)) (.int .u64 (room : Nat)) (.int .u64 (credit : Nat)) (.int .u64 (done : Nat)) (.int .u64 (made : Nat)) (.slice A2 ds.length c2)
    have b2' := below_ten (b := w1.heap.size) b2 (by omega) (.int .i64 pct) (.int .u64 (least : Nat)) (.int .u64 (live : Nat)) (.bool false) (.int .u64 (est : Nat)) (.int .u64 (room : Nat)) (.int .u64 (credit : Nat)) (.int .u64 (done : Nat)) (.int .u64 (made : Nat)) (.slice A2 ds.length c2)
    obtain ⟨x0, x1, x2, x3, x4, x5, x6, x7, x8, x9, xf⟩ := id t1
    obtain ⟨y0, y1, y2, y3, y4, y5, y6, y7, y8, y9, yf⟩ := id t0
    go_wp2
    exact bodyPost_ret (res_pp2 rfl rfl (t0'.all _ _ _ _ _ _ _ _ _ _)) rfl ⟨A2, c2, rfl, (oD'.ten (.inl (by omega)) _ _ _ _ _ _ _ _ _ _).mono (by omega), below_ten b2' (by omega) _ _ _ _ _ _ _ _ _ _⟩
  · have HV := Lib.hid fun (w : World) hr => pview_ok (w := w) (p := p) (A := A) c hf hr hl hk
    have f1 : decide ((1099511627776 : Int) < (heap : Int)) = false := by simp; omega
    have HB := Lib.hid fun (w : World) (b : Nat) (A : Option Addr) (c : Nat) hb => pbegin_any (w := w) (p := p) (A := A) (b := b) c hk hb heap hh
    have HD : Hid ((begP p heap).ds = p.ds) := Lib.hid rfl
    generalize begP p heap = q at *
    clear hk hf
    unfold PBox at HB
    obtain ⟨pct, least, live, on, est, room, credit, done, made, ds⟩ := p
    simp only at *
    subst ho
    go_enter Try.func20, Try.ntmps20
    go_wp2_with fail
    go_at_call 28
    refine (HV.out _ (hr.later (by repeat (first | exact Below.refl _ _ | assumption | (refine below_drewN ?_ _) | (refine Below.drew ?_) | (refine Below.alloc ?_ (by first | omega | (simp; omega) | simp) _) | (refine Below.setCell ?_ (by first | omega | (simp; omega) | simp) _) | (refine below_trans ?_ (by assumption) (by first | omega | (simp; omega) | simp)))))).mono ?_
    rintro e w1 ⟨rfl, hb_w1⟩
    obtain ⟨hc_w1, hf_w1⟩ := bcell hb_w1; have hz_w1_w_0 : w.heap.size < w1.heap.size := (by have hzz := hb_w1.size; (try simp only [World.size_alloc, World.size_setCell, World.size_drew, World.heap_drewN] at hzz); omega); have hz_w1_w_1 : w.heap.size + 1 < w1.heap.size := (by have hzz := hb_w1.size; (try simp only [World.size_alloc, World.size_setCell, World.size_drew, World.heap_drewN] at hzz); omega); have hs_w1 := hb_w1.size; (try simp only [World.size_alloc, World.size_setCell, World.size_drew, World.heap_drewN] at hs_w1)
    have b1 : Below w.heap.size w w1 := (by repeat (first | exact Below.refl _ _ | assumption | (refine below_drewN ?_ _) | (refine Below.drew ?_) | (refine Below.alloc ?_ (by first | omega | (simp; omega) | simp) _) | (refine Below.setCell ?_ (by first | omega | (simp; omega) | simp) _) | (refine below_trans ?_ (by assumption) (by first | omega | (simp; omega) | simp))))
    have t0 := (Ten.new (w.alloc (.cells #[.int .i64 pct, .int .u64 (least : Nat), .int .u64 (live : Nat), .bool false, .int .u64 (est : Nat), .int .u64 (room : Nat), .int .u64 (credit : Nat), .int .u64 (done : Nat), .int .u64 (made : Nat), .slice A ds.length c] 25)) (.int .i64 0) (.int .u64 0) (.int .u64 0) (.bool false) (.int .u64 0) (.int .u64 0) (.int .u64 0) (.int .u64 0) (.int .u64 0) (.slice none 0 0) 25).later hb_w1
    simp only [World.size_alloc] at t0
    have t1 := Ten.new w1 (.int .i64 pct) (.int .u64 (least : Nat)) (.int .u64 (live : Nat)) (.bool false) (.int .u64 (est : Nat)) (.int .u64 (room : Nat)) (.int .u64 (credit : Nat)) (.int .u64 (done : Nat)) (.int .u64 (made : Nat)) (.slice A ds.length c) 51
    have t0 := t0.later ((Below.refl _ _).alloc (Nat.le_refl _) (.cells #[.int .i64 pct, .int .u64 (least : Nat), .int .u64 (live : Nat), .bool false, .int .u64 (est : Nat), .int .u64 (room : Nat), .int .u64 (credit : Nat), .int .u64 (done : Nat), .int .u64 (made : Nat), .slice A ds.length c] 51))
    clear hc_w1 hf_w1
    go_wp2_with fail
    go_at_call 33
    refine (HT.out _ ((hr.later b1).later (by repeat (first | exact Below.refl _ _ | assumption | (refine below_drewN ?_ _) | (refine Below.drew ?_) | (refine Below.alloc ?_ (by first | omega | (simp; omega) | simp) _) | (refine Below.setCell ?_ (by first | omega | (simp; omega) | simp) _) | (refine below_trans ?_ (by assumption) (by first | omega | (simp; omega) | simp)))))).mono ?_
    rintro e w2 ⟨A2, c2, rfl, oD, hb_w2⟩
    have t0 := t0.later hb_w2
    have t1 := t1.later hb_w2
    have s2 := hb_w2.size
    simp only [World.size_alloc] at oD s2
    have b2 : Below w.heap.size w w2 := (by repeat (first | exact Below.refl _ _ | assumption | (refine below_drewN ?_ _) | (refine Below.drew ?_) | (refine Below.alloc ?_ (by first | omega | (simp; omega) | simp) _) | (refine Below.setCell ?_ (by first | omega | (simp; omega) | simp) _) | (refine below_trans ?_ (by assumption) (by first | omega | (simp; omega) | simp))))
    have t1' := t1.all (.int .i64 pct) (.int .u64 (least : Nat)) (.int .u64 (live : Nat)) (.bool false) (.int .u64 (est : Nat)) (.int .u64 (room : Nat)) (.int .u64 (credit : Nat)) (.int .u64 (done : Nat)) (.int .u64 (made : Nat)) (.slice A2 ds.length c2)
    have t0' := t0.over (g := w1.heap.size) (by omega) (.int .i64 pct) (.int .u64 (least : Nat)) (.int .u64 (live : Nat)) (.bool false) (.int .u64 (est : Nat)) (.int .u64 (room : Nat)) (.int .u64 (credit : Nat)) (.int .u64 (done : Nat)) (.int .u64 (made : Nat)) (.slice A2 ds.length c2)
    have oD' := oD.ten (g := w1.heap.size) (.inl (by first | omega | (simp; omega) | simp)) (.int .i64 pct) (.int .u64 (least : Nat)) (.int .u64 (live : Nat)) (.bool false) (.int .u64 (est : Nat)) (.int .u64 (room : Nat)) (.int .u64 (credit : Nat)) (.int .u64 (done : Nat)) (.int .u64 (made : Nat)) (.slice A2 ds.length c2)
    have b2' := below_ten (b := w1.heap.size) b2 (by omega) (.int .i64 pct) (.int .u64 (least : Nat)) (.int .u64 (live : Nat)) (.bool false) (.int .u64 (est : Nat)) (.int .u64 (room : Nat)) (.int .u64 (credit : Nat)) (.int .u64 (done : Nat)) (.int .u64 (made : Nat)) (.slice A2 ds.length c2)
    obtain ⟨x0, x1, x2, x3, x4, x5, x6, x7, x8, x9, xf⟩ := id t1
    obtain ⟨y0, y1, y2, y3, y4, y5, y6, y7, y8, y9, yf⟩ := id t0
    go_wp2_with fail
    go_at_call 34
    refine (HB.out _ _ _ _ (by exact t1')).mono ?_
    rintro e w3 ⟨rfl, u1, o3⟩
    have u0 := t0'.off o3 (by omega) (by omega)
    have oD3 := oD'.off o3 (by omega) (by omega)
    have s3 := o3.size
    rw [size_ten] at s3
    have b3 := b2'.trans (o3.below w.heap.size (by omega) (by omega) (by rw [size_ten]; omega))
    rw [← HD.out] at oD3
    obtain ⟨m0, m1, m2, m3, m4, m5, m6, m7, m8, m9, mf⟩ := id u1
    obtain ⟨n0, n1, n2, n3, n4, n5, n6, n7, n8, n9, nf⟩ := id u0
    clear x0 x1 x2 x3 x4 x5 x6 x7 x8 x9 xf y0 y1 y2 y3 y4 y5 y6 y7 y8 y9 yf
    go_wp2
    exact bodyPost_ret (res_pp2 rfl rfl (u0.all _ _ _ _ _ _ _ _ _ _)) rfl ⟨A2, c2, rfl, (oD3.ten (.inl (by omega)) _ _ _ _ _ _ _ _ _ _).mono (by omega), below_ten b3 (by omega) _ _ _ _ _ _ _ _ _ _⟩
end
end Go.Proofs.Ytkdbcoibapcmjaa
