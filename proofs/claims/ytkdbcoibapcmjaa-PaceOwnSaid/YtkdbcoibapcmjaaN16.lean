/- Contracts of package pace: Work. -/
import Derived.Test.YtkdbcoibapcmjaaN13
import Derived.Test.YtkdbcoibapcmjaaN15
namespace Go.Proofs.Ytkdbcoibapcmjaa
open Go.RowKit
set_option linter.unusedVariables false
set_option linter.unusedSimpArgs false
set_option maxRecDepth 100000

section
variable {w : World} {p : Pc} {A S : Option Addr} (c cl : Nat) {l : List Nat}
set_option maxHeartbeats 4000000 in
theorem pwork_bad (hf : FitP p) (hr : Row w w.heap.size A p.ds) (hl : p.ds.length ≤ 17592186044416) (hn : A = none → c = 0) (hs : Row w w.heap.size S l) (hsl : l.length ≤ 17592186044416) (who : Int) (hk : ¬ OkP p) :
    Calls Try.prog 26 #[(.agg #[.int .i64 p.pct, .int .u64 (p.least : Nat), .int .u64 (p.live : Nat), .bool p.on, .int .u64 (p.est : Nat), .int .u64 (p.room : Nat), .int .u64 (p.credit : Nat), .int .u64 (p.done : Nat), .int .u64 (p.made : Nat), .slice A p.ds.length c]), .int .i64 who, .slice S l.length cl] w fun e w' => ∃ A' c', e = .returned (.tuple #[(.agg #[.int .i64 Pc.zero.pct, .int .u64 (Pc.zero.least : Nat), .int .u64 (Pc.zero.live : Nat), .bool Pc.zero.on, .int .u64 (Pc.zero.est : Nat), .int .u64 (Pc.zero.room : Nat), .int .u64 (Pc.zero.credit : Nat), .int .u64 (Pc.zero.done : Nat), .int .u64 (Pc.zero.made : Nat), .slice A' Pc.zero.ds.length c']), .int .i64 2]) ∧ OwnD w' w.heap.size A' c' (Pc.zero).ds ∧ Below w.heap.size w w' := by
  have HV := Lib.hid fun (w : World) hr => pview_bad (w := w) (p := p) (A := A) c hf hr hl hk
  clear hk hf
  obtain ⟨pct, least, live, on, est, room, credit, done, made, ds⟩ := p
  simp only at *
  go_enter Try.func26, Try.ntmps26
  go_wp2_with fail
  go_at_call 28
  refine (HV.out _ (hr.later (by repeat (first | exact Below.refl _ _ | assumption | (refine below_drewN ?_ _) | (refine Below.drew ?_) | (refine Below.alloc ?_ (by first | omega | (simp; omega) | simp) _) | (refine Below.setCell ?_ (by first | omega | (simp; omega) | simp) _) | (refine below_trans ?_ (by assumption) (by first | omega | (simp; omega) | simp)))))).mono ?_
  rintro e w1 ⟨rfl, hb_w1⟩
  obtain ⟨hc_w1, hf_w1⟩ := bcell hb_w1; have hz_w1_w_0 : w.heap.size < w1.heap.size := (by have hzz := hb_w1.size; (try simp only [World.size_alloc, World.size_setCell, World.size_drew, World.heap_drewN] at hzz); omega); have hz_w1_w_1 : w.heap.size + 1 < w1.heap.size := (by have hzz := hb_w1.size; (try simp only [World.size_alloc, World.size_setCell, World.size_drew, World.heap_drewN] at hzz); omega); have hs_w1 := hb_w1.size; (try simp only [World.size_alloc, World.size_setCell, World.size_drew, World.heap_drewN] at hs_w1)
  have b1 : Below w.heap.size w w1 := (by repeat (first | exact Below.refl _ _ | assumption | (refine below_drewN ?_ _) | (refine Below.drew ?_) | (refine Below.alloc ?_ (by first | omega | (simp; omega) | simp) _) | (refine Below.setCell ?_ (by first | omega | (simp; omega) | simp) _) | (refine below_trans ?_ (by assumption) (by first | omega | (simp; omega) | simp))))
  have t0 := (Ten.new (w.alloc (.cells #[.int .i64 pct, .int .u64 (least : Nat), .int .u64 (live : Nat), .bool on, .int .u64 (est : Nat), .int .u64 (room : Nat), .int .u64 (credit : Nat), .int .u64 (done : Nat), .int .u64 (made : Nat), .slice A ds.length c] 25)) (.int .i64 0) (.int .u64 0) (.int .u64 0) (.bool false) (.int .u64 0) (.int .u64 0) (.int .u64 0) (.int .u64 0) (.int .u64 0) (.slice none 0 0) 25).later hb_w1
  simp only [World.size_alloc] at t0
  obtain ⟨y0, y1, y2, y3, y4, y5, y6, y7, y8, y9, yf⟩ := id t0
  have ylt := t0.lt
  have u0 := (t0.all (.int .i64 0) (.int .u64 0) (.int .u64 0) (.bool false) (.int .u64 0) (.int .u64 0) (.int .u64 0) (.int .u64 0) (.int .u64 0) (.slice none 0 0)).later ((Below.refl _ _).alloc (Nat.le_refl _) (.cells #[.int .i64 0, .int .u64 0, .int .u64 0, .bool false, .int .u64 0, .int .u64 0, .int .u64 0, .int .u64 0, .int .u64 0, .slice none 0 0] 51))
  have b2 := (below_ten (b := w.heap.size + 1) b1 (by omega) (.int .i64 0) (.int .u64 0) (.int .u64 0) (.bool false) (.int .u64 0) (.int .u64 0) (.int .u64 0) (.int .u64 0) (.int .u64 0) (.slice none 0 0)).alloc (by rw [size_ten]; omega) (.cells #[.int .i64 0, .int .u64 0, .int .u64 0, .bool false, .int .u64 0, .int .u64 0, .int .u64 0, .int .u64 0, .int .u64 0, .slice none 0 0] 51)
  clear hc_w1 hf_w1
  go_wp2
  exact bodyPost_ret (res_pp2 rfl rfl u0) rfl ⟨none, 0, rfl, OwnD.none _ _, b2⟩
set_option maxHeartbeats 4000000 in
theorem pwork_task (hf : FitP p) (hr : Row w w.heap.size A p.ds) (hl : p.ds.length ≤ 17592186044416) (hn : A = none → c = 0) (hs : Row w w.heap.size S l) (hsl : l.length ≤ 17592186044416) (who : Int) (hk : OkP p) (hw : who < -1 ∨ p.ds.length ≤ who) :
    Calls Try.prog 26 #[(.agg #[.int .i64 p.pct, .int .u64 (p.least : Nat), .int .u64 (p.live : Nat), .bool p.on, .int .u64 (p.est : Nat), .int .u64 (p.room : Nat), .int .u64 (p.credit : Nat), .int .u64 (p.done : Nat), .int .u64 (p.made : Nat), .slice A p.ds.length c]), .int .i64 who, .slice S l.length cl] w fun e w' => ∃ A' c', e = .returned (.tuple #[(.agg #[.int .i64 p.pct, .int .u64 (p.least : Nat), .int .u64 (p.live : Nat), .bool p.on, .int .u64 (p.est : Nat), .int .u64 (p.room : Nat), .int .u64 (p.credit : Nat), .int .u64 (p.done : Nat), .int .u64 (p.made : Nat), .slice A' p.ds.length c']), .int .i64 11]) ∧ OwnD w' w.heap.size A' c' (p).ds ∧ Below w.heap.size w w' := by
  have HT := Lib.hid fun (w : World) hr => ptwin_any (w := w) (p := p) (A := A) c hr hl hn
  have HH := Lib.hid fun (w : World) (A : Option Addr) (c : Nat) => phas_anyP (w := w) (p := p) (A := A) c who
  have HX := Lib.hid fun (w : World) hr => pexceeds_any (w := w) (A := S) (l := l) cl hr hsl
  have HV := Lib.hid fun (w : World) hr => pview_ok (w := w) (p := p) (A := A) c hf hr hl hk
  rw [decide_eq_false (show ¬ (0 ≤ who ∧ who < (p.ds.length : Int)) by omega)] at HH
  have f1 : (who != -1) = true := by simp; omega
  clear hk hf hw HX
  obtain ⟨pct, least, live, on, est, room, credit, done, made, ds⟩ := p
  simp only at *
  go_enter Try.func26, Try.ntmps26
  go_wp2_with fail
  go_at_call 28
  refine (HV.out _ (hr.later (by repeat (first | exact Below.refl _ _ | assumption | (refine below_drewN ?_ _) | (refine Below.drew ?_) | (refine Below.alloc ?_ (by first | omega | (simp; omega) | simp) _) | (refine Below.setCell ?_ (by first | omega | (simp; omega) | simp) _) | (refine below_trans ?_ (by assumption) (by first | omega | (simp; omega) | simp)))))).mono ?_
  rintro e w1 ⟨rfl, hb_w1⟩
  obtain ⟨hc_w1, hf_w1⟩ := bcell hb_w1; have hz_w1_w_0 : w.heap.size < w1.heap.size := (by have hzz := hb_w1.size; (try simp only [World.size_alloc, World.size_setCell, World.size_drew, World.heap_drewN] at hzz); omega); have hz_w1_w_1 : w.heap.size + 1 < w1.heap.size := (by have hzz := hb_w1.size; (try simp only [World.size_alloc, World.size_setCell, World.size_drew, World.heap_drewN] at hzz); omega); have hs_w1 := hb_w1.size; (try simp only [World.size_alloc, World.size_setCell, World.size_drew, World.heap_drewN] at hs_w1)
  have b1 : Below w.heap.size w w1 := (by repeat (first | exact Below.refl _ _ | assumption | (refine below_drewN ?_ _) | (refine Below.drew ?_) | (refine Below.alloc ?_ (by first | omega | (simp; omega) | simp) _) | (refine Below.setCell ?_ (by first | omega | (simp; omega) | simp) _) | (refine below_trans ?_ (by assumption) (by first | omega | (simp; omega) | simp))))
  have t0 := (Ten.new (w.alloc (.cells #[.int .i64 pct, .int .u64 (least : Nat), .int .u64 (live : Nat), .bool on, .int .u64 (est : Nat), .int .u64 (room : Nat), .int .u64 (credit : Nat), .int .u64 (done : Nat), .int .u64 (made : Nat), .slice A ds.length c] 25)) (.int .i64 0) (.int .u64 0) (.int .u64 0) (.bool false) (.int .u64 0) (.int .u64 0) (.int .u64 0) (.int .u64 0) (.int .u64 0) (.slice none 0 0) 25).later hb_w1
  simp only [World.size_alloc] at t0
  have t1 := Ten.new w1 (.int .i64 pct) (.int .u64 (least : Nat)) (.int .u64 (live : Nat)) (.bool on) (.int .u64 (est : Nat)) (.int .u64 (room : Nat)) (.int .u64 (credit : Nat)) (.int .u64 (done : Nat)) (.int .u64 (made : Nat)) (.slice A ds.length c) 51
  have t0 := t0.later ((Below.refl _ _).alloc (Nat.le_refl _) (.cells #[.int .i64 pct, .int .u64 (least : Nat), .int .u64 (live : Nat), .bool on, .int .u64 (est : Nat), .int .u64 (room : Nat), .int .u64 (credit : Nat), .int .u64 (done : Nat), .int .u64 (made : Nat), .slice A ds.length c] 51))
  clear hc_w1 hf_w1
  go_wp2_with fail
  go_at_call 33
  refine (HT.out _ ((hr.later b1).later (by repeat (first | exact Below.refl _ _ | assumption | (refine below_drewN ?_ _) | (refine Below.drew ?_) | (refine Below.alloc ?_ (by first | omega | (simp; omega) | simp) _) | (refine Below.setCell ?_ (by first | omega | (simp; omega) | simp) _) | (refine below_trans ?_ (by assumption) (by first | omega | (simp; omega) | simp)))))).mono ?_
  rintro e w2 ⟨A2, c2, rfl, oD, hb_w2⟩
  have t0 := t0.later hb_w2
  have t1 := t1.later hb_w2
  have s2 := hb_w2.size
  simp only [World.size_alloc] at oD s2
  have b2 : Below w.heap.size w w2 := (by repeat (first | exact Below.refl _ _ | assumption | (refine below_drewN ?_ _) | (refine Below.drew ?_) | (refine Below.alloc ?_ (by first | omega | (simp; omega) | simp) _) | (refine Below.setCell ?_ (by first | omega | (simp; omega) | simp) _) | (refine below_trans ?_ (by assumption) (by first | omega | (simp; omega) | simp))))
  have t1' := t1.all (.int .i64 pct) (.int .u64 (least : Nat)) (.int .u64 (live : Nat)) (.bool on) (.int .u64 (est : Nat)) (.int .u64 (room : Nat)) (.int .u64 (credit : Nat)) (.int .u64 (done : Nat)) (.int .u64 (made : Nat)) (.slice A2 ds.length c2)
  have t0' := t0.over (g := w1.heap.size) (by omega) (.int .i64 pct) (.int .u64 (least : Nat)) (.int .u64 (live : Nat)) (.bool on) (.int .u64 (est : Nat)) (.int .u64 (room : Nat)) (.int .u64 (credit : Nat)) (.int .u64 (done : Nat)) (.int .u64 (made : Nat)) (.slice A2 ds.length c2)
  have oD' := oD.ten (g := w1.heap.size) (.inl (by first | omega | (simp; omega) | simp)) (.int .i64 pct) (.int .u64 (least : Nat)) (.int .u64 (live : Nat)) (.bool on) (.int .u64 (est : Nat)) (.int .u64 (room : Nat)) (.int .u64 (credit : Nat)) (.int .u64 (done : Nat)) (.int .u64 (made : Nat)) (.slice A2 ds.length c2)
  have b2' := below_ten (b := w1.heap.size) b2 (by omega) (.int .i64 pct) (.int .u64 (least : Nat)) (.int .u64 (live : Nat)) (.bool on) (.int .u64 (est : Nat)) (.int .u64 (room : Nat)) (.int .u64 (credit : Nat)) (.int .u64 (done : Nat)) (.int .u64 (made : Nat)) (.slice A2 ds.length c2)
  obtain ⟨x0, x1, x2, x3, x4, x5, x6, x7, x8, x9, xf⟩ := id t1
  obtain ⟨y0, y1, y2, y3, y4, y5, y6, y7, y8, y9, yf⟩ := id t0
  go_wp2_with fail
  go_at_call 36
  refine (HH.out _ _ _).mono ?_
  rintro e w3 ⟨rfl, hb_w3⟩
  have s3 := hb_w3.size
  rw [size_ten] at s3
  have b3 := below_trans b2' hb_w3 (by rw [size_ten]; omega)
  have u0 := t0'.later hb_w3
  have u1 := t1'.later hb_w3
  have oD3 := oD'.later hb_w3
  clear x0 x1 x2 x3 x4 x5 x6 x7 x8 x9 xf y0 y1 y2 y3 y4 y5 y6 y7 y8 y9 yf
  obtain ⟨m0, m1, m2, m3, m4, m5, m6, m7, m8, m9, mf⟩ := id u1
  obtain ⟨n0, n1, n2, n3, n4, n5, n6, n7, n8, n9, nf⟩ := id u0
  go_wp2
  exact bodyPost_ret (res_pp2 rfl rfl (u0.all _ _ _ _ _ _ _ _ _ _)) rfl ⟨A2, c2, rfl, (oD3.ten (.inl (by omega)) _ _ _ _ _ _ _ _ _ _).mono (by omega), below_ten b3 (by omega) _ _ _ _ _ _ _ _ _ _⟩
set_option maxHeartbeats 4000000 in
theorem pwork_off (hf : FitP p) (hr : Row w w.heap.size A p.ds) (hl : p.ds.length ≤ 17592186044416) (hn : A = none → c = 0) (hs : Row w w.heap.size S l) (hsl : l.length ≤ 17592186044416) (who : Int) (hk : OkP p) (hw1 : -1 ≤ who) (hw2 : who < p.ds.length) (ho : p.on = false) :
    Calls Try.prog 26 #[(.agg #[.int .i64 p.pct, .int .u64 (p.least : Nat), .int .u64 (p.live : Nat), .bool p.on, .int .u64 (p.est : Nat), .int .u64 (p.room : Nat), .int .u64 (p.credit : Nat), .int .u64 (p.done : Nat), .int .u64 (p.made : Nat), .slice A p.ds.length c]), .int .i64 who, .slice S l.length cl] w fun e w' => ∃ A' c', e = .returned (.tuple #[(.agg #[.int .i64 p.pct, .int .u64 (p.least : Nat), .int .u64 (p.live : Nat), .bool p.on, .int .u64 (p.est : Nat), .int .u64 (p.room : Nat), .int .u64 (p.credit : Nat), .int .u64 (p.done : Nat), .int .u64 (p.made : Nat), .slice A' p.ds.length c']), .int .i64 5]) ∧ OwnD w' w.heap.size A' c' (p).ds ∧ Below w.heap.size w w' := by
  have HT := Lib.hid fun (w : World) hr => ptwin_any (w := w) (p := p) (A := A) c hr hl hn
  have HH := Lib.hid fun (w : World) (A : Option Addr) (c : Nat) => phas_anyP (w := w) (p := p) (A := A) c who
  have HX := Lib.hid fun (w : World) hr => pexceeds_any (w := w) (A := S) (l := l) cl hr hsl
  have HV := Lib.hid fun (w : World) hr => pview_ok (w := w) (p := p) (A := A) c hf hr hl hk
  clear HX
  by_cases hw : who = -1
  · subst hw
    clear hk hf HH
    obtain ⟨pct, least, live, on, est, room, credit, done, made, ds⟩ := p
    simp only at *
    subst ho
    go_enter Try.func26, Try.ntmps26
    go_wp2_with fail
    go_at_call 28
    refine (HV.out _ (hr.later (by repeat (first | exact Below.refl _ _ | assumption | (refine below_drewN ?_ _) | (refine Below.drew ?_) | (refine Below.alloc ?_ (by first | omega | (simp; omega) | simp) _) | (refine Below.setCell ?_ (by first | omega | (simp; omega) | simp) _) | (refine below_trans ?_ (by assumption) (by first | omega | (simp; omega) | simp)))))).mono ?_
    rintro e w1 ⟨rfl, hb_w1⟩
    obtain ⟨hc_w1, hf_w1⟩ := bcell hb_w1; have hz_w1_w_0 : w.heap.size < w1.heap.size := (by have hzz := hb_w1.size; (try simp only [World.size_alloc, World.size_setCell, World.size_drew, World.heap_drewN] at hzz); omega); have hz_w1_w_1 : w.heap.size + 1 < w1.heap.size := (by have hzz := hb_w1.size; (try simp only [World.size_alloc, World.size_setCell, World.size_drew, World.heap_drewN] at hzz); omega); have hs_w1 := hb_w1.size; (try simp only [World.size_alloc, World.size_setCell, World.size_drew, World.heap_drewN] at hs_w1)
    have b1 : Below w.heap.size w w1 := (by repeat (first | exact Below.refl _ _ | assumption | (refine below_drewN ?_ _) | (refine Below.drew ?_) | (refine Below.alloc ?_ (by first | omega | (simp; omega) | simp) _) | (refine Below.setCell ?_ (by first | omega | (simp; omega) | simp) _) | (refine below_trans ?_ (by assumption) (by first | omega | (simp; omega) | simp))))
    have t0 := (Ten.new (w.alloc (.cells #[.int .i64 pct, .int .u64 (least : Nat), .int .u64 (live : Nat), .bool false, .int .u64 (est : Nat), .int .u64 (room : Nat), .int .u64 (credit : Nat), .int .u64 (done : Nat), .int .u64 (made : Nat), .slice A ds.length c] 25)) (.int .i64 0) (.int .u64 0) (.int .u64 0) (.bool false) (.int .u64 0) (.int .u64 0) (.int .u64 0) (.int .u64 0) (.int .u64 0) (.slice none 0 0) 25).later hb_w1
    simp only [World.size_alloc] at t0
    have t1 := Ten.new w1 (.int .i64 pct) (.int .u64 (least : Nat)) (.int .u64 (live : Nat)) (.bool false) (.int .u64 (est : Nat)) (.int .u64 (room : Nat)) (.int .u64 (credit : Nat)) (.int .u64 (done : Nat)) (.int .u64 (made : Nat)) (.slice A ds.length c) 51
    have t0 := t0.later ((Below.refl _ _).alloc (Nat.le_refl _) (.cells #[.int .i64 pct, .int .u64 (least : Nat), .int .u64 (live : Nat), .bool false, .int .u64 (est : Nat), .int .u64 (room : Nat), .int .u64 (credit : Nat), .int .u64 (done : Nat), .int .u64 (made : Nat), .slice A ds.length c] 51))
    clear hc_w1 hf_w1
    go_wp2_with fail
    go_at_call 33
    refine (HT.out _ ((hr.later b1).later (by repeat (first | exact Below.refl _ _ | assumption | (refine below_drewN ?_ _) | (refine Below.drew ?_) | (refine Below.alloc ?_ (by first | omega | (simp; omega) | simp) _) | (refine Below.setCell ?_ (by first | omega | (simp; omega) | simp) _) | (refine below_trans ?_ (by assumption) (by first | omega | (simp; omega) | simp)))))).mono ?_
    rintro e w2 ⟨A2, c2, rfl, oD, hb_w2⟩
    have t0 := t0.later hb_w2
    have t1 := t1.later hb_w2
    have s2 := hb_w2.size
    simp only [World.size_alloc] at oD s2
    have b2 : Below w.heap.size w w2 := (by repeat (first | exact Below.refl _ _ | assumption | (refine below_drewN ?_ _) | (refine Below.drew ?_) | (refine Below.alloc ?_ (by first | omega | (simp; omega) | simp) _) | (refine Below.setCell ?_ (by first | omega | (simp; omega) | simp) _) | (refine below_trans ?_ (by assumption) (by first | omega | (simp; omega) | simp))))
    have t1' := t1.all (.int .i64 pct) (.int .u64 (least : Nat)) (.int .u64 (live : Nat)) (.bool false) (.int .u64 (est : Nat)) (.int .u64 (room : Nat)) (.int .u64 (credit : Nat)) (.int .u64 (done : Nat)) (.int .u64 (made : Nat)) (.slice A2 ds.length c2)
    have t0' := t0.over (g := w1.heap.size) (by omega) (.int .i64 pct) (.int .u64 (least : Nat)) (.int .u64 (live : Nat)) (.bool false) (.int .u64 (est : Nat)) (.int .u64 (room : Nat)) (.int .u64 (credit : Nat)) (.int .u64 (done : Nat)) (.int .u64 (made : Nat)) (.slice A2 ds.length c2)
    have oD' := oD.ten (g := w1.heap.size) (.inl (by first | omega | (simp; omega) | simp)) (.int .i64 pct) (.int .u64 (least : Nat)) (.int .u64 (live : Nat)) (.bool false) (.int .u64 (est : Nat)) (.int .u64 (room : Nat)) (.int .u64 (credit : Nat)) (.int .u64 (done : Nat)) (.int .u64 (made : Nat)) (.slice A2 ds.length c2)
    have b2' := below_ten (b := w1.heap.size) b2 (by omega) (.int .i64 pct) (.int .u64 (least : Nat)) (.int .u64 (live : Nat)) (.bool false) (.int .u64 (est : Nat)) (.int .u64 (room : Nat)) (.int .u64 (credit : Nat)) (.int .u64 (done : Nat)) (.int .u64 (made : Nat)) (.slice A2 ds.length c2)
    obtain ⟨x0, x1, x2, x3, x4, x5, x6, x7, x8, x9, xf⟩ := id t1
    obtain ⟨y0, y1, y2, y3, y4, y5, y6, y7, y8, y9, yf⟩ := id t0
    have b3 := b2'
    have u0 := t0'
    have u1 := t1'
    have oD3 := oD'
    go_wp2
    exact bodyPost_ret (res_pp2 rfl rfl (u0.all _ _ _ _ _ _ _ _ _ _)) rfl ⟨A2, c2, rfl, (oD3.ten (.inl (by omega)) _ _ _ _ _ _ _ _ _ _).mono (by omega), below_ten b3 (by omega) _ _ _ _ _ _ _ _ _ _⟩
  · have f1 : (who != -1) = true := by simp; omega
    rw [decide_eq_true (show 0 ≤ who ∧ who < (p.ds.length : Int) by omega)] at HH
    clear hk hf hw
    obtain ⟨pct, least, live, on, est, room, credit, done, made, ds⟩ := p
    simp only at *
    subst ho
    go_enter Try.func26, Try.ntmps26
    go_wp2_with fail
    go_at_call 28
    refine (HV.out _ (hr.later (by repeat (first | exact Below.refl _ _ | assumption | (refine below_drewN ?_ _) | (refine Below.drew ?_) | (refine Below.alloc ?_ (by first | omega | (simp; omega) | simp) _) | (refine Below.setCell ?_ (by first | omega | (simp; omega) | simp) _) | (refine below_trans ?_ (by assumption) (by first | omega | (simp; omega) | simp)))))).mono ?_
    rintro e w1 ⟨rfl, hb_w1⟩
    obtain ⟨hc_w1, hf_w1⟩ := bcell hb_w1; have hz_w1_w_0 : w.heap.size < w1.heap.size := (by have hzz := hb_w1.size; (try simp only [World.size_alloc, World.size_setCell, World.size_drew, World.heap_drewN] at hzz); omega); have hz_w1_w_1 : w.heap.size + 1 < w1.heap.size := (by have hzz := hb_w1.size; (try simp only [World.size_alloc, World.size_setCell, World.size_drew, World.heap_drewN] at hzz); omega); have hs_w1 := hb_w1.size; (try simp only [World.size_alloc, World.size_setCell, World.size_drew, World.heap_drewN] at hs_w1)
    have b1 : Below w.heap.size w w1 := (by repeat (first | exact Below.refl _ _ | assumption | (refine below_drewN ?_ _) | (refine Below.drew ?_) | (refine Below.alloc ?_ (by first | omega | (simp; omega) | simp) _) | (refine Below.setCell ?_ (by first | omega | (simp; omega) | simp) _) | (refine below_trans ?_ (by assumption) (by first | omega | (simp; omega) | simp))))
    have t0 := (Ten.new (w.alloc (.cells #[.int .i64 pct, .int .u64 (least : Nat), .int .u64 (live : Nat), .bool false, .int .u64 (est : Nat), .int .u64 (room : Nat), .int .u64 (credit : Nat), .int .u64 (done : Nat), .int .u64 (made : Nat), .slice A ds.length c] 25)) (.int .i64 0) (.int .u64 0) (.int .u64 0) (.bool false) (.int .u64 0) (.int .u64 0) (.int .u64 0) (.int .u64 0) (.int .u64 0) (.slice none 0 0) 25).later hb_w1
    simp only [World.size_alloc] at t0
    have t1 := Ten.new w1 (.int .i64 pct) (.int .u64 (least : Nat)) (.int .u64 (live : Nat)) (.bool false) (.int .u64 (est : Nat)) (.int .u64 (room : Nat)) (.int .u64 (credit : Nat)) (.int .u64 (done : Nat)) (.int .u64 (made : Nat)) (.slice A ds.length c) 51
    have t0 := t0.later ((Below.refl _ _).alloc (Nat.le_refl _) (.cells #[.int .i64 pct, .int .u64 (least : Nat), .int .u64 (live : Nat), .bool false, .int .u64 (est : Nat), .int .u64 (room : Nat), .int .u64 (credit : Nat), .int .u64 (done : Nat), .int .u64 (made : Nat), .slice A ds.length c] 51))
    clear hc_w1 hf_w1
    go_wp2_with fail
    go_at_call 33
    refine (HT.out _ ((hr.later b1).later (by repeat (first | exact Below.refl _ _ | assumption | (refine below_drewN ?_ _) | (refine Below.drew ?_) | (refine Below.alloc ?_ (by first | omega | (simp; omega) | simp) _) | (refine Below.setCell ?_ (by first | omega | (simp; omega) | simp) _) | (refine below_trans ?_ (by assumption) (by first | omega | (simp; omega) | simp)))))).mono ?_
    rintro e w2 ⟨A2, c2, rfl, oD, hb_w2⟩
    have t0 := t0.later hb_w2
    have t1 := t1.later hb_w2
    have s2 := hb_w2.size
    simp only [World.size_alloc] at oD s2
    have b2 : Below w.heap.size w w2 := (by repeat (first | exact Below.refl _ _ | assumption | (refine below_drewN ?_ _) | (refine Below.drew ?_) | (refine Below.alloc ?_ (by first | omega | (simp; omega) | simp) _) | (refine Below.setCell ?_ (by first | omega | (simp; omega) | simp) _) | (refine below_trans ?_ (by assumption) (by first | omega | (simp; omega) | simp))))
    have t1' := t1.all (.int .i64 pct) (.int .u64 (least : Nat)) (.int .u64 (live : Nat)) (.bool false) (.int .u64 (est : Nat)) (.int .u64 (room : Nat)) (.int .u64 (credit : Nat)) (.int .u64 (done : Nat)) (.int .u64 (made : Nat)) (.slice A2 ds.length c2)
    have t0' := t0.over (g := w1.heap.size) (by omega) (.int .i64 pct) (.int .u64 (least : Nat)) (.int .u64 (live : Nat)) (.bool false) (.int .u64 (est : Nat)) (.int .u64 (room : Nat)) (.int .u64 (credit : Nat)) (.int .u64 (done : Nat)) (.int .u64 (made : Nat)) (.slice A2 ds.length c2)
    have oD' := oD.ten (g := w1.heap.size) (.inl (by first | omega | (simp; omega) | simp)) (.int .i64 pct) (.int .u64 (least : Nat)) (.int .u64 (live : Nat)) (.bool false) (.int .u64 (est : Nat)) (.int .u64 (room : Nat)) (.int .u64 (credit : Nat)) (.int .u64 (done : Nat)) (.int .u64 (made : Nat)) (.slice A2 ds.length c2)
    have b2' := below_ten (b := w1.heap.size) b2 (by omega) (.int .i64 pct) (.int .u64 (least : Nat)) (.int .u64 (live : Nat)) (.bool false) (.int .u64 (est : Nat)) (.int .u64 (room : Nat)) (.int .u64 (credit : Nat)) (.int .u64 (done : Nat)) (.int .u64 (made : Nat)) (.slice A2 ds.length c2)
    obtain ⟨x0, x1, x2, x3, x4, x5, x6, x7, x8, x9, xf⟩ := id t1
    obtain ⟨y0, y1, y2, y3, y4, y5, y6, y7, y8, y9, yf⟩ := id t0
    go_wp2_with fail
    go_at_call 36
    refine (HH.out _ _ _).mono ?_
    rintro e w3 ⟨rfl, hb_w3⟩
    have s3 := hb_w3.size
    rw [size_ten] at s3
    have b3 := below_trans b2' hb_w3 (by rw [size_ten]; omega)
    have u0 := t0'.later hb_w3
    have u1 := t1'.later hb_w3
    have oD3 := oD'.later hb_w3
    clear x0 x1 x2 x3 x4 x5 x6 x7 x8 x9 xf y0 y1 y2 y3 y4 y5 y6 y7 y8 y9 yf
    obtain ⟨m0, m1, m2, m3, m4, m5, m6, m7, m8, m9, mf⟩ := id u1
    obtain ⟨n0, n1, n2, n3, n4, n5, n6, n7, n8, n9, nf⟩ := id u0
    go_wp2
    exact bodyPost_ret (res_pp2 rfl rfl (u0.all _ _ _ _ _ _ _ _ _ _)) rfl ⟨A2, c2, rfl, (oD3.ten (.inl (by omega)) _ _ _ _ _ _ _ _ _ _).mono (by omega), below_ten b3 (by omega) _ _ _ _ _ _ _ _ _ _⟩
set_option maxHeartbeats 4000000 in
theorem pwork_big (hf : FitP p) (hr : Row w w.heap.size A p.ds) (hl : p.ds.length ≤ 17592186044416) (hn : A = none → c = 0) (hs : Row w w.heap.size S l) (hsl : l.length ≤ 17592186044416) (who : Int) (hk : OkP p) (hw1 : -1 ≤ who) (hw2 : who < p.ds.length) (ho : p.on = true) (hm : ¬ AllM l) :
    Calls Try.prog 26 #[(.agg #[.int .i64 p.pct, .int .u64 (p.least : Nat), .int .u64 (p.live : Nat), .bool p.on, .int .u64 (p.est : Nat), .int .u64 (p.room : Nat), .int .u64 (p.credit : Nat), .int .u64 (p.done : Nat), .int .u64 (p.made : Nat), .slice A p.ds.length c]), .int .i64 who, .slice S l.length cl] w fun e w' => ∃ A' c', e = .returned (.tuple #[(.agg #[.int .i64 p.pct, .int .u64 (p.least : Nat), .int .u64 (p.live : Nat), .bool p.on, .int .u64 (p.est : Nat), .int .u64 (p.room : Nat), .int .u64 (p.credit : Nat), .int .u64 (p.done : Nat), .int .u64 (p.made : Nat), .slice A' p.ds.length c']), .int .i64 1]) ∧ OwnD w' w.heap.size A' c' (p).ds ∧ Below w.heap.size w w' := by
  have HT := Lib.hid fun (w : World) hr => ptwin_any (w := w) (p := p) (A := A) c hr hl hn
  have HH := Lib.hid fun (w : World) (A : Option Addr) (c : Nat) => phas_anyP (w := w) (p := p) (A := A) c who
  have HX := Lib.hid fun (w : World) hr => pexceeds_any (w := w) (A := S) (l := l) cl hr hsl
  have HV := Lib.hid fun (w : World) hr => pview_ok (w := w) (p := p) (A := A) c hf hr hl hk
  have hx : l.any (fun d => decide (1099511627776 < d)) = true := by
    cases h : l.any (fun d => decide (1099511627776 < d))
    · exact absurd ((allM_any l).1 h) hm
    · rfl
  rw [hx] at HX
  clear hx hm
  by_cases hw : who = -1
  · subst hw
    clear hk hf HH
    obtain ⟨pct, least, live, on, est, room, credit, done, made, ds⟩ := p
    simp only at *
    subst ho
    go_enter Try.func26, Try.ntmps26
    go_wp2_with fail
    go_at_call 28
    refine (HV.out _ (hr.later (by repeat (first | exact Below.refl _ _ | assumption | (refine below_drewN ?_ _) | (refine Below.drew ?_) | (refine Below.alloc ?_ (by first | omega | (simp; omega) | simp) _) | (refine Below.setCell ?_ (by first | omega | (simp; omega) | simp) _) | (refine below_trans ?_ (by assumption) (by first | omega | (simp; omega) | simp)))))).mono ?_
    rintro e w1 ⟨rfl, hb_w1⟩
    obtain ⟨hc_w1, hf_w1⟩ := bcell hb_w1; have hz_w1_w_0 : w.heap.size < w1.heap.size := (by have hzz := hb_w1.size; (try simp only [World.size_alloc, World.size_setCell, World.size_drew, World.heap_drewN] at hzz); omega); have hz_w1_w_1 : w.heap.size + 1 < w1.heap.size := (by have hzz := hb_w1.size; (try simp only [World.size_alloc, World.size_setCell, World.size_drew, World.heap_drewN] at hzz); omega); have hs_w1 := hb_w1.size; (try simp only [World.size_alloc, World.size_setCell, World.size_drew, World.heap_drewN] at hs_w1)
    have b1 : Below w.heap.size w w1 := (by repeat (first | exact Below.refl _ _ | assumption | (refine below_drewN ?_ _) | (refine Below.drew ?_) | (refine Below.alloc ?_ (by first | omega | (simp; omega) | simp) _) | (refine Below.setCell ?_ (by first | omega | (simp; omega) | simp) _) | (refine below_trans ?_ (by assumption) (by first | omega | (simp; omega) | simp))))
    have t0 := (Ten.new (w.alloc (.cells #[.int .i64 pct, .int .u64 (least : Nat), .int .u64 (live : Nat), .bool true, .int .u64 (est : Nat), .int .u64 (room : Nat), .int .u64 (credit : Nat), .int .u64 (done : Nat), .int .u64 (made : Nat), .slice A ds.length c] 25)) (.int .i64 0) (.int .u64 0) (.int .u64 0) (.bool false) (.int .u64 0) (.int .u64 0) (.int .u64 0) (.int .u64 0) (.int .u64 0) (.slice none 0 0) 25).later hb_w1
    simp only [World.size_alloc] at t0
    have t1 := Ten.new w1 (.int .i64 pct) (.int .u64 (least : Nat)) (.int .u64 (live : Nat)) (.bool true) (.int .u64 (est : Nat)) (.int .u64 (room : Nat)) (.int .u64 (credit : Nat)) (.int .u64 (done : Nat)) (.int .u64 (made : Nat)) (.slice A ds.length c) 51
    have t0 := t0.later ((Below.refl _ _).alloc (Nat.le_refl _) (.cells #[.int .i64 pct, .int .u64 (least : Nat), .int .u64 (live : Nat), .bool true, .int .u64 (est : Nat), .int .u64 (room : Nat), .int .u64 (credit : Nat), .int .u64 (done : Nat), .int .u64 (made : Nat), .slice A ds.length c] 51))
    clear hc_w1 hf_w1
    go_wp2_with fail
    go_at_call 33
    refine (HT.out _ ((hr.later b1).later (by repeat (first | exact Below.refl _ _ | assumption | (refine below_drewN ?_ _) | (refine Below.drew ?_) | (refine Below.alloc ?_ (by first | omega | (simp; omega) | simp) _) | (refine Below.setCell ?_ (by first | omega | (simp; omega) | simp) _) | (refine below_trans ?_ (by assumption) (by first | omega | (simp; omega) | simp)))))).mono ?_
    rintro e w2 ⟨A2, c2, rfl, oD, hb_w2⟩
    have t0 := t0.later hb_w2
    have t1 := t1.later hb_w2
    have s2 := hb_w2.size
    simp only [World.size_alloc] at oD s2
    have b2 : Below w.heap.size w w2 := (by repeat (first | exact Below.refl _ _ | assumption | (refine below_drewN ?_ _) | (refine Below.drew ?_) | (refine Below.alloc ?_ (by first | omega | (simp; omega) | simp) _) | (refine Below.setCell ?_ (by first | omega | (simp; omega) | simp) _) | (refine below_trans ?_ (by assumption) (by first | omega | (simp; omega) | simp))))
    have t1' := t1.all (.int .i64 pct) (.int .u64 (least : Nat)) (.int .u64 (live : Nat)) (.bool true) (.int .u64 (est : Nat)) (.int .u64 (room : Nat)) (.int .u64 (credit : Nat)) (.int .u64 (done : Nat)) (.int .u64 (made : Nat)) (.slice A2 ds.length c2)
    have t0' := t0.over (g := w1.heap.size) (by omega) (.int .i64 pct) (.int .u64 (least : Nat)) (.int .u64 (live : Nat)) (.bool true) (.int .u64 (est : Nat)) (.int .u64 (room : Nat)) (.int .u64 (credit : Nat)) (.int .u64 (done : Nat)) (.int .u64 (made : Nat)) (.slice A2 ds.length c2)
    have oD' := oD.ten (g := w1.heap.size) (.inl (by first | omega | (simp; omega) | simp)) (.int .i64 pct) (.int .u64 (least : Nat)) (.int .u64 (live : Nat)) (.bool true) (.int .u64 (est : Nat)) (.int .u64 (room : Nat)) (.int .u64 (credit : Nat)) (.int .u64 (done : Nat)) (.int .u64 (made : Nat)) (.slice A2 ds.length c2)
    have b2' := below_ten (b := w1.heap.size) b2 (by omega) (.int .i64 pct) (.int .u64 (least : Nat)) (.int .u64 (live : Nat)) (.bool true) (.int .u64 (est : Nat)) (.int .u64 (room : Nat)) (.int .u64 (credit : Nat)) (.int .u64 (done : Nat)) (.int .u64 (made : Nat)) (.slice A2 ds.length c2)
    obtain ⟨x0, x1, x2, x3, x4, x5, x6, x7, x8, x9, xf⟩ := id t1
    obtain ⟨y0, y1, y2, y3, y4, y5, y6, y7, y8, y9, yf⟩ := id t0
    have b3 := b2'
    have u0 := t0'
    have u1 := t1'
    have oD3 := oD'
    go_wp2_with fail
    go_at_call 40
    refine (HX.out _ (by exact hs.later b3)).mono ?_
    rintro e w4 ⟨rfl, hb_w4⟩
    have s4 := hb_w4.size
    (try rw [size_ten] at s4)
    have b4 := below_trans b3 hb_w4 b3.size
    have z0 := u0.later hb_w4
    have z1 := u1.later hb_w4
    have oD4 := oD3.later hb_w4
    clear x0 x1 x2 x3 x4 x5 x6 x7 x8 x9 xf y0 y1 y2 y3 y4 y5 y6 y7 y8 y9 yf
    obtain ⟨h0, h1, h2, h3, h4, h5, h6, h7, h8, h9, hf⟩ := id z1
    obtain ⟨k0, k1, k2, k3, k4, k5, k6, k7, k8, k9, kf⟩ := id z0
    go_wp2
    exact bodyPost_ret (res_pp2 rfl rfl (z0.all _ _ _ _ _ _ _ _ _ _)) rfl ⟨A2, c2, rfl, (oD4.ten (.inl (by omega)) _ _ _ _ _ _ _ _ _ _).mono (by omega), below_ten b4 (by omega) _ _ _ _ _ _ _ _ _ _⟩
  · have f1 : (who != -1) = true := by simp; omega
    rw [decide_eq_true (show 0 ≤ who ∧ who < (p.ds.length : Int) by omega)] at HH
    clear hk hf hw
    obtain ⟨pct, least, live, on, est, room, credit, done, made, ds⟩ := p
    simp only at *
    subst ho
    go_enter Try.func26, Try.ntmps26
    go_wp2_with fail
    go_at_call 28
    refine (HV.out _ (hr.later (by repeat (first | exact Below.refl _ _ | assumption | (refine below_drewN ?_ _) | (refine Below.drew ?_) | (refine Below.alloc ?_ (by first | omega | (simp; omega) | simp) _) | (refine Below.setCell ?_ (by first | omega | (simp; omega) | simp) _) | (refine below_trans ?_ (by assumption) (by first | omega | (simp; omega) | simp)))))).mono ?_
    rintro e w1 ⟨rfl, hb_w1⟩
    obtain ⟨hc_w1, hf_w1⟩ := bcell hb_w1; have hz_w1_w_0 : w.heap.size < w1.heap.size := (by have hzz := hb_w1.size; (try simp only [World.size_alloc, World.size_setCell, World.size_drew, World.heap_drewN] at hzz); omega); have hz_w1_w_1 : w.heap.size + 1 < w1.heap.size := (by have hzz := hb_w1.size; (try simp only [World.size_alloc, World.size_setCell, World.size_drew, World.heap_drewN] at hzz); omega); have hs_w1 := hb_w1.size; (try simp only [World.size_alloc, World.size_setCell, World.size_drew, World.heap_drewN] at hs_w1)
    have b1 : Below w.heap.size w w1 := (by repeat (first | exact Below.refl _ _ | assumption | (refine below_drewN ?_ _) | (refine Below.drew ?_) | (refine Below.alloc ?_ (by first | omega | (simp; omega) | simp) _) | (refine Below.setCell ?_ (by first | omega | (simp; omega) | simp) _) | (refine below_trans ?_ (by assumption) (by first | omega | (simp; omega) | simp))))
    have t0 := (Ten.new (w.alloc (.cells #[.int .i64 pct, .int .u64 (least : Nat), .int .u64 (live : Nat), .bool true, .int .u64 (est : Nat), .int .u64 (room : Nat), .int .u64 (credit : Nat), .int .u64 (done : Nat), .int .u64 (made : Nat), .slice A ds.length c] 25)) (.int .i64 0) (.int .u64 0) (.int .u64 0) (.bool false) (.int .u64 0) (.int .u64 0) (.int .u64 0) (.int .u64 0) (.int .u64 0) (.slice none 0 0) 25).later hb_w1
    simp only [World.size_alloc] at t0
    have t1 := Ten.new w1 (.int .i64 pct) (.int .u64 (least : Nat)) (.int .u64 (live : Nat)) (.bool true) (.int .u64 (est : Nat)) (.int .u64 (room : Nat)) (.int .u64 (credit : Nat)) (.int .u64 (done : Nat)) (.int .u64 (made : Nat)) (.slice A ds.length c) 51
    have t0 := t0.later ((Below.refl _ _).alloc (Nat.le_refl _) (.cells #[.int .i64 pct, .int .u64 (least : Nat), .int .u64 (live : Nat), .bool true, .int .u64 (est : Nat), .int .u64 (room : Nat), .int .u64 (credit : Nat), .int .u64 (done : Nat), .int .u64 (made : Nat), .slice A ds.length c] 51))
    clear hc_w1 hf_w1
    go_wp2_with fail
    go_at_call 33
    refine (HT.out _ ((hr.later b1).later (by repeat (first | exact Below.refl _ _ | assumption | (refine below_drewN ?_ _) | (refine Below.drew ?_) | (refine Below.alloc ?_ (by first | omega | (simp; omega) | simp) _) | (refine Below.setCell ?_ (by first | omega | (simp; omega) | simp) _) | (refine below_trans ?_ (by assumption) (by first | omega | (simp; omega) | simp)))))).mono ?_
    rintro e w2 ⟨A2, c2, rfl, oD, hb_w2⟩
    have t0 := t0.later hb_w2
    have t1 := t1.later hb_w2
    have s2 := hb_w2.size
    simp only [World.size_alloc] at oD s2
    have b2 : Below w.heap.size w w2 := (by repeat (first | exact Below.refl _ _ | assumption | (refine below_drewN ?_ _) | (refine Below.drew ?_) | (refine Below.alloc ?_ (by first | omega | (simp; omega) | simp) _) | (refine Below.setCell ?_ (by first | omega | (simp; omega) | simp) _) | (refine below_trans ?_ (by assumption) (by first | omega | (simp; omega) | simp))))
    have t1' := t1.all (.int .i64 pct) (.int .u64 (least : Nat)) (.int .u64 (live : Nat)) (.bool true) (.int .u64 (est : Nat)) (.int .u64 (room : Nat)) (.int .u64 (credit : Nat)) (.int .u64 (done : Nat)) (.int .u64 (made : Nat)) (.slice A2 ds.length c2)
    have t0' := t0.over (g := w1.heap.size) (by omega) (.int .i64 pct) (.int .u64 (least : Nat)) (.int .u64 (live : Nat)) (.bool true) (.int .u64 (est : Nat)) (.int .u64 (room : Nat)) (.int .u64 (credit : Nat)) (.int .u64 (done : Nat)) (.int .u64 (made : Nat)) (.slice A2 ds.length c2)
    have oD' := oD.ten (g := w1.heap.size) (.inl (by first | omega | (simp; omega) | simp)) (.int .i64 pct) (.int .u64 (least : Nat)) (.int .u64 (live : Nat)) (.bool true) (.int .u64 (est : Nat)) (.int .u64 (room : Nat)) (.int .u64 (credit : Nat)) (.int .u64 (done : Nat)) (.int .u64 (made : Nat)) (.slice A2 ds.length c2)
    have b2' := below_ten (b := w1.heap.size) b2 (by omega) (.int .i64 pct) (.int .u64 (least : Nat)) (.int .u64 (live : Nat)) (.bool true) (.int .u64 (est : Nat)) (.int .u64 (room : Nat)) (.int .u64 (credit : Nat)) (.int .u64 (done : Nat)) (.int .u64 (made : Nat)) (.slice A2 ds.length c2)
    obtain ⟨x0, x1, x2, x3, x4, x5, x6, x7, x8, x9, xf⟩ := id t1
    obtain ⟨y0, y1, y2, y3, y4, y5, y6, y7, y8, y9, yf⟩ := id t0
    go_wp2_with fail
    go_at_call 36
    refine (HH.out _ _ _).mono ?_
    rintro e w3 ⟨rfl, hb_w3⟩
    have s3 := hb_w3.size
    rw [size_ten] at s3
    have b3 := below_trans b2' hb_w3 (by rw [size_ten]; omega)
    have u0 := t0'.later hb_w3
    have u1 := t1'.later hb_w3
    have oD3 := oD'.later hb_w3
    clear x0 x1 x2 x3 x4 x5 x6 x7 x8 x9 xf y0 y1 y2 y3 y4 y5 y6 y7 y8 y9 yf
    obtain ⟨m0, m1, m2, m3, m4, m5, m6, m7, m8, m9, mf⟩ := id u1
    obtain ⟨n0, n1, n2, n3, n4, n5, n6, n7, n8, n9, nf⟩ := id u0
    go_wp2_with fail
    go_at_call 40
    refine (HX.out _ (by exact hs.later b3)).mono ?_
    rintro e w4 ⟨rfl, hb_w4⟩
    have s4 := hb_w4.size
    (try rw [size_ten] at s4)
    have b4 := below_trans b3 hb_w4 b3.size
    have z0 := u0.later hb_w4
    have z1 := u1.later hb_w4
    have oD4 := oD3.later hb_w4
    clear m0 m1 m2 m3 m4 m5 m6 m7 m8 m9 mf n0 n1 n2 n3 n4 n5 n6 n7 n8 n9 nf
    obtain ⟨h0, h1, h2, h3, h4, h5, h6, h7, h8, h9, hf⟩ := id z1
    obtain ⟨k0, k1, k2, k3, k4, k5, k6, k7, k8, k9, kf⟩ := id z0
    go_wp2
    exact bodyPost_ret (res_pp2 rfl rfl (z0.all _ _ _ _ _ _ _ _ _ _)) rfl ⟨A2, c2, rfl, (oD4.ten (.inl (by omega)) _ _ _ _ _ _ _ _ _ _).mono (by omega), below_ten b4 (by omega) _ _ _ _ _ _ _ _ _ _⟩
set_option maxHeartbeats 4000000 in
theorem pwork_ok (hf : FitP p) (hr : Row w w.heap.size A p.ds) (hl : p.ds.length ≤ 17592186044416) (hn : A = none → c = 0) (hs : Row w w.heap.size S l) (hsl : l.length ≤ 17592186044416) (who : Int) (hk : OkP p) (hw1 : -1 ≤ who) (hw2 : who < p.ds.length) (ho : p.on = true) (hm : AllM l) (q : Pc) (hq : q = wrk who p l) :
    Calls Try.prog 26 #[(.agg #[.int .i64 p.pct, .int .u64 (p.least : Nat), .int .u64 (p.live : Nat), .bool p.on, .int .u64 (p.est : Nat), .int .u64 (p.room : Nat), .int .u64 (p.credit : Nat), .int .u64 (p.done : Nat), .int .u64 (p.made : Nat), .slice A p.ds.length c]), .int .i64 who, .slice S l.length cl] w fun e w' => ∃ A' c', e = .returned (.tuple #[(.agg #[.int .i64 q.pct, .int .u64 (q.least : Nat), .int .u64 (q.live : Nat), .bool q.on, .int .u64 (q.est : Nat), .int .u64 (q.room : Nat), .int .u64 (q.credit : Nat), .int .u64 (q.done : Nat), .int .u64 (q.made : Nat), .slice A' q.ds.length c']), .int .i64 0]) ∧ OwnD w' w.heap.size A' c' (q).ds ∧ Below w.heap.size w w' := by
  have HT := Lib.hid fun (w : World) hr => ptwin_any (w := w) (p := p) (A := A) c hr hl hn
  have HH := Lib.hid fun (w : World) (A : Option Addr) (c : Nat) => phas_anyP (w := w) (p := p) (A := A) c who
  have HX := Lib.hid fun (w : World) hr => pexceeds_any (w := w) (A := S) (l := l) cl hr hsl
  have HV := Lib.hid fun (w : World) hr => pview_ok (w := w) (p := p) (A := A) c hf hr hl hk
  have hx : l.any (fun d => decide (1099511627776 < d)) = false := (allM_any l).2 hm
  rw [hx] at HX
  clear hx
  subst hq
  by_cases hw : who = -1
  · subst hw
    have HA := Lib.hid fun (w : World) (b g B c B0 : Nat) hb hO hgb hs h1 h2 h3 => pworkN_any (w := w) (p := p) (b := b) (g := g) (B := B) (B0 := B0) (S := S) (l := l) c cl hk ho hb hO hgb hs h1 h2 h3 hsl hm
    have HQ : Hid ((wrk (-1) p l).ds.length = p.ds.length) := Lib.hid (wrk_ok hk ho _ _).2.2
    generalize wrk (-1) p l = q at *
    unfold PBox at HA
    rw [HQ.out] at HA
    have hpos : 0 < p.ds.length := hk.len1
    clear hk hf HH hm
    obtain ⟨pct, least, live, on, est, room, credit, done, made, ds⟩ := p
    simp only at *
    subst ho
    go_enter Try.func26, Try.ntmps26
    go_wp2_with fail
    go_at_call 28
    refine (HV.out _ (hr.later (by repeat (first | exact Below.refl _ _ | assumption | (refine below_drewN ?_ _) | (refine Below.drew ?_) | (refine Below.alloc ?_ (by first | omega | (simp; omega) | simp) _) | (refine Below.setCell ?_ (by first | omega | (simp; omega) | simp) _) | (refine below_trans ?_ (by assumption) (by first | omega | (simp; omega) | simp)))))).mono ?_
    rintro e w1 ⟨rfl, hb_w1⟩
    obtain ⟨hc_w1, hf_w1⟩ := bcell hb_w1; have hz_w1_w_0 : w.heap.size < w1.heap.size := (by have hzz := hb_w1.size; (try simp only [World.size_alloc, World.size_setCell, World.size_drew, World.heap_drewN] at hzz); omega); have hz_w1_w_1 : w.heap.size + 1 < w1.heap.size := (by have hzz := hb_w1.size; (try simp only [World.size_alloc, World.size_setCell, World.size_drew, World.heap_drewN] at hzz); omega); have hs_w1 := hb_w1.size; (try simp only [World.size_alloc, World.size_setCell, World.size_drew, World.heap_drewN] at hs_w1)
    have b1 : Below w.heap.size w w1 := (by repeat (first | exact Below.refl _ _ | assumption | (refine below_drewN ?_ _) | (refine Below.drew ?_) | (refine Below.alloc ?_ (by first | omega | (simp; omega) | simp) _) | (refine Below.setCell ?_ (by first | omega | (simp; omega) | simp) _) | (refine below_trans ?_ (by assumption) (by first | omega | (simp; omega) | simp))))
    have t0 := (Ten.new (w.alloc (.cells #[.int .i64 pct, .int .u64 (least : Nat), .int .u64 (live : Nat), .bool true, .int .u64 (est : Nat), .int .u64 (room : Nat), .int .u64 (credit : Nat), .int .u64 (done : Nat), .int .u64 (made : Nat), .slice A ds.length c] 25)) (.int .i64 0) (.int .u64 0) (.int .u64 0) (.bool false) (.int .u64 0) (.int .u64 0) (.int .u64 0) (.int .u64 0) (.int .u64 0) (.slice none 0 0) 25).later hb_w1
    simp only [World.size_alloc] at t0
    have t1 := Ten.new w1 (.int .i64 pct) (.int .u64 (least : Nat)) (.int .u64 (live : Nat)) (.bool true) (.int .u64 (est : Nat)) (.int .u64 (room : Nat)) (.int .u64 (credit : Nat)) (.int .u64 (done : Nat)) (.int .u64 (made : Nat)) (.slice A ds.length c) 51
    have t0 := t0.later ((Below.refl _ _).alloc (Nat.le_refl _) (.cells #[.int .i64 pct, .int .u64 (least : Nat), .int .u64 (live : Nat), .bool true, .int .u64 (est : Nat), .int .u64 (room : Nat), .int .u64 (credit : Nat), .int .u64 (done : Nat), .int .u64 (made : Nat), .slice A ds.length c] 51))
    clear hc_w1 hf_w1
    go_wp2_with fail
    go_at_call 33
    refine (HT.out _ ((hr.later b1).later (by repeat (first | exact Below.refl _ _ | assumption | (refine below_drewN ?_ _) | (refine Below.drew ?_) | (refine Below.alloc ?_ (by first | omega | (simp; omega) | simp) _) | (refine Below.setCell ?_ (by first | omega | (simp; omega) | simp) _) | (refine below_trans ?_ (by assumption) (by first | omega | (simp; omega) | simp)))))).mono ?_
    rintro e w2 ⟨A2, c2, rfl, oD, hb_w2⟩
    have t0 := t0.later hb_w2
    have t1 := t1.later hb_w2
    have s2 := hb_w2.size
    simp only [World.size_alloc] at oD s2
    have b2 : Below w.heap.size w w2 := (by repeat (first | exact Below.refl _ _ | assumption | (refine below_drewN ?_ _) | (refine Below.drew ?_) | (refine Below.alloc ?_ (by first | omega | (simp; omega) | simp) _) | (refine Below.setCell ?_ (by first | omega | (simp; omega) | simp) _) | (refine below_trans ?_ (by assumption) (by first | omega | (simp; omega) | simp))))
    have t1' := t1.all (.int .i64 pct) (.int .u64 (least : Nat)) (.int .u64 (live : Nat)) (.bool true) (.int .u64 (est : Nat)) (.int .u64 (room : Nat)) (.int .u64 (credit : Nat)) (.int .u64 (done : Nat)) (.int .u64 (made : Nat)) (.slice A2 ds.length c2)
    have t0' := t0.over (g := w1.heap.size) (by omega) (.int .i64 pct) (.int .u64 (least : Nat)) (.int .u64 (live : Nat)) (.bool true) (.int .u64 (est : Nat)) (.int .u64 (room : Nat)) (.int .u64 (credit : Nat)) (.int .u64 (done : Nat)) (.int .u64 (made : Nat)) (.slice A2 ds.length c2)
    have oD' := oD.ten (g := w1.heap.size) (.inl (by first | omega | (simp; omega) | simp)) (.int .i64 pct) (.int .u64 (least : Nat)) (.int .u64 (live : Nat)) (.bool true) (.int .u64 (est : Nat)) (.int .u64 (room : Nat)) (.int .u64 (credit : Nat)) (.int .u64 (done : Nat)) (.int .u64 (made : Nat)) (.slice A2 ds.length c2)
    have b2' := below_ten (b := w1.heap.size) b2 (by omega) (.int .i64 pct) (.int .u64 (least : Nat)) (.int .u64 (live : Nat)) (.bool true) (.int .u64 (est : Nat)) (.int .u64 (room : Nat)) (.int .u64 (credit : Nat)) (.int .u64 (done : Nat)) (.int .u64 (made : Nat)) (.slice A2 ds.length c2)
    obtain ⟨x0, x1, x2, x3, x4, x5, x6, x7, x8, x9, xf⟩ := id t1
    obtain ⟨y0, y1, y2, y3, y4, y5, y6, y7, y8, y9, yf⟩ := id t0
    have b3 := b2'
    have u0 := t0'
    have u1 := t1'
    have oD3 := oD'
    go_wp2_with fail
    go_at_call 40
    refine (HX.out _ (by exact hs.later b3)).mono ?_
    rintro e w4 ⟨rfl, hb_w4⟩
    have s4 := hb_w4.size
    (try rw [size_ten] at s4)
    have b4 := below_trans b3 hb_w4 b3.size
    have z0 := u0.later hb_w4
    have z1 := u1.later hb_w4
    have oD4 := oD3.later hb_w4
    clear x0 x1 x2 x3 x4 x5 x6 x7 x8 x9 xf y0 y1 y2 y3 y4 y5 y6 y7 y8 y9 yf
    obtain ⟨h0, h1, h2, h3, h4, h5, h6, h7, h8, h9, hf⟩ := id z1
    obtain ⟨k0, k1, k2, k3, k4, k5, k6, k7, k8, k9, kf⟩ := id z0
    obtain ⟨g, rfl, hBg, hg3, _⟩ := oD4.own.at_ hpos
    go_wp2_with fail
    go_at_call 41
    refine (HA.out _ _ _ _ _ w.heap.size (by exact z1) oD4.own (by omega) (hs.keep fun x o hx => b4.cell (p := ⟨x, o, none⟩) hx) (by omega) (by omega) (by omega)).mono ?_
    rintro e w5 ⟨rfl, r1, o5, O5⟩
    have r0 := z0.off o5 (by omega) (by omega)
    have s5 := o5.size
    have b5 := b4.trans (o5.below w.heap.size (by omega) (by omega) (by omega))
    have oD5 : OwnD w5 _ (some ⟨g, 0, none⟩) c2 q.ds := ⟨O5, by rw [HQ.out]; exact oD4.cap, fun e => (by cases e)⟩
    clear h0 h1 h2 h3 h4 h5 h6 h7 h8 h9 hf k0 k1 k2 k3 k4 k5 k6 k7 k8 k9 kf
    obtain ⟨h0, h1, h2, h3, h4, h5, h6, h7, h8, h9, hf⟩ := id r1
    obtain ⟨k0, k1, k2, k3, k4, k5, k6, k7, k8, k9, kf⟩ := id r0
    have hlen := HQ.out
    go_wp2
    exact bodyPost_ret (res_pp2 rfl rfl (r0.all _ _ _ _ _ _ _ _ _ _)) rfl ⟨some ⟨g, 0, none⟩, c2, by rw [HQ.out]; rfl, (oD5.ten (.inl (by omega)) _ _ _ _ _ _ _ _ _ _).mono (by omega), below_ten b5 (by omega) _ _ _ _ _ _ _ _ _ _⟩
  · obtain ⟨m, rfl⟩ : ∃ m : Nat, who = (m : Int) := ⟨who.toNat, by omega⟩
    have f1 : ((m : Int) != -1) = true := by simp
    rw [decide_eq_true (show 0 ≤ (m : Int) ∧ (m : Int) < (p.ds.length : Int) by omega)] at HH
    have HA := Lib.hid fun (w : World) (b g B c B0 : Nat) hb hO hgb hs h1 h2 h3 hcap => pworkK_any (w := w) (p := p) (b := b) (g := g) (B := B) (B0 := B0) (S := S) (l := l) c cl hk ho hb hO hgb hs h1 h2 h3 hsl hm m (by omega) hcap
    have HQ : Hid ((wrk (m : Int) p l).ds.length = p.ds.length) := Lib.hid (wrk_ok hk ho _ _).2.2
    generalize wrk (m : Int) p l = q at *
    unfold PBox at HA
    rw [HQ.out] at HA
    have hpos : 0 < p.ds.length := hk.len1
    clear hk hf hw hm
    obtain ⟨pct, least, live, on, est, room, credit, done, made, ds⟩ := p
    simp only at *
    subst ho
    go_enter Try.func26, Try.ntmps26
    go_wp2_with fail
    go_at_call 28
    refine (HV.out _ (hr.later (by repeat (first | exact Below.refl _ _ | assumption | (refine below_drewN ?_ _) | (refine Below.drew ?_) | (refine Below.alloc ?_ (by first | omega | (simp; omega) | simp) _) | (refine Below.setCell ?_ (by first | omega | (simp; omega) | simp) _) | (refine below_trans ?_ (by assumption) (by first | omega | (simp; omega) | simp)))))).mono ?_
    rintro e w1 ⟨rfl, hb_w1⟩
    obtain ⟨hc_w1, hf_w1⟩ := bcell hb_w1; have hz_w1_w_0 : w.heap.size < w1.heap.size := (by have hzz := hb_w1.size; (try simp only [World.size_alloc, World.size_setCell, World.size_drew, World.heap_drewN] at hzz); omega); have hz_w1_w_1 : w.heap.size + 1 < w1.heap.size := (by have hzz := hb_w1.size; (try simp only [World.size_alloc, World.size_setCell, World.size_drew, World.heap_drewN] at hzz); omega); have hs_w1 := hb_w1.size; (try simp only [World.size_alloc, World.size_setCell, World.size_drew, World.heap_drewN] at hs_w1)
    have b1 : Below w.heap.size w w1 := (by repeat (first | exact Below.refl _ _ | assumption | (refine below_drewN ?_ _) | (refine Below.drew ?_) | (refine Below.alloc ?_ (by first | omega | (simp; omega) | simp) _) | (refine Below.setCell ?_ (by first | omega | (simp; omega) | simp) _) | (refine below_trans ?_ (by assumption) (by first | omega | (simp; omega) | simp))))
    have t0 := (Ten.new (w.alloc (.cells #[.int .i64 pct, .int .u64 (least : Nat), .int .u64 (live : Nat), .bool true, .int .u64 (est : Nat), .int .u64 (room : Nat), .int .u64 (credit : Nat), .int .u64 (done : Nat), .int .u64 (made : Nat), .slice A ds.length c] 25)) (.int .i64 0) (.int .u64 0) (.int .u64 0) (.bool false) (.int .u64 0) (.int .u64 0) (.int .u64 0) (.int .u64 0) (.int .u64 0) (.slice none 0 0) 25).later hb_w1
    simp only [World.size_alloc] at t0
    have t1 := Ten.new w1 (.int .i64 pct) (.int .u64 (least : Nat)) (.int .u64 (live : Nat)) (.bool true) (.int .u64 (est : Nat)) (.int .u64 (room : Nat)) (.int .u64 (credit : Nat)) (.int .u64 (done : Nat)) (.int .u64 (made : Nat)) (.slice A ds.length c) 51
    have t0 := t0.later ((Below.refl _ _).alloc (Nat.le_refl _) (.cells #[.int .i64 pct, .int .u64 (least : Nat), .int .u64 (live : Nat), .bool true, .int .u64 (est : Nat), .int .u64 (room : Nat), .int .u64 (credit : Nat), .int .u64 (done : Nat), .int .u64 (made : Nat), .slice A ds.length c] 51))
    clear hc_w1 hf_w1
    go_wp2_with fail
    go_at_call 33
    refine (HT.out _ ((hr.later b1).later (by repeat (first | exact Below.refl _ _ | assumption | (refine below_drewN ?_ _) | (refine Below.drew ?_) | (refine Below.alloc ?_ (by first | omega | (simp; omega) | simp) _) | (refine Below.setCell ?_ (by first | omega | (simp; omega) | simp) _) | (refine below_trans ?_ (by assumption) (by first | omega | (simp; omega) | simp)))))).mono ?_
    rintro e w2 ⟨A2, c2, rfl, oD, hb_w2⟩
    have t0 := t0.later hb_w2
    have t1 := t1.later hb_w2
    have s2 := hb_w2.size
    simp only [World.size_alloc] at oD s2
    have b2 : Below w.heap.size w w2 := (by repeat (first | exact Below.refl _ _ | assumption | (refine below_drewN ?_ _) | (refine Below.drew ?_) | (refine Below.alloc ?_ (by first | omega | (simp; omega) | simp) _) | (refine Below.setCell ?_ (by first | omega | (simp; omega) | simp) _) | (refine below_trans ?_ (by assumption) (by first | omega | (simp; omega) | simp))))
    have t1' := t1.all (.int .i64 pct) (.int .u64 (least : Nat)) (.int .u64 (live : Nat)) (.bool true) (.int .u64 (est : Nat)) (.int .u64 (room : Nat)) (.int .u64 (credit : Nat)) (.int .u64 (done : Nat)) (.int .u64 (made : Nat)) (.slice A2 ds.length c2)
    have t0' := t0.over (g := w1.heap.size) (by omega) (.int .i64 pct) (.int .u64 (least : Nat)) (.int .u64 (live : Nat)) (.bool true) (.int .u64 (est : Nat)) (.int .u64 (room : Nat)) (.int .u64 (credit : Nat)) (.int .u64 (done : Nat)) (.int .u64 (made : Nat)) (.slice A2 ds.length c2)
    have oD' := oD.ten (g := w1.heap.size) (.inl (by first | omega | (simp; omega) | simp)) (.int .i64 pct) (.int .u64 (least : Nat)) (.int .u64 (live : Nat)) (.bool true) (.int .u64 (est : Nat)) (.int .u64 (room : Nat)) (.int .u64 (credit : Nat)) (.int .u64 (done : Nat)) (.int .u64 (made : Nat)) (.slice A2 ds.length c2)
    have b2' := below_ten (b := w1.heap.size) b2 (by omega) (.int .i64 pct) (.int .u64 (least : Nat)) (.int .u64 (live : Nat)) (.bool true) (.int .u64 (est : Nat)) (.int .u64 (room : Nat)) (.int .u64 (credit : Nat)) (.int .u64 (done : Nat)) (.int .u64 (made : Nat)) (.slice A2 ds.length c2)
    obtain ⟨x0, x1, x2, x3, x4, x5, x6, x7, x8, x9, xf⟩ := id t1
    obtain ⟨y0, y1, y2, y3, y4, y5, y6, y7, y8, y9, yf⟩ := id t0
    go_wp2_with fail
    go_at_call 36
    refine (HH.out _ _ _).mono ?_
    rintro e w3 ⟨rfl, hb_w3⟩
    have s3 := hb_w3.size
    rw [size_ten] at s3
    have b3 := below_trans b2' hb_w3 (by rw [size_ten]; omega)
    have u0 := t0'.later hb_w3
    have u1 := t1'.later hb_w3
    have oD3 := oD'.later hb_w3
    clear x0 x1 x2 x3 x4 x5 x6 x7 x8 x9 xf y0 y1 y2 y3 y4 y5 y6 y7 y8 y9 yf
    obtain ⟨m0, m1, m2, m3, m4, m5, m6, m7, m8, m9, mf⟩ := id u1
    obtain ⟨n0, n1, n2, n3, n4, n5, n6, n7, n8, n9, nf⟩ := id u0
    go_wp2_with fail
    go_at_call 40
    refine (HX.out _ (by exact hs.later b3)).mono ?_
    rintro e w4 ⟨rfl, hb_w4⟩
    have s4 := hb_w4.size
    (try rw [size_ten] at s4)
    have b4 := below_trans b3 hb_w4 b3.size
    have z0 := u0.later hb_w4
    have z1 := u1.later hb_w4
    have oD4 := oD3.later hb_w4
    clear m0 m1 m2 m3 m4 m5 m6 m7 m8 m9 mf n0 n1 n2 n3 n4 n5 n6 n7 n8 n9 nf
    obtain ⟨h0, h1, h2, h3, h4, h5, h6, h7, h8, h9, hf⟩ := id z1
    obtain ⟨k0, k1, k2, k3, k4, k5, k6, k7, k8, k9, kf⟩ := id z0
    obtain ⟨g, rfl, hBg, hg3, _⟩ := oD4.own.at_ hpos
    go_wp2_with fail
    go_at_call 41
    refine (HA.out _ _ _ _ _ w.heap.size (by exact z1) oD4.own (by omega) (hs.keep fun x o hx => b4.cell (p := ⟨x, o, none⟩) hx) (by omega) (by omega) (by omega) oD4.cap).mono ?_
    rintro e w5 ⟨rfl, r1, o5, O5⟩
    have r0 := z0.off o5 (by omega) (by omega)
    have s5 := o5.size
    have b5 := b4.trans (o5.below w.heap.size (by omega) (by omega) (by omega))
    have oD5 : OwnD w5 _ (some ⟨g, 0, none⟩) c2 q.ds := ⟨O5, by rw [HQ.out]; exact oD4.cap, fun e => (by cases e)⟩
    clear h0 h1 h2 h3 h4 h5 h6 h7 h8 h9 hf k0 k1 k2 k3 k4 k5 k6 k7 k8 k9 kf
    obtain ⟨h0, h1, h2, h3, h4, h5, h6, h7, h8, h9, hf⟩ := id r1
    obtain ⟨k0, k1, k2, k3, k4, k5, k6, k7, k8, k9, kf⟩ := id r0
    have hlen := HQ.out
    go_wp2
    exact bodyPost_ret (res_pp2 rfl rfl (r0.all _ _ _ _ _ _ _ _ _ _)) rfl ⟨some ⟨g, 0, none⟩, c2, by rw [HQ.out]; rfl, (oD5.ten (.inl (by omega)) _ _ _ _ _ _ _ _ _ _).mono (by omega), below_ten b5 (by omega) _ _ _ _ _ _ _ _ _ _⟩
theorem pworkX_any (hf : FitP p) (hr : Row w w.heap.size A p.ds) (hl : p.ds.length ≤ 17592186044416) (hn : A = none → c = 0) (hs : Row w w.heap.size S l) (hsl : l.length ≤ 17592186044416) (who : Int) (q : Pc) (y : Int) (hE : WrkE p who l q y) :
    Calls Try.prog 26 #[(.agg #[.int .i64 p.pct, .int .u64 (p.least : Nat), .int .u64 (p.live : Nat), .bool p.on, .int .u64 (p.est : Nat), .int .u64 (p.room : Nat), .int .u64 (p.credit : Nat), .int .u64 (p.done : Nat), .int .u64 (p.made : Nat), .slice A p.ds.length c]), .int .i64 who, .slice S l.length cl] w fun e w' => ∃ A' c', e = .returned (.tuple #[(.agg #[.int .i64 q.pct, .int .u64 (q.least : Nat), .int .u64 (q.live : Nat), .bool q.on, .int .u64 (q.est : Nat), .int .u64 (q.room : Nat), .int .u64 (q.credit : Nat), .int .u64 (q.done : Nat), .int .u64 (q.made : Nat), .slice A' q.ds.length c']), .int .i64 y]) ∧ OwnD w' w.heap.size A' c' q.ds ∧ Below w.heap.size w w' := by
  rcases hE with ⟨hk, rfl, rfl⟩ | ⟨hk, hw, rfl, rfl⟩ | ⟨hk, hw1, hw2, ho, rfl, rfl⟩ | ⟨hk, hw1, hw2, ho, hm, rfl, rfl⟩ | ⟨hk, hw1, hw2, ho, hm, hq, rfl⟩
  · exact pwork_bad c cl hf hr hl hn hs hsl who hk
  · exact pwork_task c cl hf hr hl hn hs hsl who hk hw
  · exact pwork_off c cl hf hr hl hn hs hsl who hk hw1 hw2 ho
  · exact pwork_big c cl hf hr hl hn hs hsl who hk hw1 hw2 ho hm
  · exact pwork_ok c cl hf hr hl hn hs hsl who hk hw1 hw2 ho hm q hq
end
end Go.Proofs.Ytkdbcoibapcmjaa
