/- MD, in one text: S23, S23b, S23c, S24, S25, S26. -/
import Derived.Test.YthphefoohkofbaaMC
/- Add of spans, where it is refused. -/
namespace Go.Proofs.Ythphefoohkofbaa
open Go.RowKit
set_option linter.unusedVariables false
set_option linter.unusedSimpArgs false

section
variable {w : World} {A As Ms : Option Addr} {l : List Sd} (cap ca cm : Nat)
set_option maxHeartbeats 8000000 in
theorem sadd_clash (hr : SRow w w.heap.size A l) (hcl : l.length ≤ cap) (hnil : A = none → cap = 0) (d : Sd) (hA : Row w w.heap.size As d.aw) (hM : Row w w.heap.size Ms d.mw) (h : OkL l) (h1 : Ok1 d) (i : Nat) (hI : IdxE l (hitsS d) (i : Nat)) (hc : (nth l i).f < d.f + d.p) :
    Calls Try.prog 26 #[.slice A l.length cap, spv d As ca Ms cm] w fun e w' => FreshL5 w l 4 e w' := by
  unfold FreshL5
  have hl : l.length ≤ 17592186044416 := by have := h.1; omega
  have C := Lib.hid fun (w : World) hr => scheck_any (w := w) (A := A) (l := l) cap hr hl 0 (.inl ⟨h, rfl⟩)
  have V := Lib.hid fun (w : World) (g : Nat) (hg : w.heap.size = g) hA hM (t : TypeId) => scheck1_any (w := w) (d := d) (A := As) (M := Ms) ca cm hg hA hM 0 (.inl ⟨h1, rfl⟩) t
  have HI := Lib.hid hI
  have HW := Lib.hid h.words
  have HO := Lib.hid h
  have hok256 := h.1
  have HSY := Lib.hid fun (w : World) B hB => says_add1 (w := w) (l := l) d B HO.out hB
  have hsl := h1.sized.slots
  have hpl := h1.placed
  unfold Placed at hpl
  have G := Lib.hid fun (w : World) => sbehind_any (w := w) d As ca Ms cm (by omega) (by omega)
  have hw1 : Hid (d.aw.length = 1 ∧ d.mw.length = 1) := Lib.hid ⟨h1.aw, h1.mw⟩
  have hil := hI.lt
  obtain ⟨ff, hff⟩ : ∃ ff, Hid ((nth l i).f = ff) := ⟨_, rfl⟩
  rw [hff.out] at hc
  have g2 : decide (ff < d.f + d.p) = true := decide_eq_true hc
  have HD : Hid (∀ d' : Sd, d' = d → hitsS d = hitsS d') := Lib.hid (fun d' e => by rw [e])
  clear h h1 hI hc
  obtain ⟨f, p, z, an, aw, mn, mw, s⟩ := d
  unfold spv at G ⊢
  simp only at *
  go_enter Try.func26, Try.ntmps26
  go_wp2_with fail
  go_at_call 19
  refine (C.out _ (hr.later (by repeat (first | exact Below.refl _ _ | assumption | (refine below_drewN ?_ _) | (refine Below.drew ?_) | (refine Below.alloc ?_ (by first | omega | (simp; omega) | simp) _) | (refine Below.setCell ?_ (by first | omega | (simp; omega) | simp) _) | (refine below_trans ?_ (by assumption) (by first | omega | (simp; omega) | simp)))))).mono ?_
  rintro e w1 ⟨rfl, hb_w1⟩
  obtain ⟨hc_w1, hf_w1⟩ := bcell hb_w1; have hz_w1_w_0 : w.heap.size < w1.heap.size := (by have hzz := hb_w1.size; (try simp only [World.size_alloc, World.size_setCell, World.size_drew, World.heap_drewN] at hzz); omega); have hs_w1 := hb_w1.size; (try simp only [World.size_alloc, World.size_setCell, World.size_drew, World.heap_drewN] at hs_w1)
  have b1 : Below w.heap.size w w1 := (by repeat (first | exact Below.refl _ _ | assumption | (refine below_drewN ?_ _) | (refine Below.drew ?_) | (refine Below.alloc ?_ (by first | omega | (simp; omega) | simp) _) | (refine Below.setCell ?_ (by first | omega | (simp; omega) | simp) _) | (refine below_trans ?_ (by assumption) (by first | omega | (simp; omega) | simp))))
  have qw10 : w1.cell? ⟨w.heap.size, 0, none⟩ = some (.int .i64 f) := (hc_w1 _ _ (by first | omega | (simp; omega) | simp)).trans (by simp [go_sem])
  have qw11 : w1.cell? ⟨w.heap.size, 1, none⟩ = some (.int .i64 p) := (hc_w1 _ _ (by first | omega | (simp; omega) | simp)).trans (by simp [go_sem])
  have qw12 : w1.cell? ⟨w.heap.size, 2, none⟩ = some (.int .i64 z) := (hc_w1 _ _ (by first | omega | (simp; omega) | simp)).trans (by simp [go_sem])
  have qw13 : w1.cell? ⟨w.heap.size, 3, none⟩ = some (.int .i64 an) := (hc_w1 _ _ (by first | omega | (simp; omega) | simp)).trans (by simp [go_sem])
  have qw14 : w1.cell? ⟨w.heap.size, 4, none⟩ = some (.slice As aw.length ca) := (hc_w1 _ _ (by first | omega | (simp; omega) | simp)).trans (by simp [go_sem])
  have qw15 : w1.cell? ⟨w.heap.size, 5, none⟩ = some (.int .i64 mn) := (hc_w1 _ _ (by first | omega | (simp; omega) | simp)).trans (by simp [go_sem])
  have qw16 : w1.cell? ⟨w.heap.size, 6, none⟩ = some (.slice Ms mw.length cm) := (hc_w1 _ _ (by first | omega | (simp; omega) | simp)).trans (by simp [go_sem])
  have qw17 : w1.cell? ⟨w.heap.size, 7, none⟩ = some (.bool s) := (hc_w1 _ _ (by first | omega | (simp; omega) | simp)).trans (by simp [go_sem])
  clear hc_w1 hf_w1
  go_wp2_with fail
  go_at_call 19
  refine (V.out _ _ rfl (hA.later b1) (hM.later b1) _).mono ?_
  rintro e w2 ⟨rfl, hb_w2⟩
  obtain ⟨hc_w2, hf_w2⟩ := bcell hb_w2
  have hs2 := hb_w2.size
  (try simp only [World.size_alloc] at hs2)
  have b2 : Below w.heap.size w w2 := (by repeat (first | exact Below.refl _ _ | assumption | (refine below_drewN ?_ _) | (refine Below.drew ?_) | (refine Below.alloc ?_ (by first | omega | (simp; omega) | simp) _) | (refine Below.setCell ?_ (by first | omega | (simp; omega) | simp) _) | (refine below_trans ?_ (by assumption) (by first | omega | (simp; omega) | simp))))
  have qw20 : w2.cell? ⟨w.heap.size, 0, none⟩ = some (.int .i64 f) := (hc_w2 _ _ (by first | omega | (simp; omega) | simp)).trans ((World.cell?_alloc_lt _ _ ⟨_, _, _⟩ (by first | omega | (simp; omega) | simp)).trans qw10)
  have qw21 : w2.cell? ⟨w.heap.size, 1, none⟩ = some (.int .i64 p) := (hc_w2 _ _ (by first | omega | (simp; omega) | simp)).trans ((World.cell?_alloc_lt _ _ ⟨_, _, _⟩ (by first | omega | (simp; omega) | simp)).trans qw11)
  have qw22 : w2.cell? ⟨w.heap.size, 2, none⟩ = some (.int .i64 z) := (hc_w2 _ _ (by first | omega | (simp; omega) | simp)).trans ((World.cell?_alloc_lt _ _ ⟨_, _, _⟩ (by first | omega | (simp; omega) | simp)).trans qw12)
  have qw23 : w2.cell? ⟨w.heap.size, 3, none⟩ = some (.int .i64 an) := (hc_w2 _ _ (by first | omega | (simp; omega) | simp)).trans ((World.cell?_alloc_lt _ _ ⟨_, _, _⟩ (by first | omega | (simp; omega) | simp)).trans qw13)
  have qw24 : w2.cell? ⟨w.heap.size, 4, none⟩ = some (.slice As aw.length ca) := (hc_w2 _ _ (by first | omega | (simp; omega) | simp)).trans ((World.cell?_alloc_lt _ _ ⟨_, _, _⟩ (by first | omega | (simp; omega) | simp)).trans qw14)
  have qw25 : w2.cell? ⟨w.heap.size, 5, none⟩ = some (.int .i64 mn) := (hc_w2 _ _ (by first | omega | (simp; omega) | simp)).trans ((World.cell?_alloc_lt _ _ ⟨_, _, _⟩ (by first | omega | (simp; omega) | simp)).trans qw15)
  have qw26 : w2.cell? ⟨w.heap.size, 6, none⟩ = some (.slice Ms mw.length cm) := (hc_w2 _ _ (by first | omega | (simp; omega) | simp)).trans ((World.cell?_alloc_lt _ _ ⟨_, _, _⟩ (by first | omega | (simp; omega) | simp)).trans qw16)
  have qw27 : w2.cell? ⟨w.heap.size, 7, none⟩ = some (.bool s) := (hc_w2 _ _ (by first | omega | (simp; omega) | simp)).trans ((World.cell?_alloc_lt _ _ ⟨_, _, _⟩ (by first | omega | (simp; omega) | simp)).trans qw17)
  clear qw10 qw11 qw12 qw13 qw14 qw15 qw16 qw17 hc_w2 hf_w2
  go_wp2_with fail
  go_at_call 47
  refine (sindex_any cap 56 _ (hitsS ⟨f, p, z, an, aw, mn, mw, s⟩) eg_add1 (hr.later b2) hl (HSY.out _ _ qw20) (i : Nat) HI.out).mono ?_
  rintro e w3 ⟨rfl, hb_w3⟩
  obtain ⟨hc_w3, hf_w3⟩ := bcell hb_w3
  have hs3 := hb_w3.size
  have b3 : Below w.heap.size w w3 := (by repeat (first | exact Below.refl _ _ | assumption | (refine below_drewN ?_ _) | (refine Below.drew ?_) | (refine Below.alloc ?_ (by first | omega | (simp; omega) | simp) _) | (refine Below.setCell ?_ (by first | omega | (simp; omega) | simp) _) | (refine below_trans ?_ (by assumption) (by first | omega | (simp; omega) | simp))))
  have hlt3 : w.heap.size < w3.heap.size := by omega
  have qw30 : w3.cell? ⟨w.heap.size, 0, none⟩ = some (.int .i64 f) := (hc_w3 _ _ (by first | omega | (simp; omega) | simp)).trans (qw20)
  have qw31 : w3.cell? ⟨w.heap.size, 1, none⟩ = some (.int .i64 p) := (hc_w3 _ _ (by first | omega | (simp; omega) | simp)).trans (qw21)
  have qw32 : w3.cell? ⟨w.heap.size, 2, none⟩ = some (.int .i64 z) := (hc_w3 _ _ (by first | omega | (simp; omega) | simp)).trans (qw22)
  have qw33 : w3.cell? ⟨w.heap.size, 3, none⟩ = some (.int .i64 an) := (hc_w3 _ _ (by first | omega | (simp; omega) | simp)).trans (qw23)
  have qw34 : w3.cell? ⟨w.heap.size, 4, none⟩ = some (.slice As aw.length ca) := (hc_w3 _ _ (by first | omega | (simp; omega) | simp)).trans (qw24)
  have qw35 : w3.cell? ⟨w.heap.size, 5, none⟩ = some (.int .i64 mn) := (hc_w3 _ _ (by first | omega | (simp; omega) | simp)).trans (qw25)
  have qw36 : w3.cell? ⟨w.heap.size, 6, none⟩ = some (.slice Ms mw.length cm) := (hc_w3 _ _ (by first | omega | (simp; omega) | simp)).trans (qw26)
  have qw37 : w3.cell? ⟨w.heap.size, 7, none⟩ = some (.bool s) := (hc_w3 _ _ (by first | omega | (simp; omega) | simp)).trans (qw27)
  clear qw20 qw21 qw22 qw23 qw24 qw25 qw26 qw27 hc_w3 hf_w3
  have hr3 := hr.later b3
  have j0 : decide ((i : Int) < 0) = false := decide_eq_false (by omega)
  have j1 : (i : Int) < (l.length : Int) := by omega
  have j2 : (0 : Int) ≤ (i : Int) := by omega
  have j3 : i < l.length := hil
  obtain ⟨b, off, hAe, hbb, hcc⟩ := hr3.at_ (by omega)
  obtain ⟨Aa, caa, Am, cam, c8, _, _⟩ := hcc i hil
  have qf := c8.c0
  rw [hff.out] at qf
  clear c8 hcc
  have HRV := Lib.hid hr3.vals
  subst hAe
  clear hr hr3 HSY HI C V
  go_wp2_with fail
  go_region_held3 (fun X : World => X.cell? ⟨w.heap.size, 0, none⟩ = some (.int .i64 f) ∧ X.cell? ⟨w.heap.size, 1, none⟩ = some (.int .i64 p) ∧ X.cell? ⟨w.heap.size, 2, none⟩ = some (.int .i64 z) ∧ X.cell? ⟨w.heap.size, 3, none⟩ = some (.int .i64 an) ∧ X.cell? ⟨w.heap.size, 4, none⟩ = some (.slice As aw.length ca) ∧ X.cell? ⟨w.heap.size, 5, none⟩ = some (.int .i64 mn) ∧ X.cell? ⟨w.heap.size, 6, none⟩ = some (.slice Ms mw.length cm) ∧ X.cell? ⟨w.heap.size, 7, none⟩ = some (.bool s) ∧ X.cell? ⟨b, off + i * 8, none⟩ = some (.int .i64 ff))
    (refine ⟨?_, ?_, ?_, ?_, ?_, ?_, ?_, ?_, ?_⟩ <;> first | assumption | exact (World.cell?_alloc_lt _ _ ⟨_, _, _⟩ (by first | omega | (simp; omega) | simp)).trans (by assumption) | exact (World.cell?_alloc_lt _ _ ⟨_, _, _⟩ (by first | omega | (simp; omega) | simp)).trans ((World.cell?_alloc_lt _ _ ⟨_, _, _⟩ (by first | omega | (simp; omega) | simp)).trans (by assumption)) | (simp [go_sem]; done))
    ((go_at_call 46; refine (G.out _).mono ?_; rintro e w4 ⟨rfl, hb_w4⟩; have hs4 := hb_w4.size; (try simp only [World.size_alloc, World.size_drew, World.heap_drewN] at hs4); have mw40 : w4.cell? ⟨w.heap.size, 0, none⟩ = some (.int .i64 f) := (hb_w4.cell (p := ⟨w.heap.size, 0, none⟩) (by first | omega | (simp; omega) | simp)).trans (by first | assumption | (simp [go_sem]; done) | exact (World.cell?_alloc_lt _ _ ⟨_, _, _⟩ (by first | omega | (simp; omega) | simp)).trans (by assumption) | exact (World.cell?_alloc_lt _ _ ⟨_, _, _⟩ (by first | omega | (simp; omega) | simp)).trans ((World.cell?_alloc_lt _ _ ⟨_, _, _⟩ (by first | omega | (simp; omega) | simp)).trans (by assumption))); have mw41 : w4.cell? ⟨w.heap.size, 1, none⟩ = some (.int .i64 p) := (hb_w4.cell (p := ⟨w.heap.size, 1, none⟩) (by first | omega | (simp; omega) | simp)).trans (by first | assumption | (simp [go_sem]; done) | exact (World.cell?_alloc_lt _ _ ⟨_, _, _⟩ (by first | omega | (simp; omega) | simp)).trans (by assumption) | exact (World.cell?_alloc_lt _ _ ⟨_, _, _⟩ (by first | omega | (simp; omega) | simp)).trans ((World.cell?_alloc_lt _ _ ⟨_, _, _⟩ (by first | omega | (simp; omega) | simp)).trans (by assumption))); have mw42 : w4.cell? ⟨w.heap.size, 2, none⟩ = some (.int .i64 z) := (hb_w4.cell (p := ⟨w.heap.size, 2, none⟩) (by first | omega | (simp; omega) | simp)).trans (by first | assumption | (simp [go_sem]; done) | exact (World.cell?_alloc_lt _ _ ⟨_, _, _⟩ (by first | omega | (simp; omega) | simp)).trans (by assumption) | exact (World.cell?_alloc_lt _ _ ⟨_, _, _⟩ (by first | omega | (simp; omega) | simp)).trans ((World.cell?_alloc_lt _ _ ⟨_, _, _⟩ (by first | omega | (simp; omega) | simp)).trans (by assumption))); have mw43 : w4.cell? ⟨w.heap.size, 3, none⟩ = some (.int .i64 an) := (hb_w4.cell (p := ⟨w.heap.size, 3, none⟩) (by first | omega | (simp; omega) | simp)).trans (by first | assumption | (simp [go_sem]; done) | exact (World.cell?_alloc_lt _ _ ⟨_, _, _⟩ (by first | omega | (simp; omega) | simp)).trans (by assumption) | exact (World.cell?_alloc_lt _ _ ⟨_, _, _⟩ (by first | omega | (simp; omega) | simp)).trans ((World.cell?_alloc_lt _ _ ⟨_, _, _⟩ (by first | omega | (simp; omega) | simp)).trans (by assumption))); have mw44 : w4.cell? ⟨w.heap.size, 4, none⟩ = some (.slice As aw.length ca) := (hb_w4.cell (p := ⟨w.heap.size, 4, none⟩) (by first | omega | (simp; omega) | simp)).trans (by first | assumption | (simp [go_sem]; done) | exact (World.cell?_alloc_lt _ _ ⟨_, _, _⟩ (by first | omega | (simp; omega) | simp)).trans (by assumption) | exact (World.cell?_alloc_lt _ _ ⟨_, _, _⟩ (by first | omega | (simp; omega) | simp)).trans ((World.cell?_alloc_lt _ _ ⟨_, _, _⟩ (by first | omega | (simp; omega) | simp)).trans (by assumption))); have mw45 : w4.cell? ⟨w.heap.size, 5, none⟩ = some (.int .i64 mn) := (hb_w4.cell (p := ⟨w.heap.size, 5, none⟩) (by first | omega | (simp; omega) | simp)).trans (by first | assumption | (simp [go_sem]; done) | exact (World.cell?_alloc_lt _ _ ⟨_, _, _⟩ (by first | omega | (simp; omega) | simp)).trans (by assumption) | exact (World.cell?_alloc_lt _ _ ⟨_, _, _⟩ (by first | omega | (simp; omega) | simp)).trans ((World.cell?_alloc_lt _ _ ⟨_, _, _⟩ (by first | omega | (simp; omega) | simp)).trans (by assumption))); have mw46 : w4.cell? ⟨w.heap.size, 6, none⟩ = some (.slice Ms mw.length cm) := (hb_w4.cell (p := ⟨w.heap.size, 6, none⟩) (by first | omega | (simp; omega) | simp)).trans (by first | assumption | (simp [go_sem]; done) | exact (World.cell?_alloc_lt _ _ ⟨_, _, _⟩ (by first | omega | (simp; omega) | simp)).trans (by assumption) | exact (World.cell?_alloc_lt _ _ ⟨_, _, _⟩ (by first | omega | (simp; omega) | simp)).trans ((World.cell?_alloc_lt _ _ ⟨_, _, _⟩ (by first | omega | (simp; omega) | simp)).trans (by assumption))); have mw47 : w4.cell? ⟨w.heap.size, 7, none⟩ = some (.bool s) := (hb_w4.cell (p := ⟨w.heap.size, 7, none⟩) (by first | omega | (simp; omega) | simp)).trans (by first | assumption | (simp [go_sem]; done) | exact (World.cell?_alloc_lt _ _ ⟨_, _, _⟩ (by first | omega | (simp; omega) | simp)).trans (by assumption) | exact (World.cell?_alloc_lt _ _ ⟨_, _, _⟩ (by first | omega | (simp; omega) | simp)).trans ((World.cell?_alloc_lt _ _ ⟨_, _, _⟩ (by first | omega | (simp; omega) | simp)).trans (by assumption))); have mw48 : w4.cell? ⟨b, off + i * 8, none⟩ = some (.int .i64 ff) := (hb_w4.cell (p := ⟨b, off + i * 8, none⟩) (by first | omega | (simp; omega) | simp)).trans (by first | assumption | (simp [go_sem]; done) | exact (World.cell?_alloc_lt _ _ ⟨_, _, _⟩ (by first | omega | (simp; omega) | simp)).trans (by assumption) | exact (World.cell?_alloc_lt _ _ ⟨_, _, _⟩ (by first | omega | (simp; omega) | simp)).trans ((World.cell?_alloc_lt _ _ ⟨_, _, _⟩ (by first | omega | (simp; omega) | simp)).trans (by assumption)))))
  all_goals
    have b34 : Below w3.heap.size w3 w4 := (by repeat (first | exact Below.refl _ _ | assumption | (refine below_drewN ?_ _) | (refine Below.drew ?_) | (refine Below.alloc ?_ (by first | omega | (simp; omega) | simp) _) | (refine Below.setCell ?_ (by first | omega | (simp; omega) | simp) _) | (refine below_trans ?_ (by assumption) (by first | omega | (simp; omega) | simp))))
    have b4 : Below w.heap.size w w4 := b3.trans (b34.mono (by first | omega | (simp; omega) | simp))
    obtain ⟨vs, v1, v2, v3⟩ := HRV.out
    have v2 := v2.later b34
    have v3 := v3.later b34
    have hAX := hA.later b4
    have hMX := hM.later b4
    have hsX : w.heap.size < w4.heap.size := by omega
    have HX := Lib.hid fun (g : Nat) (hg : w4.heap.size = g) (t : TypeId) => scopy1_any (W := w4) (w := w4) (n := l.length) (c := cap) (t := t) hg HW.out hok256 rfl v1 v2 v3
    clear v1 v2 v3 HRV
    go_wp2_with fail
    go_at_call 57
    refine (HX.out _ rfl _).mono ?_
    rintro e w5 ⟨A5, c5, us, rfl, h4, h5, hb_w5⟩
    have hs5 := hb_w5.size
    (try simp only [World.size_alloc] at hs5)
    go_wp2
    go_ret2
    exact ⟨A5, c5, us, rfl, h4, h5.mono (by first | omega | (simp; omega) | simp), (by repeat (first | exact Below.refl _ _ | assumption | (refine below_drewN ?_ _) | (refine Below.drew ?_) | (refine Below.alloc ?_ (by first | omega | (simp; omega) | simp) _) | (refine Below.setCell ?_ (by first | omega | (simp; omega) | simp) _) | (refine below_trans ?_ (by assumption) (by first | omega | (simp; omega) | simp))))⟩
end
end Go.Proofs.Ythphefoohkofbaa

/- Add of spans, where it is refused. -/
namespace Go.Proofs.Ythphefoohkofbaa
open Go.RowKit
set_option linter.unusedVariables false
set_option linter.unusedSimpArgs false

section
variable {w : World} {A As Ms : Option Addr} {l : List Sd} (cap ca cm : Nat)
set_option maxHeartbeats 8000000 in
theorem sadd_fullm (hr : SRow w w.heap.size A l) (hcl : l.length ≤ cap) (hnil : A = none → cap = 0) (d : Sd) (hA : Row w w.heap.size As d.aw) (hM : Row w w.heap.size Ms d.mw) (h : OkL l) (h1 : Ok1 d) (i : Nat) (hI : IdxE l (hitsS d) (i : Nat)) (hc : ¬ (nth l i).f < d.f + d.p) (h256 : l.length = 256) :
    Calls Try.prog 26 #[.slice A l.length cap, spv d As ca Ms cm] w fun e w' => FreshL5 w l 6 e w' := by
  unfold FreshL5
  have hl : l.length ≤ 17592186044416 := by have := h.1; omega
  have C := Lib.hid fun (w : World) hr => scheck_any (w := w) (A := A) (l := l) cap hr hl 0 (.inl ⟨h, rfl⟩)
  have V := Lib.hid fun (w : World) (g : Nat) (hg : w.heap.size = g) hA hM (t : TypeId) => scheck1_any (w := w) (d := d) (A := As) (M := Ms) ca cm hg hA hM 0 (.inl ⟨h1, rfl⟩) t
  have HI := Lib.hid hI
  have HW := Lib.hid h.words
  have HO := Lib.hid h
  have hok256 := h.1
  have HSY := Lib.hid fun (w : World) B hB => says_add1 (w := w) (l := l) d B HO.out hB
  have hsl := h1.sized.slots
  have hpl := h1.placed
  unfold Placed at hpl
  have G := Lib.hid fun (w : World) => sbehind_any (w := w) d As ca Ms cm (by omega) (by omega)
  have hw1 : Hid (d.aw.length = 1 ∧ d.mw.length = 1) := Lib.hid ⟨h1.aw, h1.mw⟩
  have hil := hI.lt
  have g1 : (l.length == 256) = true := by simp; omega
  obtain ⟨ff, hff⟩ : ∃ ff, Hid ((nth l i).f = ff) := ⟨_, rfl⟩
  rw [hff.out] at hc
  have g2 : decide (ff < d.f + d.p) = false := decide_eq_false hc
  have HD : Hid (∀ d' : Sd, d' = d → hitsS d = hitsS d') := Lib.hid (fun d' e => by rw [e])
  clear h h1 hI hc h256
  obtain ⟨f, p, z, an, aw, mn, mw, s⟩ := d
  unfold spv at G ⊢
  simp only at *
  go_enter Try.func26, Try.ntmps26
  go_wp2_with fail
  go_at_call 19
  refine (C.out _ (hr.later (by repeat (first | exact Below.refl _ _ | assumption | (refine below_drewN ?_ _) | (refine Below.drew ?_) | (refine Below.alloc ?_ (by first | omega | (simp; omega) | simp) _) | (refine Below.setCell ?_ (by first | omega | (simp; omega) | simp) _) | (refine below_trans ?_ (by assumption) (by first | omega | (simp; omega) | simp)))))).mono ?_
  rintro e w1 ⟨rfl, hb_w1⟩
  obtain ⟨hc_w1, hf_w1⟩ := bcell hb_w1; have hz_w1_w_0 : w.heap.size < w1.heap.size := (by have hzz := hb_w1.size; (try simp only [World.size_alloc, World.size_setCell, World.size_drew, World.heap_drewN] at hzz); omega); have hs_w1 := hb_w1.size; (try simp only [World.size_alloc, World.size_setCell, World.size_drew, World.heap_drewN] at hs_w1)
  have b1 : Below w.heap.size w w1 := (by repeat (first | exact Below.refl _ _ | assumption | (refine below_drewN ?_ _) | (refine Below.drew ?_) | (refine Below.alloc ?_ (by first | omega | (simp; omega) | simp) _) | (refine Below.setCell ?_ (by first | omega | (simp; omega) | simp) _) | (refine below_trans ?_ (by assumption) (by first | omega | (simp; omega) | simp))))
  have qw10 : w1.cell? ⟨w.heap.size, 0, none⟩ = some (.int .i64 f) := (hc_w1 _ _ (by first | omega | (simp; omega) | simp)).trans (by simp [go_sem])
  have qw11 : w1.cell? ⟨w.heap.size, 1, none⟩ = some (.int .i64 p) := (hc_w1 _ _ (by first | omega | (simp; omega) | simp)).trans (by simp [go_sem])
  have qw12 : w1.cell? ⟨w.heap.size, 2, none⟩ = some (.int .i64 z) := (hc_w1 _ _ (by first | omega | (simp; omega) | simp)).trans (by simp [go_sem])
  have qw13 : w1.cell? ⟨w.heap.size, 3, none⟩ = some (.int .i64 an) := (hc_w1 _ _ (by first | omega | (simp; omega) | simp)).trans (by simp [go_sem])
  have qw14 : w1.cell? ⟨w.heap.size, 4, none⟩ = some (.slice As aw.length ca) := (hc_w1 _ _ (by first | omega | (simp; omega) | simp)).trans (by simp [go_sem])
  have qw15 : w1.cell? ⟨w.heap.size, 5, none⟩ = some (.int .i64 mn) := (hc_w1 _ _ (by first | omega | (simp; omega) | simp)).trans (by simp [go_sem])
  have qw16 : w1.cell? ⟨w.heap.size, 6, none⟩ = some (.slice Ms mw.length cm) := (hc_w1 _ _ (by first | omega | (simp; omega) | simp)).trans (by simp [go_sem])
  have qw17 : w1.cell? ⟨w.heap.size, 7, none⟩ = some (.bool s) := (hc_w1 _ _ (by first | omega | (simp; omega) | simp)).trans (by simp [go_sem])
  clear hc_w1 hf_w1
  go_wp2_with fail
  go_at_call 19
  refine (V.out _ _ rfl (hA.later b1) (hM.later b1) _).mono ?_
  rintro e w2 ⟨rfl, hb_w2⟩
  obtain ⟨hc_w2, hf_w2⟩ := bcell hb_w2
  have hs2 := hb_w2.size
  (try simp only [World.size_alloc] at hs2)
  have b2 : Below w.heap.size w w2 := (by repeat (first | exact Below.refl _ _ | assumption | (refine below_drewN ?_ _) | (refine Below.drew ?_) | (refine Below.alloc ?_ (by first | omega | (simp; omega) | simp) _) | (refine Below.setCell ?_ (by first | omega | (simp; omega) | simp) _) | (refine below_trans ?_ (by assumption) (by first | omega | (simp; omega) | simp))))
  have qw20 : w2.cell? ⟨w.heap.size, 0, none⟩ = some (.int .i64 f) := (hc_w2 _ _ (by first | omega | (simp; omega) | simp)).trans ((World.cell?_alloc_lt _ _ ⟨_, _, _⟩ (by first | omega | (simp; omega) | simp)).trans qw10)
  have qw21 : w2.cell? ⟨w.heap.size, 1, none⟩ = some (.int .i64 p) := (hc_w2 _ _ (by first | omega | (simp; omega) | simp)).trans ((World.cell?_alloc_lt _ _ ⟨_, _, _⟩ (by first | omega | (simp; omega) | simp)).trans qw11)
  have qw22 : w2.cell? ⟨w.heap.size, 2, none⟩ = some (.int .i64 z) := (hc_w2 _ _ (by first | omega | (simp; omega) | simp)).trans ((World.cell?_alloc_lt _ _ ⟨_, _, _⟩ (by first | omega | (simp; omega) | simp)).trans qw12)
  have qw23 : w2.cell? ⟨w.heap.size, 3, none⟩ = some (.int .i64 an) := (hc_w2 _ _ (by first | omega | (simp; omega) | simp)).trans ((World.cell?_alloc_lt _ _ ⟨_, _, _⟩ (by first | omega | (simp; omega) | simp)).trans qw13)
  have qw24 : w2.cell? ⟨w.heap.size, 4, none⟩ = some (.slice As aw.length ca) := (hc_w2 _ _ (by first | omega | (simp; omega) | simp)).trans ((World.cell?_alloc_lt _ _ ⟨_, _, _⟩ (by first | omega | (simp; omega) | simp)).trans qw14)
  have qw25 : w2.cell? ⟨w.heap.size, 5, none⟩ = some (.int .i64 mn) := (hc_w2 _ _ (by first | omega | (simp; omega) | simp)).trans ((World.cell?_alloc_lt _ _ ⟨_, _, _⟩ (by first | omega | (simp; omega) | simp)).trans qw15)
  have qw26 : w2.cell? ⟨w.heap.size, 6, none⟩ = some (.slice Ms mw.length cm) := (hc_w2 _ _ (by first | omega | (simp; omega) | simp)).trans ((World.cell?_alloc_lt _ _ ⟨_, _, _⟩ (by first | omega | (simp; omega) | simp)).trans qw16)
  have qw27 : w2.cell? ⟨w.heap.size, 7, none⟩ = some (.bool s) := (hc_w2 _ _ (by first | omega | (simp; omega) | simp)).trans ((World.cell?_alloc_lt _ _ ⟨_, _, _⟩ (by first | omega | (simp; omega) | simp)).trans qw17)
  clear qw10 qw11 qw12 qw13 qw14 qw15 qw16 qw17 hc_w2 hf_w2
  go_wp2_with fail
  go_at_call 47
  refine (sindex_any cap 56 _ (hitsS ⟨f, p, z, an, aw, mn, mw, s⟩) eg_add1 (hr.later b2) hl (HSY.out _ _ qw20) (i : Nat) HI.out).mono ?_
  rintro e w3 ⟨rfl, hb_w3⟩
  obtain ⟨hc_w3, hf_w3⟩ := bcell hb_w3
  have hs3 := hb_w3.size
  have b3 : Below w.heap.size w w3 := (by repeat (first | exact Below.refl _ _ | assumption | (refine below_drewN ?_ _) | (refine Below.drew ?_) | (refine Below.alloc ?_ (by first | omega | (simp; omega) | simp) _) | (refine Below.setCell ?_ (by first | omega | (simp; omega) | simp) _) | (refine below_trans ?_ (by assumption) (by first | omega | (simp; omega) | simp))))
  have hlt3 : w.heap.size < w3.heap.size := by omega
  have qw30 : w3.cell? ⟨w.heap.size, 0, none⟩ = some (.int .i64 f) := (hc_w3 _ _ (by first | omega | (simp; omega) | simp)).trans (qw20)
  have qw31 : w3.cell? ⟨w.heap.size, 1, none⟩ = some (.int .i64 p) := (hc_w3 _ _ (by first | omega | (simp; omega) | simp)).trans (qw21)
  have qw32 : w3.cell? ⟨w.heap.size, 2, none⟩ = some (.int .i64 z) := (hc_w3 _ _ (by first | omega | (simp; omega) | simp)).trans (qw22)
  have qw33 : w3.cell? ⟨w.heap.size, 3, none⟩ = some (.int .i64 an) := (hc_w3 _ _ (by first | omega | (simp; omega) | simp)).trans (qw23)
  have qw34 : w3.cell? ⟨w.heap.size, 4, none⟩ = some (.slice As aw.length ca) := (hc_w3 _ _ (by first | omega | (simp; omega) | simp)).trans (qw24)
  have qw35 : w3.cell? ⟨w.heap.size, 5, none⟩ = some (.int .i64 mn) := (hc_w3 _ _ (by first | omega | (simp; omega) | simp)).trans (qw25)
  have qw36 : w3.cell? ⟨w.heap.size, 6, none⟩ = some (.slice Ms mw.length cm) := (hc_w3 _ _ (by first | omega | (simp; omega) | simp)).trans (qw26)
  have qw37 : w3.cell? ⟨w.heap.size, 7, none⟩ = some (.bool s) := (hc_w3 _ _ (by first | omega | (simp; omega) | simp)).trans (qw27)
  clear qw20 qw21 qw22 qw23 qw24 qw25 qw26 qw27 hc_w3 hf_w3
  have hr3 := hr.later b3
  have j0 : decide ((i : Int) < 0) = false := decide_eq_false (by omega)
  have j1 : (i : Int) < (l.length : Int) := by omega
  have j2 : (0 : Int) ≤ (i : Int) := by omega
  have j3 : i < l.length := hil
  obtain ⟨b, off, hAe, hbb, hcc⟩ := hr3.at_ (by omega)
  obtain ⟨Aa, caa, Am, cam, c8, _, _⟩ := hcc i hil
  have qf := c8.c0
  rw [hff.out] at qf
  clear c8 hcc
  have HRV := Lib.hid hr3.vals
  subst hAe
  clear hr hr3 HSY HI C V
  go_wp2_with fail
  go_region_held3 (fun X : World => X.cell? ⟨w.heap.size, 0, none⟩ = some (.int .i64 f) ∧ X.cell? ⟨w.heap.size, 1, none⟩ = some (.int .i64 p) ∧ X.cell? ⟨w.heap.size, 2, none⟩ = some (.int .i64 z) ∧ X.cell? ⟨w.heap.size, 3, none⟩ = some (.int .i64 an) ∧ X.cell? ⟨w.heap.size, 4, none⟩ = some (.slice As aw.length ca) ∧ X.cell? ⟨w.heap.size, 5, none⟩ = some (.int .i64 mn) ∧ X.cell? ⟨w.heap.size, 6, none⟩ = some (.slice Ms mw.length cm) ∧ X.cell? ⟨w.heap.size, 7, none⟩ = some (.bool s) ∧ X.cell? ⟨b, off + i * 8, none⟩ = some (.int .i64 ff))
    (refine ⟨?_, ?_, ?_, ?_, ?_, ?_, ?_, ?_, ?_⟩ <;> first | assumption | exact (World.cell?_alloc_lt _ _ ⟨_, _, _⟩ (by first | omega | (simp; omega) | simp)).trans (by assumption) | exact (World.cell?_alloc_lt _ _ ⟨_, _, _⟩ (by first | omega | (simp; omega) | simp)).trans ((World.cell?_alloc_lt _ _ ⟨_, _, _⟩ (by first | omega | (simp; omega) | simp)).trans (by assumption)) | (simp [go_sem]; done))
    ((go_at_call 46; refine (G.out _).mono ?_; rintro e w4 ⟨rfl, hb_w4⟩; have hs4 := hb_w4.size; (try simp only [World.size_alloc, World.size_drew, World.heap_drewN] at hs4); have mw40 : w4.cell? ⟨w.heap.size, 0, none⟩ = some (.int .i64 f) := (hb_w4.cell (p := ⟨w.heap.size, 0, none⟩) (by first | omega | (simp; omega) | simp)).trans (by first | assumption | (simp [go_sem]; done) | exact (World.cell?_alloc_lt _ _ ⟨_, _, _⟩ (by first | omega | (simp; omega) | simp)).trans (by assumption) | exact (World.cell?_alloc_lt _ _ ⟨_, _, _⟩ (by first | omega | (simp; omega) | simp)).trans ((World.cell?_alloc_lt _ _ ⟨_, _, _⟩ (by first | omega | (simp; omega) | simp)).trans (by assumption))); have mw41 : w4.cell? ⟨w.heap.size, 1, none⟩ = some (.int .i64 p) := (hb_w4.cell (p := ⟨w.heap.size, 1, none⟩) (by first | omega | (simp; omega) | simp)).trans (by first | assumption | (simp [go_sem]; done) | exact (World.cell?_alloc_lt _ _ ⟨_, _, _⟩ (by first | omega | (simp; omega) | simp)).trans (by assumption) | exact (World.cell?_alloc_lt _ _ ⟨_, _, _⟩ (by first | omega | (simp; omega) | simp)).trans ((World.cell?_alloc_lt _ _ ⟨_, _, _⟩ (by first | omega | (simp; omega) | simp)).trans (by assumption))); have mw42 : w4.cell? ⟨w.heap.size, 2, none⟩ = some (.int .i64 z) := (hb_w4.cell (p := ⟨w.heap.size, 2, none⟩) (by first | omega | (simp; omega) | simp)).trans (by first | assumption | (simp [go_sem]; done) | exact (World.cell?_alloc_lt _ _ ⟨_, _, _⟩ (by first | omega | (simp; omega) | simp)).trans (by assumption) | exact (World.cell?_alloc_lt _ _ ⟨_, _, _⟩ (by first | omega | (simp; omega) | simp)).trans ((World.cell?_alloc_lt _ _ ⟨_, _, _⟩ (by first | omega | (simp; omega) | simp)).trans (by assumption))); have mw43 : w4.cell? ⟨w.heap.size, 3, none⟩ = some (.int .i64 an) := (hb_w4.cell (p := ⟨w.heap.size, 3, none⟩) (by first | omega | (simp; omega) | simp)).trans (by first | assumption | (simp [go_sem]; done) | exact (World.cell?_alloc_lt _ _ ⟨_, _, _⟩ (by first | omega | (simp; omega) | simp)).trans (by assumption) | exact (World.cell?_alloc_lt _ _ ⟨_, _, _⟩ (by first | omega | (simp; omega) | simp)).trans ((World.cell?_alloc_lt _ _ ⟨_, _, _⟩ (by first | omega | (simp; omega) | simp)).trans (by assumption))); have mw44 : w4.cell? ⟨w.heap.size, 4, none⟩ = some (.slice As aw.length ca) := (hb_w4.cell (p := ⟨w.heap.size, 4, none⟩) (by first | omega | (simp; omega) | simp)).trans (by first | assumption | (simp [go_sem]; done) | exact (World.cell?_alloc_lt _ _ ⟨_, _, _⟩ (by first | omega | (simp; omega) | simp)).trans (by assumption) | exact (World.cell?_alloc_lt _ _ ⟨_, _, _⟩ (by first | omega | (simp; omega) | simp)).trans ((World.cell?_alloc_lt _ _ ⟨_, _, _⟩ (by first | omega | (simp; omega) | simp)).trans (by assumption))); have mw45 : w4.cell? ⟨w.heap.size, 5, none⟩ = some (.int .i64 mn) := (hb_w4.cell (p := ⟨w.heap.size, 5, none⟩) (by first | omega | (simp; omega) | simp)).trans (by first | assumption | (simp [go_sem]; done) | exact (World.cell?_alloc_lt _ _ ⟨_, _, _⟩ (by first | omega | (simp; omega) | simp)).trans (by assumption) | exact (World.cell?_alloc_lt _ _ ⟨_, _, _⟩ (by first | omega | (simp; omega) | simp)).trans ((World.cell?_alloc_lt _ _ ⟨_, _, _⟩ (by first | omega | (simp; omega) | simp)).trans (by assumption))); have mw46 : w4.cell? ⟨w.heap.size, 6, none⟩ = some (.slice Ms mw.length cm) := (hb_w4.cell (p := ⟨w.heap.size, 6, none⟩) (by first | omega | (simp; omega) | simp)).trans (by first | assumption | (simp [go_sem]; done) | exact (World.cell?_alloc_lt _ _ ⟨_, _, _⟩ (by first | omega | (simp; omega) | simp)).trans (by assumption) | exact (World.cell?_alloc_lt _ _ ⟨_, _, _⟩ (by first | omega | (simp; omega) | simp)).trans ((World.cell?_alloc_lt _ _ ⟨_, _, _⟩ (by first | omega | (simp; omega) | simp)).trans (by assumption))); have mw47 : w4.cell? ⟨w.heap.size, 7, none⟩ = some (.bool s) := (hb_w4.cell (p := ⟨w.heap.size, 7, none⟩) (by first | omega | (simp; omega) | simp)).trans (by first | assumption | (simp [go_sem]; done) | exact (World.cell?_alloc_lt _ _ ⟨_, _, _⟩ (by first | omega | (simp; omega) | simp)).trans (by assumption) | exact (World.cell?_alloc_lt _ _ ⟨_, _, _⟩ (by first | omega | (simp; omega) | simp)).trans ((World.cell?_alloc_lt _ _ ⟨_, _, _⟩ (by first | omega | (simp; omega) | simp)).trans (by assumption))); have mw48 : w4.cell? ⟨b, off + i * 8, none⟩ = some (.int .i64 ff) := (hb_w4.cell (p := ⟨b, off + i * 8, none⟩) (by first | omega | (simp; omega) | simp)).trans (by first | assumption | (simp [go_sem]; done) | exact (World.cell?_alloc_lt _ _ ⟨_, _, _⟩ (by first | omega | (simp; omega) | simp)).trans (by assumption) | exact (World.cell?_alloc_lt _ _ ⟨_, _, _⟩ (by first | omega | (simp; omega) | simp)).trans ((World.cell?_alloc_lt _ _ ⟨_, _, _⟩ (by first | omega | (simp; omega) | simp)).trans (by assumption)))))
  all_goals
    have b34 : Below w3.heap.size w3 w4 := (by repeat (first | exact Below.refl _ _ | assumption | (refine below_drewN ?_ _) | (refine Below.drew ?_) | (refine Below.alloc ?_ (by first | omega | (simp; omega) | simp) _) | (refine Below.setCell ?_ (by first | omega | (simp; omega) | simp) _) | (refine below_trans ?_ (by assumption) (by first | omega | (simp; omega) | simp))))
    have b4 : Below w.heap.size w w4 := b3.trans (b34.mono (by first | omega | (simp; omega) | simp))
    obtain ⟨vs, v1, v2, v3⟩ := HRV.out
    have v2 := v2.later b34
    have v3 := v3.later b34
    have hAX := hA.later b4
    have hMX := hM.later b4
    have hsX : w.heap.size < w4.heap.size := by omega
    have HX := Lib.hid fun (g : Nat) (hg : w4.heap.size = g) (t : TypeId) => scopy1_any (W := w4) (w := w4) (n := l.length) (c := cap) (t := t) hg HW.out hok256 rfl v1 v2 v3
    clear v1 v2 v3 HRV
    go_wp2_with fail
    go_at_call 57
    refine (HX.out _ rfl _).mono ?_
    rintro e w5 ⟨A5, c5, us, rfl, h4, h5, hb_w5⟩
    have hs5 := hb_w5.size
    (try simp only [World.size_alloc] at hs5)
    go_wp2
    go_ret2
    exact ⟨A5, c5, us, rfl, h4, h5.mono (by first | omega | (simp; omega) | simp), (by repeat (first | exact Below.refl _ _ | assumption | (refine below_drewN ?_ _) | (refine Below.drew ?_) | (refine Below.alloc ?_ (by first | omega | (simp; omega) | simp) _) | (refine Below.setCell ?_ (by first | omega | (simp; omega) | simp) _) | (refine below_trans ?_ (by assumption) (by first | omega | (simp; omega) | simp))))⟩
end
end Go.Proofs.Ythphefoohkofbaa

/- Add of spans, where it is refused. -/
namespace Go.Proofs.Ythphefoohkofbaa
open Go.RowKit
set_option linter.unusedVariables false
set_option linter.unusedSimpArgs false

section
variable {w : World} {A As Ms : Option Addr} {l : List Sd} (cap ca cm : Nat)
set_option maxHeartbeats 8000000 in
theorem sadd_fulle (hr : SRow w w.heap.size A l) (hcl : l.length ≤ cap) (hnil : A = none → cap = 0) (d : Sd) (hA : Row w w.heap.size As d.aw) (hM : Row w w.heap.size Ms d.mw) (h : OkL l) (h1 : Ok1 d) (hI : IdxE l (hitsS d) (-1)) (h256 : l.length = 256) :
    Calls Try.prog 26 #[.slice A l.length cap, spv d As ca Ms cm] w fun e w' => FreshL5 w l 6 e w' := by
  unfold FreshL5
  have hl : l.length ≤ 17592186044416 := by have := h.1; omega
  have C := Lib.hid fun (w : World) hr => scheck_any (w := w) (A := A) (l := l) cap hr hl 0 (.inl ⟨h, rfl⟩)
  have V := Lib.hid fun (w : World) (g : Nat) (hg : w.heap.size = g) hA hM (t : TypeId) => scheck1_any (w := w) (d := d) (A := As) (M := Ms) ca cm hg hA hM 0 (.inl ⟨h1, rfl⟩) t
  have HI := Lib.hid hI
  have HW := Lib.hid h.words
  have HO := Lib.hid h
  have hok256 := h.1
  have HSY := Lib.hid fun (w : World) B hB => says_add1 (w := w) (l := l) d B HO.out hB
  have hsl := h1.sized.slots
  have hpl := h1.placed
  unfold Placed at hpl
  have G := Lib.hid fun (w : World) => sbehind_any (w := w) d As ca Ms cm (by omega) (by omega)
  have hw1 : Hid (d.aw.length = 1 ∧ d.mw.length = 1) := Lib.hid ⟨h1.aw, h1.mw⟩
  have g1 : (l.length == 256) = true := by simp; omega
  have HD : Hid (∀ d' : Sd, d' = d → hitsS d = hitsS d') := Lib.hid (fun d' e => by rw [e])
  clear h h1 hI h256
  obtain ⟨f, p, z, an, aw, mn, mw, s⟩ := d
  unfold spv at G ⊢
  simp only at *
  go_enter Try.func26, Try.ntmps26
  go_wp2_with fail
  go_at_call 19
  refine (C.out _ (hr.later (by repeat (first | exact Below.refl _ _ | assumption | (refine below_drewN ?_ _) | (refine Below.drew ?_) | (refine Below.alloc ?_ (by first | omega | (simp; omega) | simp) _) | (refine Below.setCell ?_ (by first | omega | (simp; omega) | simp) _) | (refine below_trans ?_ (by assumption) (by first | omega | (simp; omega) | simp)))))).mono ?_
  rintro e w1 ⟨rfl, hb_w1⟩
  obtain ⟨hc_w1, hf_w1⟩ := bcell hb_w1; have hz_w1_w_0 : w.heap.size < w1.heap.size := (by have hzz := hb_w1.size; (try simp only [World.size_alloc, World.size_setCell, World.size_drew, World.heap_drewN] at hzz); omega); have hs_w1 := hb_w1.size; (try simp only [World.size_alloc, World.size_setCell, World.size_drew, World.heap_drewN] at hs_w1)
  have b1 : Below w.heap.size w w1 := (by repeat (first | exact Below.refl _ _ | assumption | (refine below_drewN ?_ _) | (refine Below.drew ?_) | (refine Below.alloc ?_ (by first | omega | (simp; omega) | simp) _) | (refine Below.setCell ?_ (by first | omega | (simp; omega) | simp) _) | (refine below_trans ?_ (by assumption) (by first | omega | (simp; omega) | simp))))
  have qw10 : w1.cell? ⟨w.heap.size, 0, none⟩ = some (.int .i64 f) := (hc_w1 _ _ (by first | omega | (simp; omega) | simp)).trans (by simp [go_sem])
  have qw11 : w1.cell? ⟨w.heap.size, 1, none⟩ = some (.int .i64 p) := (hc_w1 _ _ (by first | omega | (simp; omega) | simp)).trans (by simp [go_sem])
  have qw12 : w1.cell? ⟨w.heap.size, 2, none⟩ = some (.int .i64 z) := (hc_w1 _ _ (by first | omega | (simp; omega) | simp)).trans (by simp [go_sem])
  have qw13 : w1.cell? ⟨w.heap.size, 3, none⟩ = some (.int .i64 an) := (hc_w1 _ _ (by first | omega | (simp; omega) | simp)).trans (by simp [go_sem])
  have qw14 : w1.cell? ⟨w.heap.size, 4, none⟩ = some (.slice As aw.length ca) := (hc_w1 _ _ (by first | omega | (simp; omega) | simp)).trans (by simp [go_sem])
  have qw15 : w1.cell? ⟨w.heap.size, 5, none⟩ = some (.int .i64 mn) := (hc_w1 _ _ (by first | omega | (simp; omega) | simp)).trans (by simp [go_sem])
  have qw16 : w1.cell? ⟨w.heap.size, 6, none⟩ = some (.slice Ms mw.length cm) := (hc_w1 _ _ (by first | omega | (simp; omega) | simp)).trans (by simp [go_sem])
  have qw17 : w1.cell? ⟨w.heap.size, 7, none⟩ = some (.bool s) := (hc_w1 _ _ (by first | omega | (simp; omega) | simp)).trans (by simp [go_sem])
  clear hc_w1 hf_w1
  go_wp2_with fail
  go_at_call 19
  refine (V.out _ _ rfl (hA.later b1) (hM.later b1) _).mono ?_
  rintro e w2 ⟨rfl, hb_w2⟩
  obtain ⟨hc_w2, hf_w2⟩ := bcell hb_w2
  have hs2 := hb_w2.size
  (try simp only [World.size_alloc] at hs2)
  have b2 : Below w.heap.size w w2 := (by repeat (first | exact Below.refl _ _ | assumption | (refine below_drewN ?_ _) | (refine Below.drew ?_) | (refine Below.alloc ?_ (by first | omega | (simp; omega) | simp) _) | (refine Below.setCell ?_ (by first | omega | (simp; omega) | simp) _) | (refine below_trans ?_ (by assumption) (by first | omega | (simp; omega) | simp))))
  have qw20 : w2.cell? ⟨w.heap.size, 0, none⟩ = some (.int .i64 f) := (hc_w2 _ _ (by first | omega | (simp; omega) | simp)).trans ((World.cell?_alloc_lt _ _ ⟨_, _, _⟩ (by first | omega | (simp; omega) | simp)).trans qw10)
  have qw21 : w2.cell? ⟨w.heap.size, 1, none⟩ = some (.int .i64 p) := (hc_w2 _ _ (by first | omega | (simp; omega) | simp)).trans ((World.cell?_alloc_lt _ _ ⟨_, _, _⟩ (by first | omega | (simp; omega) | simp)).trans qw11)
  have qw22 : w2.cell? ⟨w.heap.size, 2, none⟩ = some (.int .i64 z) := (hc_w2 _ _ (by first | omega | (simp; omega) | simp)).trans ((World.cell?_alloc_lt _ _ ⟨_, _, _⟩ (by first | omega | (simp; omega) | simp)).trans qw12)
  have qw23 : w2.cell? ⟨w.heap.size, 3, none⟩ = some (.int .i64 an) := (hc_w2 _ _ (by first | omega | (simp; omega) | simp)).trans ((World.cell?_alloc_lt _ _ ⟨_, _, _⟩ (by first | omega | (simp; omega) | simp)).trans qw13)
  have qw24 : w2.cell? ⟨w.heap.size, 4, none⟩ = some (.slice As aw.length ca) := (hc_w2 _ _ (by first | omega | (simp; omega) | simp)).trans ((World.cell?_alloc_lt _ _ ⟨_, _, _⟩ (by first | omega | (simp; omega) | simp)).trans qw14)
  have qw25 : w2.cell? ⟨w.heap.size, 5, none⟩ = some (.int .i64 mn) := (hc_w2 _ _ (by first | omega | (simp; omega) | simp)).trans ((World.cell?_alloc_lt _ _ ⟨_, _, _⟩ (by first | omega | (simp; omega) | simp)).trans qw15)
  have qw26 : w2.cell? ⟨w.heap.size, 6, none⟩ = some (.slice Ms mw.length cm) := (hc_w2 _ _ (by first | omega | (simp; omega) | simp)).trans ((World.cell?_alloc_lt _ _ ⟨_, _, _⟩ (by first | omega | (simp; omega) | simp)).trans qw16)
  have qw27 : w2.cell? ⟨w.heap.size, 7, none⟩ = some (.bool s) := (hc_w2 _ _ (by first | omega | (simp; omega) | simp)).trans ((World.cell?_alloc_lt _ _ ⟨_, _, _⟩ (by first | omega | (simp; omega) | simp)).trans qw17)
  clear qw10 qw11 qw12 qw13 qw14 qw15 qw16 qw17 hc_w2 hf_w2
  go_wp2_with fail
  go_at_call 47
  refine (sindex_any cap 56 _ (hitsS ⟨f, p, z, an, aw, mn, mw, s⟩) eg_add1 (hr.later b2) hl (HSY.out _ _ qw20) (-1) HI.out).mono ?_
  rintro e w3 ⟨rfl, hb_w3⟩
  obtain ⟨hc_w3, hf_w3⟩ := bcell hb_w3
  have hs3 := hb_w3.size
  have b3 : Below w.heap.size w w3 := (by repeat (first | exact Below.refl _ _ | assumption | (refine below_drewN ?_ _) | (refine Below.drew ?_) | (refine Below.alloc ?_ (by first | omega | (simp; omega) | simp) _) | (refine Below.setCell ?_ (by first | omega | (simp; omega) | simp) _) | (refine below_trans ?_ (by assumption) (by first | omega | (simp; omega) | simp))))
  have hlt3 : w.heap.size < w3.heap.size := by omega
  have qw30 : w3.cell? ⟨w.heap.size, 0, none⟩ = some (.int .i64 f) := (hc_w3 _ _ (by first | omega | (simp; omega) | simp)).trans (qw20)
  have qw31 : w3.cell? ⟨w.heap.size, 1, none⟩ = some (.int .i64 p) := (hc_w3 _ _ (by first | omega | (simp; omega) | simp)).trans (qw21)
  have qw32 : w3.cell? ⟨w.heap.size, 2, none⟩ = some (.int .i64 z) := (hc_w3 _ _ (by first | omega | (simp; omega) | simp)).trans (qw22)
  have qw33 : w3.cell? ⟨w.heap.size, 3, none⟩ = some (.int .i64 an) := (hc_w3 _ _ (by first | omega | (simp; omega) | simp)).trans (qw23)
  have qw34 : w3.cell? ⟨w.heap.size, 4, none⟩ = some (.slice As aw.length ca) := (hc_w3 _ _ (by first | omega | (simp; omega) | simp)).trans (qw24)
  have qw35 : w3.cell? ⟨w.heap.size, 5, none⟩ = some (.int .i64 mn) := (hc_w3 _ _ (by first | omega | (simp; omega) | simp)).trans (qw25)
  have qw36 : w3.cell? ⟨w.heap.size, 6, none⟩ = some (.slice Ms mw.length cm) := (hc_w3 _ _ (by first | omega | (simp; omega) | simp)).trans (qw26)
  have qw37 : w3.cell? ⟨w.heap.size, 7, none⟩ = some (.bool s) := (hc_w3 _ _ (by first | omega | (simp; omega) | simp)).trans (qw27)
  clear qw20 qw21 qw22 qw23 qw24 qw25 qw26 qw27 hc_w3 hf_w3
  have hr3 := hr.later b3
  have G1 := Lib.hid g1
  clear g1
  have HRV := Lib.hid hr3.vals
  have j3 : ¬ l.length < l.length := by omega
  have j4 : decide ((l.length : Int) < (l.length : Int)) = false := by simp
  clear hr hr3 HSY HI C V
  go_wp2_with fail
  go_quiet (fail)
  have g1 := G1.out
  go_wp2_with fail
  all_goals
    generalize hWD : w3.drewN nq = w4 at *
    have b34 : Below w3.heap.size w3 w4 := by rw [← hWD]; exact below_drewN (Below.refl _ _) _
    have hszD : w4.heap.size = w3.heap.size := by rw [← hWD]; simp only [World.heap_drewN]
    have b4 : Below w.heap.size w w4 := b3.trans (b34.mono (by first | omega | (simp; omega) | simp))
    have hs4 := b34.size
    obtain ⟨vs, v1, v2, v3⟩ := HRV.out
    have v2 := v2.later b34
    have v3 := v3.later b34
    have hAX := hA.later b4
    have hMX := hM.later b4
    have hsX : w.heap.size < w4.heap.size := by omega
    have mw40 : w4.cell? ⟨w.heap.size, 0, none⟩ = some (.int .i64 f) := (b34.cell (p := ⟨w.heap.size, 0, none⟩) (by first | omega | (simp; omega) | simp)).trans qw30
    have mw41 : w4.cell? ⟨w.heap.size, 1, none⟩ = some (.int .i64 p) := (b34.cell (p := ⟨w.heap.size, 1, none⟩) (by first | omega | (simp; omega) | simp)).trans qw31
    have mw42 : w4.cell? ⟨w.heap.size, 2, none⟩ = some (.int .i64 z) := (b34.cell (p := ⟨w.heap.size, 2, none⟩) (by first | omega | (simp; omega) | simp)).trans qw32
    have mw43 : w4.cell? ⟨w.heap.size, 3, none⟩ = some (.int .i64 an) := (b34.cell (p := ⟨w.heap.size, 3, none⟩) (by first | omega | (simp; omega) | simp)).trans qw33
    have mw44 : w4.cell? ⟨w.heap.size, 4, none⟩ = some (.slice As aw.length ca) := (b34.cell (p := ⟨w.heap.size, 4, none⟩) (by first | omega | (simp; omega) | simp)).trans qw34
    have mw45 : w4.cell? ⟨w.heap.size, 5, none⟩ = some (.int .i64 mn) := (b34.cell (p := ⟨w.heap.size, 5, none⟩) (by first | omega | (simp; omega) | simp)).trans qw35
    have mw46 : w4.cell? ⟨w.heap.size, 6, none⟩ = some (.slice Ms mw.length cm) := (b34.cell (p := ⟨w.heap.size, 6, none⟩) (by first | omega | (simp; omega) | simp)).trans qw36
    have mw47 : w4.cell? ⟨w.heap.size, 7, none⟩ = some (.bool s) := (b34.cell (p := ⟨w.heap.size, 7, none⟩) (by first | omega | (simp; omega) | simp)).trans qw37
    clear qw30 qw31 qw32 qw33 qw34 qw35 qw36 qw37 hWD
    have HX := Lib.hid fun (g : Nat) (hg : w4.heap.size = g) (t : TypeId) => scopy1_any (W := w4) (w := w4) (n := l.length) (c := cap) (t := t) hg HW.out hok256 rfl v1 v2 v3
    clear v1 v2 v3 HRV
    go_wp2_with fail
    go_at_call 57
    refine (HX.out _ hszD _).mono ?_
    rintro e w5 ⟨A5, c5, us, rfl, h4, h5, hb_w5⟩
    have hs5 := hb_w5.size
    (try simp only [World.size_alloc] at hs5)
    go_wp2
    go_ret2
    exact ⟨A5, c5, us, rfl, h4, h5.mono (by first | omega | (simp; omega) | simp), (by repeat (first | exact Below.refl _ _ | assumption | (refine below_drewN ?_ _) | (refine Below.drew ?_) | (refine Below.alloc ?_ (by first | omega | (simp; omega) | simp) _) | (refine Below.setCell ?_ (by first | omega | (simp; omega) | simp) _) | (refine below_trans ?_ (by assumption) (by first | omega | (simp; omega) | simp))))⟩
end
end Go.Proofs.Ythphefoohkofbaa

/- Add of spans ahead of another. -/
namespace Go.Proofs.Ythphefoohkofbaa
open Go.RowKit
set_option linter.unusedVariables false
set_option linter.unusedSimpArgs false

section
variable {w : World} {A As Ms : Option Addr} {l : List Sd} (cap ca cm : Nat)
set_option maxHeartbeats 8000000 in
theorem sadd_putm (hr : SRow w w.heap.size A l) (hcl : l.length ≤ cap) (hnil : A = none → cap = 0) (d : Sd) (hA : Row w w.heap.size As d.aw) (hM : Row w w.heap.size Ms d.mw) (h : OkL l) (h1 : Ok1 d) (i : Nat) (hI : IdxE l (hitsS d) (i : Nat)) (hc : ¬ (nth l i).f < d.f + d.p) (h256 : l.length < 256) (r : List Sd) (hre : r = l.take i ++ [d] ++ l.drop i) :
    Calls Try.prog 26 #[.slice A l.length cap, spv d As ca Ms cm] w fun e w' => FreshL5 w r 0 e w' := by
  unfold FreshL5
  have hl : l.length ≤ 17592186044416 := by have := h.1; omega
  have C := Lib.hid fun (w : World) hr => scheck_any (w := w) (A := A) (l := l) cap hr hl 0 (.inl ⟨h, rfl⟩)
  have V := Lib.hid fun (w : World) (g : Nat) (hg : w.heap.size = g) hA hM (t : TypeId) => scheck1_any (w := w) (d := d) (A := As) (M := Ms) ca cm hg hA hM 0 (.inl ⟨h1, rfl⟩) t
  have HI := Lib.hid hI
  have HW := Lib.hid h.words
  have HO := Lib.hid h
  have hok256 := h.1
  have HSY := Lib.hid fun (w : World) B hB => says_add1 (w := w) (l := l) d B HO.out hB
  have hsl := h1.sized.slots
  have hpl := h1.placed
  unfold Placed at hpl
  have G := Lib.hid fun (w : World) => sbehind_any (w := w) d As ca Ms cm (by omega) (by omega)
  have hw1 : Hid (d.aw.length = 1 ∧ d.mw.length = 1) := Lib.hid ⟨h1.aw, h1.mw⟩
  have hil := hI.lt
  have g1 : (l.length == 256) = false := by simp; omega
  have hrl : r.length = l.length + 1 := by rw [hre]; simp only [List.length_append, List.length_take, List.length_drop, List.length_singleton]; omega
  obtain ⟨ff, hff⟩ : ∃ ff, Hid ((nth l i).f = ff) := ⟨_, rfl⟩
  rw [hff.out] at hc
  have g2 : decide (ff < d.f + d.p) = false := decide_eq_false hc
  have HD : Hid (∀ d' : Sd, d' = d → hitsS d = hitsS d') := Lib.hid (fun d' e => by rw [e])
  clear h h1 hI hc
  obtain ⟨f, p, z, an, aw, mn, mw, s⟩ := d
  unfold spv at G ⊢
  simp only at *
  go_enter Try.func26, Try.ntmps26
  go_wp2_with fail
  go_at_call 19
  refine (C.out _ (hr.later (by repeat (first | exact Below.refl _ _ | assumption | (refine below_drewN ?_ _) | (refine Below.drew ?_) | (refine Below.alloc ?_ (by first | omega | (simp; omega) | simp) _) | (refine Below.setCell ?_ (by first | omega | (simp; omega) | simp) _) | (refine below_trans ?_ (by assumption) (by first | omega | (simp; omega) | simp)))))).mono ?_
  rintro e w1 ⟨rfl, hb_w1⟩
  obtain ⟨hc_w1, hf_w1⟩ := bcell hb_w1; have hz_w1_w_0 : w.heap.size < w1.heap.size := (by have hzz := hb_w1.size; (try simp only [World.size_alloc, World.size_setCell, World.size_drew, World.heap_drewN] at hzz); omega); have hs_w1 := hb_w1.size; (try simp only [World.size_alloc, World.size_setCell, World.size_drew, World.heap_drewN] at hs_w1)
  have b1 : Below w.heap.size w w1 := (by repeat (first | exact Below.refl _ _ | assumption | (refine below_drewN ?_ _) | (refine Below.drew ?_) | (refine Below.alloc ?_ (by first | omega | (simp; omega) | simp) _) | (refine Below.setCell ?_ (by first | omega | (simp; omega) | simp) _) | (refine below_trans ?_ (by assumption) (by first | omega | (simp; omega) | simp))))
  have qw10 : w1.cell? ⟨w.heap.size, 0, none⟩ = some (.int .i64 f) := (hc_w1 _ _ (by first | omega | (simp; omega) | simp)).trans (by simp [go_sem])
  have qw11 : w1.cell? ⟨w.heap.size, 1, none⟩ = some (.int .i64 p) := (hc_w1 _ _ (by first | omega | (simp; omega) | simp)).trans (by simp [go_sem])
  have qw12 : w1.cell? ⟨w.heap.size, 2, none⟩ = some (.int .i64 z) := (hc_w1 _ _ (by first | omega | (simp; omega) | simp)).trans (by simp [go_sem])
  have qw13 : w1.cell? ⟨w.heap.size, 3, none⟩ = some (.int .i64 an) := (hc_w1 _ _ (by first | omega | (simp; omega) | simp)).trans (by simp [go_sem])
  have qw14 : w1.cell? ⟨w.heap.size, 4, none⟩ = some (.slice As aw.length ca) := (hc_w1 _ _ (by first | omega | (simp; omega) | simp)).trans (by simp [go_sem])
  have qw15 : w1.cell? ⟨w.heap.size, 5, none⟩ = some (.int .i64 mn) := (hc_w1 _ _ (by first | omega | (simp; omega) | simp)).trans (by simp [go_sem])
  have qw16 : w1.cell? ⟨w.heap.size, 6, none⟩ = some (.slice Ms mw.length cm) := (hc_w1 _ _ (by first | omega | (simp; omega) | simp)).trans (by simp [go_sem])
  have qw17 : w1.cell? ⟨w.heap.size, 7, none⟩ = some (.bool s) := (hc_w1 _ _ (by first | omega | (simp; omega) | simp)).trans (by simp [go_sem])
  clear hc_w1 hf_w1
  go_wp2_with fail
  go_at_call 19
  refine (V.out _ _ rfl (hA.later b1) (hM.later b1) _).mono ?_
  rintro e w2 ⟨rfl, hb_w2⟩
  obtain ⟨hc_w2, hf_w2⟩ := bcell hb_w2
  have hs2 := hb_w2.size
  (try simp only [World.size_alloc] at hs2)
  have b2 : Below w.heap.size w w2 := (by repeat (first | exact Below.refl _ _ | assumption | (refine below_drewN ?_ _) | (refine Below.drew ?_) | (refine Below.alloc ?_ (by first | omega | (simp; omega) | simp) _) | (refine Below.setCell ?_ (by first | omega | (simp; omega) | simp) _) | (refine below_trans ?_ (by assumption) (by first | omega | (simp; omega) | simp))))
  have qw20 : w2.cell? ⟨w.heap.size, 0, none⟩ = some (.int .i64 f) := (hc_w2 _ _ (by first | omega | (simp; omega) | simp)).trans ((World.cell?_alloc_lt _ _ ⟨_, _, _⟩ (by first | omega | (simp; omega) | simp)).trans qw10)
  have qw21 : w2.cell? ⟨w.heap.size, 1, none⟩ = some (.int .i64 p) := (hc_w2 _ _ (by first | omega | (simp; omega) | simp)).trans ((World.cell?_alloc_lt _ _ ⟨_, _, _⟩ (by first | omega | (simp; omega) | simp)).trans qw11)
  have qw22 : w2.cell? ⟨w.heap.size, 2, none⟩ = some (.int .i64 z) := (hc_w2 _ _ (by first | omega | (simp; omega) | simp)).trans ((World.cell?_alloc_lt _ _ ⟨_, _, _⟩ (by first | omega | (simp; omega) | simp)).trans qw12)
  have qw23 : w2.cell? ⟨w.heap.size, 3, none⟩ = some (.int .i64 an) := (hc_w2 _ _ (by first | omega | (simp; omega) | simp)).trans ((World.cell?_alloc_lt _ _ ⟨_, _, _⟩ (by first | omega | (simp; omega) | simp)).trans qw13)
  have qw24 : w2.cell? ⟨w.heap.size, 4, none⟩ = some (.slice As aw.length ca) := (hc_w2 _ _ (by first | omega | (simp; omega) | simp)).trans ((World.cell?_alloc_lt _ _ ⟨_, _, _⟩ (by first | omega | (simp; omega) | simp)).trans qw14)
  have qw25 : w2.cell? ⟨w.heap.size, 5, none⟩ = some (.int .i64 mn) := (hc_w2 _ _ (by first | omega | (simp; omega) | simp)).trans ((World.cell?_alloc_lt _ _ ⟨_, _, _⟩ (by first | omega | (simp; omega) | simp)).trans qw15)
  have qw26 : w2.cell? ⟨w.heap.size, 6, none⟩ = some (.slice Ms mw.length cm) := (hc_w2 _ _ (by first | omega | (simp; omega) | simp)).trans ((World.cell?_alloc_lt _ _ ⟨_, _, _⟩ (by first | omega | (simp; omega) | simp)).trans qw16)
  have qw27 : w2.cell? ⟨w.heap.size, 7, none⟩ = some (.bool s) := (hc_w2 _ _ (by first | omega | (simp; omega) | simp)).trans ((World.cell?_alloc_lt _ _ ⟨_, _, _⟩ (by first | omega | (simp; omega) | simp)).trans qw17)
  clear qw10 qw11 qw12 qw13 qw14 qw15 qw16 qw17 hc_w2 hf_w2
  go_wp2_with fail
  go_at_call 47
  refine (sindex_any cap 56 _ (hitsS ⟨f, p, z, an, aw, mn, mw, s⟩) eg_add1 (hr.later b2) hl (HSY.out _ _ qw20) (i : Nat) HI.out).mono ?_
  rintro e w3 ⟨rfl, hb_w3⟩
  obtain ⟨hc_w3, hf_w3⟩ := bcell hb_w3
  have hs3 := hb_w3.size
  have b3 : Below w.heap.size w w3 := (by repeat (first | exact Below.refl _ _ | assumption | (refine below_drewN ?_ _) | (refine Below.drew ?_) | (refine Below.alloc ?_ (by first | omega | (simp; omega) | simp) _) | (refine Below.setCell ?_ (by first | omega | (simp; omega) | simp) _) | (refine below_trans ?_ (by assumption) (by first | omega | (simp; omega) | simp))))
  have hlt3 : w.heap.size < w3.heap.size := by omega
  have qw30 : w3.cell? ⟨w.heap.size, 0, none⟩ = some (.int .i64 f) := (hc_w3 _ _ (by first | omega | (simp; omega) | simp)).trans (qw20)
  have qw31 : w3.cell? ⟨w.heap.size, 1, none⟩ = some (.int .i64 p) := (hc_w3 _ _ (by first | omega | (simp; omega) | simp)).trans (qw21)
  have qw32 : w3.cell? ⟨w.heap.size, 2, none⟩ = some (.int .i64 z) := (hc_w3 _ _ (by first | omega | (simp; omega) | simp)).trans (qw22)
  have qw33 : w3.cell? ⟨w.heap.size, 3, none⟩ = some (.int .i64 an) := (hc_w3 _ _ (by first | omega | (simp; omega) | simp)).trans (qw23)
  have qw34 : w3.cell? ⟨w.heap.size, 4, none⟩ = some (.slice As aw.length ca) := (hc_w3 _ _ (by first | omega | (simp; omega) | simp)).trans (qw24)
  have qw35 : w3.cell? ⟨w.heap.size, 5, none⟩ = some (.int .i64 mn) := (hc_w3 _ _ (by first | omega | (simp; omega) | simp)).trans (qw25)
  have qw36 : w3.cell? ⟨w.heap.size, 6, none⟩ = some (.slice Ms mw.length cm) := (hc_w3 _ _ (by first | omega | (simp; omega) | simp)).trans (qw26)
  have qw37 : w3.cell? ⟨w.heap.size, 7, none⟩ = some (.bool s) := (hc_w3 _ _ (by first | omega | (simp; omega) | simp)).trans (qw27)
  clear qw20 qw21 qw22 qw23 qw24 qw25 qw26 qw27 hc_w3 hf_w3
  have hr3 := hr.later b3
  have j0 : decide ((i : Int) < 0) = false := decide_eq_false (by omega)
  have j1 : (i : Int) < (l.length : Int) := by omega
  have j2 : (0 : Int) ≤ (i : Int) := by omega
  have j3 : i < l.length := hil
  obtain ⟨b, off, hAe, hbb, hcc⟩ := hr3.at_ (by omega)
  obtain ⟨Aa, caa, Am, cam, c8, _, _⟩ := hcc i hil
  have qf := c8.c0
  rw [hff.out] at qf
  clear c8 hcc
  have HRV := Lib.hid hr3.vals
  subst hAe
  clear hr hr3 HSY HI C V
  go_wp2_with fail
  go_region_held3 (fun X : World => X.cell? ⟨w.heap.size, 0, none⟩ = some (.int .i64 f) ∧ X.cell? ⟨w.heap.size, 1, none⟩ = some (.int .i64 p) ∧ X.cell? ⟨w.heap.size, 2, none⟩ = some (.int .i64 z) ∧ X.cell? ⟨w.heap.size, 3, none⟩ = some (.int .i64 an) ∧ X.cell? ⟨w.heap.size, 4, none⟩ = some (.slice As aw.length ca) ∧ X.cell? ⟨w.heap.size, 5, none⟩ = some (.int .i64 mn) ∧ X.cell? ⟨w.heap.size, 6, none⟩ = some (.slice Ms mw.length cm) ∧ X.cell? ⟨w.heap.size, 7, none⟩ = some (.bool s) ∧ X.cell? ⟨b, off + i * 8, none⟩ = some (.int .i64 ff))
    (refine ⟨?_, ?_, ?_, ?_, ?_, ?_, ?_, ?_, ?_⟩ <;> first | assumption | exact (World.cell?_alloc_lt _ _ ⟨_, _, _⟩ (by first | omega | (simp; omega) | simp)).trans (by assumption) | exact (World.cell?_alloc_lt _ _ ⟨_, _, _⟩ (by first | omega | (simp; omega) | simp)).trans ((World.cell?_alloc_lt _ _ ⟨_, _, _⟩ (by first | omega | (simp; omega) | simp)).trans (by assumption)) | (simp [go_sem]; done))
    ((go_at_call 46; refine (G.out _).mono ?_; rintro e w4 ⟨rfl, hb_w4⟩; have hs4 := hb_w4.size; (try simp only [World.size_alloc, World.size_drew, World.heap_drewN] at hs4); have mw40 : w4.cell? ⟨w.heap.size, 0, none⟩ = some (.int .i64 f) := (hb_w4.cell (p := ⟨w.heap.size, 0, none⟩) (by first | omega | (simp; omega) | simp)).trans (by first | assumption | (simp [go_sem]; done) | exact (World.cell?_alloc_lt _ _ ⟨_, _, _⟩ (by first | omega | (simp; omega) | simp)).trans (by assumption) | exact (World.cell?_alloc_lt _ _ ⟨_, _, _⟩ (by first | omega | (simp; omega) | simp)).trans ((World.cell?_alloc_lt _ _ ⟨_, _, _⟩ (by first | omega | (simp; omega) | simp)).trans (by assumption))); have mw41 : w4.cell? ⟨w.heap.size, 1, none⟩ = some (.int .i64 p) := (hb_w4.cell (p := ⟨w.heap.size, 1, none⟩) (by first | omega | (simp; omega) | simp)).trans (by first | assumption | (simp [go_sem]; done) | exact (World.cell?_alloc_lt _ _ ⟨_, _, _⟩ (by first | omega | (simp; omega) | simp)).trans (by assumption) | exact (World.cell?_alloc_lt _ _ ⟨_, _, _⟩ (by first | omega | (simp; omega) | simp)).trans ((World.cell?_alloc_lt _ _ ⟨_, _, _⟩ (by first | omega | (simp; omega) | simp)).trans (by assumption))); have mw42 : w4.cell? ⟨w.heap.size, 2, none⟩ = some (.int .i64 z) := (hb_w4.cell (p := ⟨w.heap.size, 2, none⟩) (by first | omega | (simp; omega) | simp)).trans (by first | assumption | (simp [go_sem]; done) | exact (World.cell?_alloc_lt _ _ ⟨_, _, _⟩ (by first | omega | (simp; omega) | simp)).trans (by assumption) | exact (World.cell?_alloc_lt _ _ ⟨_, _, _⟩ (by first | omega | (simp; omega) | simp)).trans ((World.cell?_alloc_lt _ _ ⟨_, _, _⟩ (by first | omega | (simp; omega) | simp)).trans (by assumption))); have mw43 : w4.cell? ⟨w.heap.size, 3, none⟩ = some (.int .i64 an) := (hb_w4.cell (p := ⟨w.heap.size, 3, none⟩) (by first | omega | (simp; omega) | simp)).trans (by first | assumption | (simp [go_sem]; done) | exact (World.cell?_alloc_lt _ _ ⟨_, _, _⟩ (by first | omega | (simp; omega) | simp)).trans (by assumption) | exact (World.cell?_alloc_lt _ _ ⟨_, _, _⟩ (by first | omega | (simp; omega) | simp)).trans ((World.cell?_alloc_lt _ _ ⟨_, _, _⟩ (by first | omega | (simp; omega) | simp)).trans (by assumption))); have mw44 : w4.cell? ⟨w.heap.size, 4, none⟩ = some (.slice As aw.length ca) := (hb_w4.cell (p := ⟨w.heap.size, 4, none⟩) (by first | omega | (simp; omega) | simp)).trans (by first | assumption | (simp [go_sem]; done) | exact (World.cell?_alloc_lt _ _ ⟨_, _, _⟩ (by first | omega | (simp; omega) | simp)).trans (by assumption) | exact (World.cell?_alloc_lt _ _ ⟨_, _, _⟩ (by first | omega | (simp; omega) | simp)).trans ((World.cell?_alloc_lt _ _ ⟨_, _, _⟩ (by first | omega | (simp; omega) | simp)).trans (by assumption))); have mw45 : w4.cell? ⟨w.heap.size, 5, none⟩ = some (.int .i64 mn) := (hb_w4.cell (p := ⟨w.heap.size, 5, none⟩) (by first | omega | (simp; omega) | simp)).trans (by first | assumption | (simp [go_sem]; done) | exact (World.cell?_alloc_lt _ _ ⟨_, _, _⟩ (by first | omega | (simp; omega) | simp)).trans (by assumption) | exact (World.cell?_alloc_lt _ _ ⟨_, _, _⟩ (by first | omega | (simp; omega) | simp)).trans ((World.cell?_alloc_lt _ _ ⟨_, _, _⟩ (by first | omega | (simp; omega) | simp)).trans (by assumption))); have mw46 : w4.cell? ⟨w.heap.size, 6, none⟩ = some (.slice Ms mw.length cm) := (hb_w4.cell (p := ⟨w.heap.size, 6, none⟩) (by first | omega | (simp; omega) | simp)).trans (by first | assumption | (simp [go_sem]; done) | exact (World.cell?_alloc_lt _ _ ⟨_, _, _⟩ (by first | omega | (simp; omega) | simp)).trans (by assumption) | exact (World.cell?_alloc_lt _ _ ⟨_, _, _⟩ (by first | omega | (simp; omega) | simp)).trans ((World.cell?_alloc_lt _ _ ⟨_, _, _⟩ (by first | omega | (simp; omega) | simp)).trans (by assumption))); have mw47 : w4.cell? ⟨w.heap.size, 7, none⟩ = some (.bool s) := (hb_w4.cell (p := ⟨w.heap.size, 7, none⟩) (by first | omega | (simp; omega) | simp)).trans (by first | assumption | (simp [go_sem]; done) | exact (World.cell?_alloc_lt _ _ ⟨_, _, _⟩ (by first | omega | (simp; omega) | simp)).trans (by assumption) | exact (World.cell?_alloc_lt _ _ ⟨_, _, _⟩ (by first | omega | (simp; omega) | simp)).trans ((World.cell?_alloc_lt _ _ ⟨_, _, _⟩ (by first | omega | (simp; omega) | simp)).trans (by assumption))); have mw48 : w4.cell? ⟨b, off + i * 8, none⟩ = some (.int .i64 ff) := (hb_w4.cell (p := ⟨b, off + i * 8, none⟩) (by first | omega | (simp; omega) | simp)).trans (by first | assumption | (simp [go_sem]; done) | exact (World.cell?_alloc_lt _ _ ⟨_, _, _⟩ (by first | omega | (simp; omega) | simp)).trans (by assumption) | exact (World.cell?_alloc_lt _ _ ⟨_, _, _⟩ (by first | omega | (simp; omega) | simp)).trans ((World.cell?_alloc_lt _ _ ⟨_, _, _⟩ (by first | omega | (simp; omega) | simp)).trans (by assumption)))))
  all_goals
    have b34 : Below w3.heap.size w3 w4 := (by repeat (first | exact Below.refl _ _ | assumption | (refine below_drewN ?_ _) | (refine Below.drew ?_) | (refine Below.alloc ?_ (by first | omega | (simp; omega) | simp) _) | (refine Below.setCell ?_ (by first | omega | (simp; omega) | simp) _) | (refine below_trans ?_ (by assumption) (by first | omega | (simp; omega) | simp))))
    have b4 : Below w.heap.size w w4 := b3.trans (b34.mono (by first | omega | (simp; omega) | simp))
    obtain ⟨vs, v1, v2, v3⟩ := HRV.out
    have v2 := v2.later b34
    have v3 := v3.later b34
    have hAX := hA.later b4
    have hMX := hM.later b4
    have hsX : w.heap.size < w4.heap.size := by omega
    have hvl := sds_len v1
    have HP : Hid (∀ (W : World) (g : Nat), Below w4.heap.size w4 W → PRow W (some ⟨g, 0, none⟩) [vs.take i, [⟨⟨f, p, z, an, aw, mn, mw, s⟩, As, ca, Ms, cm⟩], vs.drop i] → Calls Try.prog 57 #[.slice (some ⟨g, 0, none⟩) 3 3] W fun e w' => ∃ A' c' us, e = .returned (.slice A' r.length c') ∧ sdsOf us = r ∧ OwnsS w' W.heap.size A' r.length c' us ∧ Below W.heap.size W w') := Lib.hid fun W g hb hp => by
      have h := scopies_any (w := W) (P := some ⟨g, 0, none⟩) (ps := [vs.take i, [⟨⟨f, p, z, an, aw, mn, mw, s⟩, As, ca, Ms, cm⟩], vs.drop i]) 3 hp (by simp) (by simp only [List.flatten_cons, List.flatten_nil, List.append_nil, List.length_append, List.length_take, List.length_drop, List.length_singleton]; omega) (fun v hv' => by
        simp only [List.flatten_cons, List.flatten_nil, List.append_nil, List.mem_append, List.mem_singleton] at hv'
        have hm : v ∈ vs ∨ v = ⟨⟨f, p, z, an, aw, mn, mw, s⟩, As, ca, Ms, cm⟩ := by
          rcases hv' with hv' | hv' | hv'
          · exact .inl (List.mem_of_mem_take hv')
          · exact .inr hv'
          · exact .inl (List.mem_of_mem_drop hv')
        rcases hm with hm | rfl
        · obtain ⟨r1, r2⟩ := (v3.later hb) v hm
          have hd : v.d ∈ l := by rw [← v1]; exact List.mem_map.2 ⟨v, hm, rfl⟩
          exact ⟨r1, r2, (HW.out _ hd).1, (HW.out _ hd).2⟩
        · exact ⟨hAX.later hb, hMX.later hb, hw1.out.1, hw1.out.2⟩) r.length (by rw [hrl]; simp only [List.flatten_cons, List.flatten_nil, List.append_nil, List.length_append, List.length_take, List.length_drop, List.length_singleton]; omega) 3 rfl
      refine h.mono ?_
      rintro e w' ⟨A', c', us, rfl, g1, g2, g3⟩
      exact ⟨A', c', us, rfl, by rw [g1, hre]; simp only [List.flatten_cons, List.flatten_nil, List.append_nil]; rw [sds_app, sds_app, sds_take, sds_drop, v1, List.append_assoc]; rfl, g2, g3⟩
    have HQ : Hid (∀ (A1 A2 : Option Addr) (n1 n2 c1 c2 g : Nat) (t1 t2 : TypeId), VRow w4 A1 (vs.take i) → VRow w4 A2 (vs.drop i) → i = n1 → l.length - i = n2 → w4.heap.size = g → PRow (((w4.alloc (.cells #[.int .i64 f, .int .i64 p, .int .i64 z, .int .i64 an, .slice As aw.length ca, .int .i64 mn, .slice Ms mw.length cm, .bool s] t1)).alloc (.cells #[.slice A1 n1 c1, .slice (some ⟨g, 0, none⟩) 1 1, .slice A2 n2 c2] t2)).drew) (some ⟨g + 1, 0, none⟩) [vs.take i, [⟨⟨f, p, z, an, aw, mn, mw, s⟩, As, ca, Ms, cm⟩], vs.drop i]) := Lib.hid fun A1 A2 n1 n2 c1 c2 g t1 t2 hd1 hd2 he1 he2 hg => by
      subst hg
      have hb : Below w4.heap.size w4 (w4.alloc (.cells #[.int .i64 f, .int .i64 p, .int .i64 z, .int .i64 an, .slice As aw.length ca, .int .i64 mn, .slice Ms mw.length cm, .bool s] t1)) := (Below.refl _ _).alloc (Nat.le_refl _) _
      have hs := Sp8.new w4 ⟨f, p, z, an, aw, mn, mw, s⟩ As ca Ms cm t1
      exact (prow3 (w4.heap.size + 1) (by simp) (hd1.later hb) (vrow_of (vs := [⟨⟨f, p, z, an, aw, mn, mw, s⟩, As, ca, Ms, cm⟩]) (by simp) (fun i hi => by
        have : i = 0 := by simp at hi; omega
        subst this
        exact hs)) (hd2.later hb) (by rw [List.length_take]; omega) rfl (by rw [List.length_drop]; omega)).later (Below.drew (Below.refl _ _))
    have HT := Lib.hid (v2.take i)
    have HR := Lib.hid (v2.drop i)
    have hcap : ¬ cap = i := by omega
    have j5 : (i : Int) ≤ (l.length : Int) := by omega
    have j6 : (i : Int) ≤ (cap : Int) := by omega
    have j7 : (l.length : Int) ≤ (cap : Int) := by omega
    clear v1 v2 v3 hvl hrl hre HRV HW hA hM
    go_wp2_with fail
    go_region_held3 (fun X : World => X.cell? ⟨w.heap.size, 0, none⟩ = some (.int .i64 f) ∧ X.cell? ⟨w.heap.size, 1, none⟩ = some (.int .i64 p) ∧ X.cell? ⟨w.heap.size, 2, none⟩ = some (.int .i64 z) ∧ X.cell? ⟨w.heap.size, 3, none⟩ = some (.int .i64 an) ∧ X.cell? ⟨w.heap.size, 4, none⟩ = some (.slice As aw.length ca) ∧ X.cell? ⟨w.heap.size, 5, none⟩ = some (.int .i64 mn) ∧ X.cell? ⟨w.heap.size, 6, none⟩ = some (.slice Ms mw.length cm) ∧ X.cell? ⟨w.heap.size, 7, none⟩ = some (.bool s))
      (refine ⟨?_, ?_, ?_, ?_, ?_, ?_, ?_, ?_⟩ <;> first | assumption | exact (World.cell?_alloc_lt _ _ ⟨_, _, _⟩ (by first | omega | (simp; omega) | simp)).trans (by assumption) | exact (World.cell?_alloc_lt _ _ ⟨_, _, _⟩ (by first | omega | (simp; omega) | simp)).trans ((World.cell?_alloc_lt _ _ ⟨_, _, _⟩ (by first | omega | (simp; omega) | simp)).trans (by assumption)) | (simp [go_sem]; done))
      ((go_at_call 57; refine (HP.out _ _ (by repeat (first | exact Below.refl _ _ | assumption | (refine below_drewN ?_ _) | (refine Below.drew ?_) | (refine Below.alloc ?_ (by first | omega | (simp; omega) | simp) _) | (refine Below.setCell ?_ (by first | omega | (simp; omega) | simp) _) | (refine below_trans ?_ (by assumption) (by first | omega | (simp; omega) | simp)))) (HQ.out _ _ _ _ _ _ _ _ _ HT.out HR.out rfl rfl rfl)).mono ?_; rintro e w5 ⟨A5, c5, us, rfl, h4, h5, hb_w5⟩; have hs5 := hb_w5.size; (try simp only [World.size_alloc, World.size_drew] at hs5); have mw50 : w5.cell? ⟨w.heap.size, 0, none⟩ = some (.int .i64 f) := (hb_w5.cell (p := ⟨w.heap.size, 0, none⟩) (by first | omega | (simp; omega) | simp)).trans (by first | assumption | (simp [go_sem]; done) | exact (World.cell?_alloc_lt _ _ ⟨_, _, _⟩ (by first | omega | (simp; omega) | simp)).trans (by assumption) | exact (World.cell?_alloc_lt _ _ ⟨_, _, _⟩ (by first | omega | (simp; omega) | simp)).trans ((World.cell?_alloc_lt _ _ ⟨_, _, _⟩ (by first | omega | (simp; omega) | simp)).trans (by assumption))); have mw51 : w5.cell? ⟨w.heap.size, 1, none⟩ = some (.int .i64 p) := (hb_w5.cell (p := ⟨w.heap.size, 1, none⟩) (by first | omega | (simp; omega) | simp)).trans (by first | assumption | (simp [go_sem]; done) | exact (World.cell?_alloc_lt _ _ ⟨_, _, _⟩ (by first | omega | (simp; omega) | simp)).trans (by assumption) | exact (World.cell?_alloc_lt _ _ ⟨_, _, _⟩ (by first | omega | (simp; omega) | simp)).trans ((World.cell?_alloc_lt _ _ ⟨_, _, _⟩ (by first | omega | (simp; omega) | simp)).trans (by assumption))); have mw52 : w5.cell? ⟨w.heap.size, 2, none⟩ = some (.int .i64 z) := (hb_w5.cell (p := ⟨w.heap.size, 2, none⟩) (by first | omega | (simp; omega) | simp)).trans (by first | assumption | (simp [go_sem]; done) | exact (World.cell?_alloc_lt _ _ ⟨_, _, _⟩ (by first | omega | (simp; omega) | simp)).trans (by assumption) | exact (World.cell?_alloc_lt _ _ ⟨_, _, _⟩ (by first | omega | (simp; omega) | simp)).trans ((World.cell?_alloc_lt _ _ ⟨_, _, _⟩ (by first | omega | (simp; omega) | simp)).trans (by assumption))); have mw53 : w5.cell? ⟨w.heap.size, 3, none⟩ = some (.int .i64 an) := (hb_w5.cell (p := ⟨w.heap.size, 3, none⟩) (by first | omega | (simp; omega) | simp)).trans (by first | assumption | (simp [go_sem]; done) | exact (World.cell?_alloc_lt _ _ ⟨_, _, _⟩ (by first | omega | (simp; omega) | simp)).trans (by assumption) | exact (World.cell?_alloc_lt _ _ ⟨_, _, _⟩ (by first | omega | (simp; omega) | simp)).trans ((World.cell?_alloc_lt _ _ ⟨_, _, _⟩ (by first | omega | (simp; omega) | simp)).trans (by assumption))); have mw54 : w5.cell? ⟨w.heap.size, 4, none⟩ = some (.slice As aw.length ca) := (hb_w5.cell (p := ⟨w.heap.size, 4, none⟩) (by first | omega | (simp; omega) | simp)).trans (by first | assumption | (simp [go_sem]; done) | exact (World.cell?_alloc_lt _ _ ⟨_, _, _⟩ (by first | omega | (simp; omega) | simp)).trans (by assumption) | exact (World.cell?_alloc_lt _ _ ⟨_, _, _⟩ (by first | omega | (simp; omega) | simp)).trans ((World.cell?_alloc_lt _ _ ⟨_, _, _⟩ (by first | omega | (simp; omega) | simp)).trans (by assumption))); have mw55 : w5.cell? ⟨w.heap.size, 5, none⟩ = some (.int .i64 mn) := (hb_w5.cell (p := ⟨w.heap.size, 5, none⟩) (by first | omega | (simp; omega) | simp)).trans (by first | assumption | (simp [go_sem]; done) | exact (World.cell?_alloc_lt _ _ ⟨_, _, _⟩ (by first | omega | (simp; omega) | simp)).trans (by assumption) | exact (World.cell?_alloc_lt _ _ ⟨_, _, _⟩ (by first | omega | (simp; omega) | simp)).trans ((World.cell?_alloc_lt _ _ ⟨_, _, _⟩ (by first | omega | (simp; omega) | simp)).trans (by assumption))); have mw56 : w5.cell? ⟨w.heap.size, 6, none⟩ = some (.slice Ms mw.length cm) := (hb_w5.cell (p := ⟨w.heap.size, 6, none⟩) (by first | omega | (simp; omega) | simp)).trans (by first | assumption | (simp [go_sem]; done) | exact (World.cell?_alloc_lt _ _ ⟨_, _, _⟩ (by first | omega | (simp; omega) | simp)).trans (by assumption) | exact (World.cell?_alloc_lt _ _ ⟨_, _, _⟩ (by first | omega | (simp; omega) | simp)).trans ((World.cell?_alloc_lt _ _ ⟨_, _, _⟩ (by first | omega | (simp; omega) | simp)).trans (by assumption))); have mw57 : w5.cell? ⟨w.heap.size, 7, none⟩ = some (.bool s) := (hb_w5.cell (p := ⟨w.heap.size, 7, none⟩) (by first | omega | (simp; omega) | simp)).trans (by first | assumption | (simp [go_sem]; done) | exact (World.cell?_alloc_lt _ _ ⟨_, _, _⟩ (by first | omega | (simp; omega) | simp)).trans (by assumption) | exact (World.cell?_alloc_lt _ _ ⟨_, _, _⟩ (by first | omega | (simp; omega) | simp)).trans ((World.cell?_alloc_lt _ _ ⟨_, _, _⟩ (by first | omega | (simp; omega) | simp)).trans (by assumption)))))
    all_goals
      go_wp2
      go_ret2
      exact ⟨A5, c5, us, rfl, h4, h5.mono (by first | omega | (simp; omega) | simp), (by repeat (first | exact Below.refl _ _ | assumption | (refine below_drewN ?_ _) | (refine Below.drew ?_) | (refine Below.alloc ?_ (by first | omega | (simp; omega) | simp) _) | (refine Below.setCell ?_ (by first | omega | (simp; omega) | simp) _) | (refine below_trans ?_ (by assumption) (by first | omega | (simp; omega) | simp))))⟩
end
end Go.Proofs.Ythphefoohkofbaa

/- Add of spans behind all. -/
namespace Go.Proofs.Ythphefoohkofbaa
open Go.RowKit
set_option linter.unusedVariables false
set_option linter.unusedSimpArgs false

section
variable {w : World} {A As Ms : Option Addr} {l : List Sd} (cap ca cm : Nat)
set_option maxHeartbeats 8000000 in
theorem sadd_pute (hr : SRow w w.heap.size A l) (hcl : l.length ≤ cap) (hnil : A = none → cap = 0) (d : Sd) (hA : Row w w.heap.size As d.aw) (hM : Row w w.heap.size Ms d.mw) (h : OkL l) (h1 : Ok1 d) (hI : IdxE l (hitsS d) (-1)) (h256 : l.length < 256) (r : List Sd) (hre : r = l.take l.length ++ [d] ++ l.drop l.length) :
    Calls Try.prog 26 #[.slice A l.length cap, spv d As ca Ms cm] w fun e w' => FreshL5 w r 0 e w' := by
  unfold FreshL5
  have hl : l.length ≤ 17592186044416 := by have := h.1; omega
  have C := Lib.hid fun (w : World) hr => scheck_any (w := w) (A := A) (l := l) cap hr hl 0 (.inl ⟨h, rfl⟩)
  have V := Lib.hid fun (w : World) (g : Nat) (hg : w.heap.size = g) hA hM (t : TypeId) => scheck1_any (w := w) (d := d) (A := As) (M := Ms) ca cm hg hA hM 0 (.inl ⟨h1, rfl⟩) t
  have HI := Lib.hid hI
  have HW := Lib.hid h.words
  have HO := Lib.hid h
  have hok256 := h.1
  have HSY := Lib.hid fun (w : World) B hB => says_add1 (w := w) (l := l) d B HO.out hB
  have hsl := h1.sized.slots
  have hpl := h1.placed
  unfold Placed at hpl
  have G := Lib.hid fun (w : World) => sbehind_any (w := w) d As ca Ms cm (by omega) (by omega)
  have hw1 : Hid (d.aw.length = 1 ∧ d.mw.length = 1) := Lib.hid ⟨h1.aw, h1.mw⟩
  have g1 : (l.length == 256) = false := by simp; omega
  have hrl : r.length = l.length + 1 := by rw [hre]; simp only [List.length_append, List.length_take, List.length_drop, List.length_singleton]; omega
  have HD : Hid (∀ d' : Sd, d' = d → hitsS d = hitsS d') := Lib.hid (fun d' e => by rw [e])
  clear h h1 hI
  obtain ⟨f, p, z, an, aw, mn, mw, s⟩ := d
  unfold spv at G ⊢
  simp only at *
  go_enter Try.func26, Try.ntmps26
  go_wp2_with fail
  go_at_call 19
  refine (C.out _ (hr.later (by repeat (first | exact Below.refl _ _ | assumption | (refine below_drewN ?_ _) | (refine Below.drew ?_) | (refine Below.alloc ?_ (by first | omega | (simp; omega) | simp) _) | (refine Below.setCell ?_ (by first | omega | (simp; omega) | simp) _) | (refine below_trans ?_ (by assumption) (by first | omega | (simp; omega) | simp)))))).mono ?_
  rintro e w1 ⟨rfl, hb_w1⟩
  obtain ⟨hc_w1, hf_w1⟩ := bcell hb_w1; have hz_w1_w_0 : w.heap.size < w1.heap.size := (by have hzz := hb_w1.size; (try simp only [World.size_alloc, World.size_setCell, World.size_drew, World.heap_drewN] at hzz); omega); have hs_w1 := hb_w1.size; (try simp only [World.size_alloc, World.size_setCell, World.size_drew, World.heap_drewN] at hs_w1)
  have b1 : Below w.heap.size w w1 := (by repeat (first | exact Below.refl _ _ | assumption | (refine below_drewN ?_ _) | (refine Below.drew ?_) | (refine Below.alloc ?_ (by first | omega | (simp; omega) | simp) _) | (refine Below.setCell ?_ (by first | omega | (simp; omega) | simp) _) | (refine below_trans ?_ (by assumption) (by first | omega | (simp; omega) | simp))))
  have qw10 : w1.cell? ⟨w.heap.size, 0, none⟩ = some (.int .i64 f) := (hc_w1 _ _ (by first | omega | (simp; omega) | simp)).trans (by simp [go_sem])
  have qw11 : w1.cell? ⟨w.heap.size, 1, none⟩ = some (.int .i64 p) := (hc_w1 _ _ (by first | omega | (simp; omega) | simp)).trans (by simp [go_sem])
  have qw12 : w1.cell? ⟨w.heap.size, 2, none⟩ = some (.int .i64 z) := (hc_w1 _ _ (by first | omega | (simp; omega) | simp)).trans (by simp [go_sem])
  have qw13 : w1.cell? ⟨w.heap.size, 3, none⟩ = some (.int .i64 an) := (hc_w1 _ _ (by first | omega | (simp; omega) | simp)).trans (by simp [go_sem])
  have qw14 : w1.cell? ⟨w.heap.size, 4, none⟩ = some (.slice As aw.length ca) := (hc_w1 _ _ (by first | omega | (simp; omega) | simp)).trans (by simp [go_sem])
  have qw15 : w1.cell? ⟨w.heap.size, 5, none⟩ = some (.int .i64 mn) := (hc_w1 _ _ (by first | omega | (simp; omega) | simp)).trans (by simp [go_sem])
  have qw16 : w1.cell? ⟨w.heap.size, 6, none⟩ = some (.slice Ms mw.length cm) := (hc_w1 _ _ (by first | omega | (simp; omega) | simp)).trans (by simp [go_sem])
  have qw17 : w1.cell? ⟨w.heap.size, 7, none⟩ = some (.bool s) := (hc_w1 _ _ (by first | omega | (simp; omega) | simp)).trans (by simp [go_sem])
  clear hc_w1 hf_w1
  go_wp2_with fail
  go_at_call 19
  refine (V.out _ _ rfl (hA.later b1) (hM.later b1) _).mono ?_
  rintro e w2 ⟨rfl, hb_w2⟩
  obtain ⟨hc_w2, hf_w2⟩ := bcell hb_w2
  have hs2 := hb_w2.size
  (try simp only [World.size_alloc] at hs2)
  have b2 : Below w.heap.size w w2 := (by repeat (first | exact Below.refl _ _ | assumption | (refine below_drewN ?_ _) | (refine Below.drew ?_) | (refine Below.alloc ?_ (by first | omega | (simp; omega) | simp) _) | (refine Below.setCell ?_ (by first | omega | (simp; omega) | simp) _) | (refine below_trans ?_ (by assumption) (by first | omega | (simp; omega) | simp))))
  have qw20 : w2.cell? ⟨w.heap.size, 0, none⟩ = some (.int .i64 f) := (hc_w2 _ _ (by first | omega | (simp; omega) | simp)).trans ((World.cell?_alloc_lt _ _ ⟨_, _, _⟩ (by first | omega | (simp; omega) | simp)).trans qw10)
  have qw21 : w2.cell? ⟨w.heap.size, 1, none⟩ = some (.int .i64 p) := (hc_w2 _ _ (by first | omega | (simp; omega) | simp)).trans ((World.cell?_alloc_lt _ _ ⟨_, _, _⟩ (by first | omega | (simp; omega) | simp)).trans qw11)
  have qw22 : w2.cell? ⟨w.heap.size, 2, none⟩ = some (.int .i64 z) := (hc_w2 _ _ (by first | omega | (simp; omega) | simp)).trans ((World.cell?_alloc_lt _ _ ⟨_, _, _⟩ (by first | omega | (simp; omega) | simp)).trans qw12)
  have qw23 : w2.cell? ⟨w.heap.size, 3, none⟩ = some (.int .i64 an) := (hc_w2 _ _ (by first | omega | (simp; omega) | simp)).trans ((World.cell?_alloc_lt _ _ ⟨_, _, _⟩ (by first | omega | (simp; omega) | simp)).trans qw13)
  have qw24 : w2.cell? ⟨w.heap.size, 4, none⟩ = some (.slice As aw.length ca) := (hc_w2 _ _ (by first | omega | (simp; omega) | simp)).trans ((World.cell?_alloc_lt _ _ ⟨_, _, _⟩ (by first | omega | (simp; omega) | simp)).trans qw14)
  have qw25 : w2.cell? ⟨w.heap.size, 5, none⟩ = some (.int .i64 mn) := (hc_w2 _ _ (by first | omega | (simp; omega) | simp)).trans ((World.cell?_alloc_lt _ _ ⟨_, _, _⟩ (by first | omega | (simp; omega) | simp)).trans qw15)
  have qw26 : w2.cell? ⟨w.heap.size, 6, none⟩ = some (.slice Ms mw.length cm) := (hc_w2 _ _ (by first | omega | (simp; omega) | simp)).trans ((World.cell?_alloc_lt _ _ ⟨_, _, _⟩ (by first | omega | (simp; omega) | simp)).trans qw16)
  have qw27 : w2.cell? ⟨w.heap.size, 7, none⟩ = some (.bool s) := (hc_w2 _ _ (by first | omega | (simp; omega) | simp)).trans ((World.cell?_alloc_lt _ _ ⟨_, _, _⟩ (by first | omega | (simp; omega) | simp)).trans qw17)
  clear qw10 qw11 qw12 qw13 qw14 qw15 qw16 qw17 hc_w2 hf_w2
  go_wp2_with fail
  go_at_call 47
  refine (sindex_any cap 56 _ (hitsS ⟨f, p, z, an, aw, mn, mw, s⟩) eg_add1 (hr.later b2) hl (HSY.out _ _ qw20) (-1) HI.out).mono ?_
  rintro e w3 ⟨rfl, hb_w3⟩
  obtain ⟨hc_w3, hf_w3⟩ := bcell hb_w3
  have hs3 := hb_w3.size
  have b3 : Below w.heap.size w w3 := (by repeat (first | exact Below.refl _ _ | assumption | (refine below_drewN ?_ _) | (refine Below.drew ?_) | (refine Below.alloc ?_ (by first | omega | (simp; omega) | simp) _) | (refine Below.setCell ?_ (by first | omega | (simp; omega) | simp) _) | (refine below_trans ?_ (by assumption) (by first | omega | (simp; omega) | simp))))
  have hlt3 : w.heap.size < w3.heap.size := by omega
  have qw30 : w3.cell? ⟨w.heap.size, 0, none⟩ = some (.int .i64 f) := (hc_w3 _ _ (by first | omega | (simp; omega) | simp)).trans (qw20)
  have qw31 : w3.cell? ⟨w.heap.size, 1, none⟩ = some (.int .i64 p) := (hc_w3 _ _ (by first | omega | (simp; omega) | simp)).trans (qw21)
  have qw32 : w3.cell? ⟨w.heap.size, 2, none⟩ = some (.int .i64 z) := (hc_w3 _ _ (by first | omega | (simp; omega) | simp)).trans (qw22)
  have qw33 : w3.cell? ⟨w.heap.size, 3, none⟩ = some (.int .i64 an) := (hc_w3 _ _ (by first | omega | (simp; omega) | simp)).trans (qw23)
  have qw34 : w3.cell? ⟨w.heap.size, 4, none⟩ = some (.slice As aw.length ca) := (hc_w3 _ _ (by first | omega | (simp; omega) | simp)).trans (qw24)
  have qw35 : w3.cell? ⟨w.heap.size, 5, none⟩ = some (.int .i64 mn) := (hc_w3 _ _ (by first | omega | (simp; omega) | simp)).trans (qw25)
  have qw36 : w3.cell? ⟨w.heap.size, 6, none⟩ = some (.slice Ms mw.length cm) := (hc_w3 _ _ (by first | omega | (simp; omega) | simp)).trans (qw26)
  have qw37 : w3.cell? ⟨w.heap.size, 7, none⟩ = some (.bool s) := (hc_w3 _ _ (by first | omega | (simp; omega) | simp)).trans (qw27)
  clear qw20 qw21 qw22 qw23 qw24 qw25 qw26 qw27 hc_w3 hf_w3
  have hr3 := hr.later b3
  have HRV := Lib.hid hr3.vals
  have j3 : ¬ l.length < l.length := by omega
  have j4 : decide ((l.length : Int) < (l.length : Int)) = false := by simp
  clear hr hr3 HSY HI C V
  go_wp2_with fail
  go_quiet (fail)
  go_wp2_with fail
  all_goals
    generalize hWD : w3.drewN nq = w4 at *
    have b34 : Below w3.heap.size w3 w4 := by rw [← hWD]; exact below_drewN (Below.refl _ _) _
    have b4 : Below w.heap.size w w4 := b3.trans (b34.mono (by first | omega | (simp; omega) | simp))
    have hs4 := b34.size
    obtain ⟨vs, v1, v2, v3⟩ := HRV.out
    have v2 := v2.later b34
    have v3 := v3.later b34
    have hAX := hA.later b4
    have hMX := hM.later b4
    have hsX : w.heap.size < w4.heap.size := by omega
    have mw40 : w4.cell? ⟨w.heap.size, 0, none⟩ = some (.int .i64 f) := (b34.cell (p := ⟨w.heap.size, 0, none⟩) (by first | omega | (simp; omega) | simp)).trans qw30
    have mw41 : w4.cell? ⟨w.heap.size, 1, none⟩ = some (.int .i64 p) := (b34.cell (p := ⟨w.heap.size, 1, none⟩) (by first | omega | (simp; omega) | simp)).trans qw31
    have mw42 : w4.cell? ⟨w.heap.size, 2, none⟩ = some (.int .i64 z) := (b34.cell (p := ⟨w.heap.size, 2, none⟩) (by first | omega | (simp; omega) | simp)).trans qw32
    have mw43 : w4.cell? ⟨w.heap.size, 3, none⟩ = some (.int .i64 an) := (b34.cell (p := ⟨w.heap.size, 3, none⟩) (by first | omega | (simp; omega) | simp)).trans qw33
    have mw44 : w4.cell? ⟨w.heap.size, 4, none⟩ = some (.slice As aw.length ca) := (b34.cell (p := ⟨w.heap.size, 4, none⟩) (by first | omega | (simp; omega) | simp)).trans qw34
    have mw45 : w4.cell? ⟨w.heap.size, 5, none⟩ = some (.int .i64 mn) := (b34.cell (p := ⟨w.heap.size, 5, none⟩) (by first | omega | (simp; omega) | simp)).trans qw35
    have mw46 : w4.cell? ⟨w.heap.size, 6, none⟩ = some (.slice Ms mw.length cm) := (b34.cell (p := ⟨w.heap.size, 6, none⟩) (by first | omega | (simp; omega) | simp)).trans qw36
    have mw47 : w4.cell? ⟨w.heap.size, 7, none⟩ = some (.bool s) := (b34.cell (p := ⟨w.heap.size, 7, none⟩) (by first | omega | (simp; omega) | simp)).trans qw37
    clear qw30 qw31 qw32 qw33 qw34 qw35 qw36 qw37 hWD
    have hvl := sds_len v1
    have HP : Hid (∀ (W : World) (g : Nat), Below w4.heap.size w4 W → PRow W (some ⟨g, 0, none⟩) [vs.take l.length, [⟨⟨f, p, z, an, aw, mn, mw, s⟩, As, ca, Ms, cm⟩], vs.drop l.length] → Calls Try.prog 57 #[.slice (some ⟨g, 0, none⟩) 3 3] W fun e w' => ∃ A' c' us, e = .returned (.slice A' r.length c') ∧ sdsOf us = r ∧ OwnsS w' W.heap.size A' r.length c' us ∧ Below W.heap.size W w') := Lib.hid fun W g hb hp => by
      have h := scopies_any (w := W) (P := some ⟨g, 0, none⟩) (ps := [vs.take l.length, [⟨⟨f, p, z, an, aw, mn, mw, s⟩, As, ca, Ms, cm⟩], vs.drop l.length]) 3 hp (by simp) (by simp only [List.flatten_cons, List.flatten_nil, List.append_nil, List.length_append, List.length_take, List.length_drop, List.length_singleton]; omega) (fun v hv' => by
        simp only [List.flatten_cons, List.flatten_nil, List.append_nil, List.mem_append, List.mem_singleton] at hv'
        have hm : v ∈ vs ∨ v = ⟨⟨f, p, z, an, aw, mn, mw, s⟩, As, ca, Ms, cm⟩ := by
          rcases hv' with hv' | hv' | hv'
          · exact .inl (List.mem_of_mem_take hv')
          · exact .inr hv'
          · exact .inl (List.mem_of_mem_drop hv')
        rcases hm with hm | rfl
        · obtain ⟨r1, r2⟩ := (v3.later hb) v hm
          have hd : v.d ∈ l := by rw [← v1]; exact List.mem_map.2 ⟨v, hm, rfl⟩
          exact ⟨r1, r2, (HW.out _ hd).1, (HW.out _ hd).2⟩
        · exact ⟨hAX.later hb, hMX.later hb, hw1.out.1, hw1.out.2⟩) r.length (by rw [hrl]; simp only [List.flatten_cons, List.flatten_nil, List.append_nil, List.length_append, List.length_take, List.length_drop, List.length_singleton]; omega) 3 rfl
      refine h.mono ?_
      rintro e w' ⟨A', c', us, rfl, g1, g2, g3⟩
      exact ⟨A', c', us, rfl, by rw [g1, hre]; simp only [List.flatten_cons, List.flatten_nil, List.append_nil]; rw [sds_app, sds_app, sds_take, sds_drop, v1, List.append_assoc]; rfl, g2, g3⟩
    have HQ : Hid (∀ (A1 A2 : Option Addr) (n1 n2 c1 c2 g : Nat) (t1 t2 : TypeId), VRow w4 A1 (vs.take l.length) → VRow w4 A2 (vs.drop l.length) → l.length = n1 → l.length - l.length = n2 → w4.heap.size = g → PRow (((w4.alloc (.cells #[.int .i64 f, .int .i64 p, .int .i64 z, .int .i64 an, .slice As aw.length ca, .int .i64 mn, .slice Ms mw.length cm, .bool s] t1)).alloc (.cells #[.slice A1 n1 c1, .slice (some ⟨g, 0, none⟩) 1 1, .slice A2 n2 c2] t2)).drew) (some ⟨g + 1, 0, none⟩) [vs.take l.length, [⟨⟨f, p, z, an, aw, mn, mw, s⟩, As, ca, Ms, cm⟩], vs.drop l.length]) := Lib.hid fun A1 A2 n1 n2 c1 c2 g t1 t2 hd1 hd2 he1 he2 hg => by
      subst hg
      have hb : Below w4.heap.size w4 (w4.alloc (.cells #[.int .i64 f, .int .i64 p, .int .i64 z, .int .i64 an, .slice As aw.length ca, .int .i64 mn, .slice Ms mw.length cm, .bool s] t1)) := (Below.refl _ _).alloc (Nat.le_refl _) _
      have hs := Sp8.new w4 ⟨f, p, z, an, aw, mn, mw, s⟩ As ca Ms cm t1
      exact (prow3 (w4.heap.size + 1) (by simp) (hd1.later hb) (vrow_of (vs := [⟨⟨f, p, z, an, aw, mn, mw, s⟩, As, ca, Ms, cm⟩]) (by simp) (fun i hi => by
        have : i = 0 := by simp at hi; omega
        subst this
        exact hs)) (hd2.later hb) (by rw [List.length_take]; omega) rfl (by rw [List.length_drop]; omega)).later (Below.drew (Below.refl _ _))
    have HT := Lib.hid (v2.take l.length)
    have HD0 : Hid (∀ A2, VRow w4 A2 (vs.drop l.length)) := Lib.hid fun A2 hl => by
      rw [List.length_drop] at hl
      omega
    have HN0 : Hid (l.length - l.length = 0) := Lib.hid (Nat.sub_self _)
    clear v1 v2 v3 hvl hrl hre HRV HW hA hM
    cases A with
    | none =>
      obtain rfl := hnil rfl
      have hl0 : l.length = 0 := by omega
      have HL0 := Lib.hid hl0
      simp only [hl0] at *
      go_wp2_with fail
      go_region_held3 (fun X : World => X.cell? ⟨w.heap.size, 0, none⟩ = some (.int .i64 f) ∧ X.cell? ⟨w.heap.size, 1, none⟩ = some (.int .i64 p) ∧ X.cell? ⟨w.heap.size, 2, none⟩ = some (.int .i64 z) ∧ X.cell? ⟨w.heap.size, 3, none⟩ = some (.int .i64 an) ∧ X.cell? ⟨w.heap.size, 4, none⟩ = some (.slice As aw.length ca) ∧ X.cell? ⟨w.heap.size, 5, none⟩ = some (.int .i64 mn) ∧ X.cell? ⟨w.heap.size, 6, none⟩ = some (.slice Ms mw.length cm) ∧ X.cell? ⟨w.heap.size, 7, none⟩ = some (.bool s))
        (refine ⟨?_, ?_, ?_, ?_, ?_, ?_, ?_, ?_⟩ <;> first | assumption | exact (World.cell?_alloc_lt _ _ ⟨_, _, _⟩ (by first | omega | (simp; omega) | simp)).trans (by assumption) | exact (World.cell?_alloc_lt _ _ ⟨_, _, _⟩ (by first | omega | (simp; omega) | simp)).trans ((World.cell?_alloc_lt _ _ ⟨_, _, _⟩ (by first | omega | (simp; omega) | simp)).trans (by assumption)) | (simp [go_sem]; done))
        ((go_at_call 57; refine (HP.out _ _ (by repeat (first | exact Below.refl _ _ | assumption | (refine below_drewN ?_ _) | (refine Below.drew ?_) | (refine Below.alloc ?_ (by first | omega | (simp; omega) | simp) _) | (refine Below.setCell ?_ (by first | omega | (simp; omega) | simp) _) | (refine below_trans ?_ (by assumption) (by first | omega | (simp; omega) | simp)))) (HQ.out _ _ _ _ _ _ _ _ _ HT.out (HD0.out _) rfl rfl rfl)).mono ?_; rintro e w5 ⟨A5, c5, us, rfl, h4, h5, hb_w5⟩; have hs5 := hb_w5.size; (try simp only [World.size_alloc, World.size_drew] at hs5); have mw50 : w5.cell? ⟨w.heap.size, 0, none⟩ = some (.int .i64 f) := (hb_w5.cell (p := ⟨w.heap.size, 0, none⟩) (by first | omega | (simp; omega) | simp)).trans (by first | assumption | (simp [go_sem]; done) | exact (World.cell?_alloc_lt _ _ ⟨_, _, _⟩ (by first | omega | (simp; omega) | simp)).trans (by assumption) | exact (World.cell?_alloc_lt _ _ ⟨_, _, _⟩ (by first | omega | (simp; omega) | simp)).trans ((World.cell?_alloc_lt _ _ ⟨_, _, _⟩ (by first | omega | (simp; omega) | simp)).trans (by assumption))); have mw51 : w5.cell? ⟨w.heap.size, 1, none⟩ = some (.int .i64 p) := (hb_w5.cell (p := ⟨w.heap.size, 1, none⟩) (by first | omega | (simp; omega) | simp)).trans (by first | assumption | (simp [go_sem]; done) | exact (World.cell?_alloc_lt _ _ ⟨_, _, _⟩ (by first | omega | (simp; omega) | simp)).trans (by assumption) | exact (World.cell?_alloc_lt _ _ ⟨_, _, _⟩ (by first | omega | (simp; omega) | simp)).trans ((World.cell?_alloc_lt _ _ ⟨_, _, _⟩ (by first | omega | (simp; omega) | simp)).trans (by assumption))); have mw52 : w5.cell? ⟨w.heap.size, 2, none⟩ = some (.int .i64 z) := (hb_w5.cell (p := ⟨w.heap.size, 2, none⟩) (by first | omega | (simp; omega) | simp)).trans (by first | assumption | (simp [go_sem]; done) | exact (World.cell?_alloc_lt _ _ ⟨_, _, _⟩ (by first | omega | (simp; omega) | simp)).trans (by assumption) | exact (World.cell?_alloc_lt _ _ ⟨_, _, _⟩ (by first | omega | (simp; omega) | simp)).trans ((World.cell?_alloc_lt _ _ ⟨_, _, _⟩ (by first | omega | (simp; omega) | simp)).trans (by assumption))); have mw53 : w5.cell? ⟨w.heap.size, 3, none⟩ = some (.int .i64 an) := (hb_w5.cell (p := ⟨w.heap.size, 3, none⟩) (by first | omega | (simp; omega) | simp)).trans (by first | assumption | (simp [go_sem]; done) | exact (World.cell?_alloc_lt _ _ ⟨_, _, _⟩ (by first | omega | (simp; omega) | simp)).trans (by assumption) | exact (World.cell?_alloc_lt _ _ ⟨_, _, _⟩ (by first | omega | (simp; omega) | simp)).trans ((World.cell?_alloc_lt _ _ ⟨_, _, _⟩ (by first | omega | (simp; omega) | simp)).trans (by assumption))); have mw54 : w5.cell? ⟨w.heap.size, 4, none⟩ = some (.slice As aw.length ca) := (hb_w5.cell (p := ⟨w.heap.size, 4, none⟩) (by first | omega | (simp; omega) | simp)).trans (by first | assumption | (simp [go_sem]; done) | exact (World.cell?_alloc_lt _ _ ⟨_, _, _⟩ (by first | omega | (simp; omega) | simp)).trans (by assumption) | exact (World.cell?_alloc_lt _ _ ⟨_, _, _⟩ (by first | omega | (simp; omega) | simp)).trans ((World.cell?_alloc_lt _ _ ⟨_, _, _⟩ (by first | omega | (simp; omega) | simp)).trans (by assumption))); have mw55 : w5.cell? ⟨w.heap.size, 5, none⟩ = some (.int .i64 mn) := (hb_w5.cell (p := ⟨w.heap.size, 5, none⟩) (by first | omega | (simp; omega) | simp)).trans (by first | assumption | (simp [go_sem]; done) | exact (World.cell?_alloc_lt _ _ ⟨_, _, _⟩ (by first | omega | (simp; omega) | simp)).trans (by assumption) | exact (World.cell?_alloc_lt _ _ ⟨_, _, _⟩ (by first | omega | (simp; omega) | simp)).trans ((World.cell?_alloc_lt _ _ ⟨_, _, _⟩ (by first | omega | (simp; omega) | simp)).trans (by assumption))); have mw56 : w5.cell? ⟨w.heap.size, 6, none⟩ = some (.slice Ms mw.length cm) := (hb_w5.cell (p := ⟨w.heap.size, 6, none⟩) (by first | omega | (simp; omega) | simp)).trans (by first | assumption | (simp [go_sem]; done) | exact (World.cell?_alloc_lt _ _ ⟨_, _, _⟩ (by first | omega | (simp; omega) | simp)).trans (by assumption) | exact (World.cell?_alloc_lt _ _ ⟨_, _, _⟩ (by first | omega | (simp; omega) | simp)).trans ((World.cell?_alloc_lt _ _ ⟨_, _, _⟩ (by first | omega | (simp; omega) | simp)).trans (by assumption))); have mw57 : w5.cell? ⟨w.heap.size, 7, none⟩ = some (.bool s) := (hb_w5.cell (p := ⟨w.heap.size, 7, none⟩) (by first | omega | (simp; omega) | simp)).trans (by first | assumption | (simp [go_sem]; done) | exact (World.cell?_alloc_lt _ _ ⟨_, _, _⟩ (by first | omega | (simp; omega) | simp)).trans (by assumption) | exact (World.cell?_alloc_lt _ _ ⟨_, _, _⟩ (by first | omega | (simp; omega) | simp)).trans ((World.cell?_alloc_lt _ _ ⟨_, _, _⟩ (by first | omega | (simp; omega) | simp)).trans (by assumption)))))
      all_goals
        go_wp2
        go_ret2
        exact ⟨A5, c5, us, rfl, h4, h5.mono (by first | omega | (simp; omega) | simp), (by repeat (first | exact Below.refl _ _ | assumption | (refine below_drewN ?_ _) | (refine Below.drew ?_) | (refine Below.alloc ?_ (by first | omega | (simp; omega) | simp) _) | (refine Below.setCell ?_ (by first | omega | (simp; omega) | simp) _) | (refine below_trans ?_ (by assumption) (by first | omega | (simp; omega) | simp))))⟩
    | some ad =>
      have j6 : (l.length : Int) ≤ (cap : Int) := by omega
      have j7 : (0 : Int) ≤ (l.length : Int) := by omega
      by_cases hcap : cap = l.length
      · subst hcap
        go_wp2_with fail
        go_region_held3 (fun X : World => X.cell? ⟨w.heap.size, 0, none⟩ = some (.int .i64 f) ∧ X.cell? ⟨w.heap.size, 1, none⟩ = some (.int .i64 p) ∧ X.cell? ⟨w.heap.size, 2, none⟩ = some (.int .i64 z) ∧ X.cell? ⟨w.heap.size, 3, none⟩ = some (.int .i64 an) ∧ X.cell? ⟨w.heap.size, 4, none⟩ = some (.slice As aw.length ca) ∧ X.cell? ⟨w.heap.size, 5, none⟩ = some (.int .i64 mn) ∧ X.cell? ⟨w.heap.size, 6, none⟩ = some (.slice Ms mw.length cm) ∧ X.cell? ⟨w.heap.size, 7, none⟩ = some (.bool s))
          (refine ⟨?_, ?_, ?_, ?_, ?_, ?_, ?_, ?_⟩ <;> first | assumption | exact (World.cell?_alloc_lt _ _ ⟨_, _, _⟩ (by first | omega | (simp; omega) | simp)).trans (by assumption) | exact (World.cell?_alloc_lt _ _ ⟨_, _, _⟩ (by first | omega | (simp; omega) | simp)).trans ((World.cell?_alloc_lt _ _ ⟨_, _, _⟩ (by first | omega | (simp; omega) | simp)).trans (by assumption)) | (simp [go_sem]; done))
          ((go_at_call 57; refine (HP.out _ _ (by repeat (first | exact Below.refl _ _ | assumption | (refine below_drewN ?_ _) | (refine Below.drew ?_) | (refine Below.alloc ?_ (by first | omega | (simp; omega) | simp) _) | (refine Below.setCell ?_ (by first | omega | (simp; omega) | simp) _) | (refine below_trans ?_ (by assumption) (by first | omega | (simp; omega) | simp)))) (HQ.out _ _ _ _ _ _ _ _ _ HT.out (HD0.out _) rfl HN0.out rfl)).mono ?_; rintro e w5 ⟨A5, c5, us, rfl, h4, h5, hb_w5⟩; have hs5 := hb_w5.size; (try simp only [World.size_alloc, World.size_drew] at hs5); have mw50 : w5.cell? ⟨w.heap.size, 0, none⟩ = some (.int .i64 f) := (hb_w5.cell (p := ⟨w.heap.size, 0, none⟩) (by first | omega | (simp; omega) | simp)).trans (by first | assumption | (simp [go_sem]; done) | exact (World.cell?_alloc_lt _ _ ⟨_, _, _⟩ (by first | omega | (simp; omega) | simp)).trans (by assumption) | exact (World.cell?_alloc_lt _ _ ⟨_, _, _⟩ (by first | omega | (simp; omega) | simp)).trans ((World.cell?_alloc_lt _ _ ⟨_, _, _⟩ (by first | omega | (simp; omega) | simp)).trans (by assumption))); have mw51 : w5.cell? ⟨w.heap.size, 1, none⟩ = some (.int .i64 p) := (hb_w5.cell (p := ⟨w.heap.size, 1, none⟩) (by first | omega | (simp; omega) | simp)).trans (by first | assumption | (simp [go_sem]; done) | exact (World.cell?_alloc_lt _ _ ⟨_, _, _⟩ (by first | omega | (simp; omega) | simp)).trans (by assumption) | exact (World.cell?_alloc_lt _ _ ⟨_, _, _⟩ (by first | omega | (simp; omega) | simp)).trans ((World.cell?_alloc_lt _ _ ⟨_, _, _⟩ (by first | omega | (simp; omega) | simp)).trans (by assumption))); have mw52 : w5.cell? ⟨w.heap.size, 2, none⟩ = some (.int .i64 z) := (hb_w5.cell (p := ⟨w.heap.size, 2, none⟩) (by first | omega | (simp; omega) | simp)).trans (by first | assumption | (simp [go_sem]; done) | exact (World.cell?_alloc_lt _ _ ⟨_, _, _⟩ (by first | omega | (simp; omega) | simp)).trans (by assumption) | exact (World.cell?_alloc_lt _ _ ⟨_, _, _⟩ (by first | omega | (simp; omega) | simp)).trans ((World.cell?_alloc_lt _ _ ⟨_, _, _⟩ (by first | omega | (simp; omega) | simp)).trans (by assumption))); have mw53 : w5.cell? ⟨w.heap.size, 3, none⟩ = some (.int .i64 an) := (hb_w5.cell (p := ⟨w.heap.size, 3, none⟩) (by first | omega | (simp; omega) | simp)).trans (by first | assumption | (simp [go_sem]; done) | exact (World.cell?_alloc_lt _ _ ⟨_, _, _⟩ (by first | omega | (simp; omega) | simp)).trans (by assumption) | exact (World.cell?_alloc_lt _ _ ⟨_, _, _⟩ (by first | omega | (simp; omega) | simp)).trans ((World.cell?_alloc_lt _ _ ⟨_, _, _⟩ (by first | omega | (simp; omega) | simp)).trans (by assumption))); have mw54 : w5.cell? ⟨w.heap.size, 4, none⟩ = some (.slice As aw.length ca) := (hb_w5.cell (p := ⟨w.heap.size, 4, none⟩) (by first | omega | (simp; omega) | simp)).trans (by first | assumption | (simp [go_sem]; done) | exact (World.cell?_alloc_lt _ _ ⟨_, _, _⟩ (by first | omega | (simp; omega) | simp)).trans (by assumption) | exact (World.cell?_alloc_lt _ _ ⟨_, _, _⟩ (by first | omega | (simp; omega) | simp)).trans ((World.cell?_alloc_lt _ _ ⟨_, _, _⟩ (by first | omega | (simp; omega) | simp)).trans (by assumption))); have mw55 : w5.cell? ⟨w.heap.size, 5, none⟩ = some (.int .i64 mn) := (hb_w5.cell (p := ⟨w.heap.size, 5, none⟩) (by first | omega | (simp; omega) | simp)).trans (by first | assumption | (simp [go_sem]; done) | exact (World.cell?_alloc_lt _ _ ⟨_, _, _⟩ (by first | omega | (simp; omega) | simp)).trans (by assumption) | exact (World.cell?_alloc_lt _ _ ⟨_, _, _⟩ (by first | omega | (simp; omega) | simp)).trans ((World.cell?_alloc_lt _ _ ⟨_, _, _⟩ (by first | omega | (simp; omega) | simp)).trans (by assumption))); have mw56 : w5.cell? ⟨w.heap.size, 6, none⟩ = some (.slice Ms mw.length cm) := (hb_w5.cell (p := ⟨w.heap.size, 6, none⟩) (by first | omega | (simp; omega) | simp)).trans (by first | assumption | (simp [go_sem]; done) | exact (World.cell?_alloc_lt _ _ ⟨_, _, _⟩ (by first | omega | (simp; omega) | simp)).trans (by assumption) | exact (World.cell?_alloc_lt _ _ ⟨_, _, _⟩ (by first | omega | (simp; omega) | simp)).trans ((World.cell?_alloc_lt _ _ ⟨_, _, _⟩ (by first | omega | (simp; omega) | simp)).trans (by assumption))); have mw57 : w5.cell? ⟨w.heap.size, 7, none⟩ = some (.bool s) := (hb_w5.cell (p := ⟨w.heap.size, 7, none⟩) (by first | omega | (simp; omega) | simp)).trans (by first | assumption | (simp [go_sem]; done) | exact (World.cell?_alloc_lt _ _ ⟨_, _, _⟩ (by first | omega | (simp; omega) | simp)).trans (by assumption) | exact (World.cell?_alloc_lt _ _ ⟨_, _, _⟩ (by first | omega | (simp; omega) | simp)).trans ((World.cell?_alloc_lt _ _ ⟨_, _, _⟩ (by first | omega | (simp; omega) | simp)).trans (by assumption)))))
        all_goals
          go_wp2
          go_ret2
          exact ⟨A5, c5, us, rfl, h4, h5.mono (by first | omega | (simp; omega) | simp), (by repeat (first | exact Below.refl _ _ | assumption | (refine below_drewN ?_ _) | (refine Below.drew ?_) | (refine Below.alloc ?_ (by first | omega | (simp; omega) | simp) _) | (refine Below.setCell ?_ (by first | omega | (simp; omega) | simp) _) | (refine below_trans ?_ (by assumption) (by first | omega | (simp; omega) | simp))))⟩
      · go_wp2_with fail
        go_region_held3 (fun X : World => X.cell? ⟨w.heap.size, 0, none⟩ = some (.int .i64 f) ∧ X.cell? ⟨w.heap.size, 1, none⟩ = some (.int .i64 p) ∧ X.cell? ⟨w.heap.size, 2, none⟩ = some (.int .i64 z) ∧ X.cell? ⟨w.heap.size, 3, none⟩ = some (.int .i64 an) ∧ X.cell? ⟨w.heap.size, 4, none⟩ = some (.slice As aw.length ca) ∧ X.cell? ⟨w.heap.size, 5, none⟩ = some (.int .i64 mn) ∧ X.cell? ⟨w.heap.size, 6, none⟩ = some (.slice Ms mw.length cm) ∧ X.cell? ⟨w.heap.size, 7, none⟩ = some (.bool s))
          (refine ⟨?_, ?_, ?_, ?_, ?_, ?_, ?_, ?_⟩ <;> first | assumption | exact (World.cell?_alloc_lt _ _ ⟨_, _, _⟩ (by first | omega | (simp; omega) | simp)).trans (by assumption) | exact (World.cell?_alloc_lt _ _ ⟨_, _, _⟩ (by first | omega | (simp; omega) | simp)).trans ((World.cell?_alloc_lt _ _ ⟨_, _, _⟩ (by first | omega | (simp; omega) | simp)).trans (by assumption)) | (simp [go_sem]; done))
          ((go_at_call 57; refine (HP.out _ _ (by repeat (first | exact Below.refl _ _ | assumption | (refine below_drewN ?_ _) | (refine Below.drew ?_) | (refine Below.alloc ?_ (by first | omega | (simp; omega) | simp) _) | (refine Below.setCell ?_ (by first | omega | (simp; omega) | simp) _) | (refine below_trans ?_ (by assumption) (by first | omega | (simp; omega) | simp)))) (HQ.out _ _ _ _ _ _ _ _ _ HT.out (HD0.out _) rfl HN0.out rfl)).mono ?_; rintro e w5 ⟨A5, c5, us, rfl, h4, h5, hb_w5⟩; have hs5 := hb_w5.size; (try simp only [World.size_alloc, World.size_drew] at hs5); have mw50 : w5.cell? ⟨w.heap.size, 0, none⟩ = some (.int .i64 f) := (hb_w5.cell (p := ⟨w.heap.size, 0, none⟩) (by first | omega | (simp; omega) | simp)).trans (by first | assumption | (simp [go_sem]; done) | exact (World.cell?_alloc_lt _ _ ⟨_, _, _⟩ (by first | omega | (simp; omega) | simp)).trans (by assumption) | exact (World.cell?_alloc_lt _ _ ⟨_, _, _⟩ (by first | omega | (simp; omega) | simp)).trans ((World.cell?_alloc_lt _ _ ⟨_, _, _⟩ (by first | omega | (simp; omega) | simp)).trans (by assumption))); have mw51 : w5.cell? ⟨w.heap.size, 1, none⟩ = some (.int .i64 p) := (hb_w5.cell (p := ⟨w.heap.size, 1, none⟩) (by first | omega | (simp; omega) | simp)).trans (by first | assumption | (simp [go_sem]; done) | exact (World.cell?_alloc_lt _ _ ⟨_, _, _⟩ (by first | omega | (simp; omega) | simp)).trans (by assumption) | exact (World.cell?_alloc_lt _ _ ⟨_, _, _⟩ (by first | omega | (simp; omega) | simp)).trans ((World.cell?_alloc_lt _ _ ⟨_, _, _⟩ (by first | omega | (simp; omega) | simp)).trans (by assumption))); have mw52 : w5.cell? ⟨w.heap.size, 2, none⟩ = some (.int .i64 z) := (hb_w5.cell (p := ⟨w.heap.size, 2, none⟩) (by first | omega | (simp; omega) | simp)).trans (by first | assumption | (simp [go_sem]; done) | exact (World.cell?_alloc_lt _ _ ⟨_, _, _⟩ (by first | omega | (simp; omega) | simp)).trans (by assumption) | exact (World.cell?_alloc_lt _ _ ⟨_, _, _⟩ (by first | omega | (simp; omega) | simp)).trans ((World.cell?_alloc_lt _ _ ⟨_, _, _⟩ (by first | omega | (simp; omega) | simp)).trans (by assumption))); have mw53 : w5.cell? ⟨w.heap.size, 3, none⟩ = some (.int .i64 an) := (hb_w5.cell (p := ⟨w.heap.size, 3, none⟩) (by first | omega | (simp; omega) | simp)).trans (by first | assumption | (simp [go_sem]; done) | exact (World.cell?_alloc_lt _ _ ⟨_, _, _⟩ (by first | omega | (simp; omega) | simp)).trans (by assumption) | exact (World.cell?_alloc_lt _ _ ⟨_, _, _⟩ (by first | omega | (simp; omega) | simp)).trans ((World.cell?_alloc_lt _ _ ⟨_, _, _⟩ (by first | omega | (simp; omega) | simp)).trans (by assumption))); have mw54 : w5.cell? ⟨w.heap.size, 4, none⟩ = some (.slice As aw.length ca) := (hb_w5.cell (p := ⟨w.heap.size, 4, none⟩) (by first | omega | (simp; omega) | simp)).trans (by first | assumption | (simp [go_sem]; done) | exact (World.cell?_alloc_lt _ _ ⟨_, _, _⟩ (by first | omega | (simp; omega) | simp)).trans (by assumption) | exact (World.cell?_alloc_lt _ _ ⟨_, _, _⟩ (by first | omega | (simp; omega) | simp)).trans ((World.cell?_alloc_lt _ _ ⟨_, _, _⟩ (by first | omega | (simp; omega) | simp)).trans (by assumption))); have mw55 : w5.cell? ⟨w.heap.size, 5, none⟩ = some (.int .i64 mn) := (hb_w5.cell (p := ⟨w.heap.size, 5, none⟩) (by first | omega | (simp; omega) | simp)).trans (by first | assumption | (simp [go_sem]; done) | exact (World.cell?_alloc_lt _ _ ⟨_, _, _⟩ (by first | omega | (simp; omega) | simp)).trans (by assumption) | exact (World.cell?_alloc_lt _ _ ⟨_, _, _⟩ (by first | omega | (simp; omega) | simp)).trans ((World.cell?_alloc_lt _ _ ⟨_, _, _⟩ (by first | omega | (simp; omega) | simp)).trans (by assumption))); have mw56 : w5.cell? ⟨w.heap.size, 6, none⟩ = some (.slice Ms mw.length cm) := (hb_w5.cell (p := ⟨w.heap.size, 6, none⟩) (by first | omega | (simp; omega) | simp)).trans (by first | assumption | (simp [go_sem]; done) | exact (World.cell?_alloc_lt _ _ ⟨_, _, _⟩ (by first | omega | (simp; omega) | simp)).trans (by assumption) | exact (World.cell?_alloc_lt _ _ ⟨_, _, _⟩ (by first | omega | (simp; omega) | simp)).trans ((World.cell?_alloc_lt _ _ ⟨_, _, _⟩ (by first | omega | (simp; omega) | simp)).trans (by assumption))); have mw57 : w5.cell? ⟨w.heap.size, 7, none⟩ = some (.bool s) := (hb_w5.cell (p := ⟨w.heap.size, 7, none⟩) (by first | omega | (simp; omega) | simp)).trans (by first | assumption | (simp [go_sem]; done) | exact (World.cell?_alloc_lt _ _ ⟨_, _, _⟩ (by first | omega | (simp; omega) | simp)).trans (by assumption) | exact (World.cell?_alloc_lt _ _ ⟨_, _, _⟩ (by first | omega | (simp; omega) | simp)).trans ((World.cell?_alloc_lt _ _ ⟨_, _, _⟩ (by first | omega | (simp; omega) | simp)).trans (by assumption)))))
        all_goals
          go_wp2
          go_ret2
          exact ⟨A5, c5, us, rfl, h4, h5.mono (by first | omega | (simp; omega) | simp), (by repeat (first | exact Below.refl _ _ | assumption | (refine below_drewN ?_ _) | (refine Below.drew ?_) | (refine Below.alloc ?_ (by first | omega | (simp; omega) | simp) _) | (refine Below.setCell ?_ (by first | omega | (simp; omega) | simp) _) | (refine below_trans ?_ (by assumption) (by first | omega | (simp; omega) | simp))))⟩
end
end Go.Proofs.Ythphefoohkofbaa

/- Add of spans, whole. -/
namespace Go.Proofs.Ythphefoohkofbaa
open Go.RowKit
set_option linter.unusedVariables false
set_option linter.unusedSimpArgs false

section
variable {w : World} {A As Ms : Option Addr} {l : List Sd} (cap ca cm : Nat)
theorem sadd_any (hr : SRow w w.heap.size A l) (hcl : l.length ≤ cap) (hl : l.length ≤ 17592186044416) (hnil : A = none → cap = 0) (d : Sd) (hA : Row w w.heap.size As d.aw) (hM : Row w w.heap.size Ms d.mw) (r : List Sd) (y : Int) (hE : AddE l d r y) :
    Calls Try.prog 26 #[.slice A l.length cap, spv d As ca Ms cm] w fun e w' => FreshL5 w r y e w' := by
  rcases hE with ⟨h, rfl, rfl⟩ | ⟨h, h1, rfl, rfl⟩ | ⟨n, h, h1, hn, hh⟩
  · exact sadd_bad cap ca cm hr hl d hA hM (.inl h)
  · exact sadd_bad cap ca cm hr hl d hA hM (.inr ⟨h, h1⟩)
  · rcases hn with ⟨hI, rfl⟩ | hI
    · rcases hh with ⟨hc, rfl, rfl⟩ | ⟨hc, h256, rfl, rfl⟩ | ⟨hc, h256, rfl, rfl⟩
      · exact absurd hc.1 (Nat.lt_irrefl _)
      · exact sadd_fulle cap ca cm hr hcl hnil d hA hM h h1 hI h256
      · exact sadd_pute cap ca cm hr hcl hnil d hA hM h h1 hI h256 _ rfl
    · rcases hh with ⟨hc, rfl, rfl⟩ | ⟨hc, h256, rfl, rfl⟩ | ⟨hc, h256, rfl, rfl⟩
      · exact sadd_clash cap ca cm hr hcl hnil d hA hM h h1 n hI hc.2
      · exact sadd_fullm cap ca cm hr hcl hnil d hA hM h h1 n hI (fun h2 => hc ⟨hI.lt, h2⟩) h256
      · exact sadd_putm cap ca cm hr hcl hnil d hA hM h h1 n hI (fun h2 => hc ⟨hI.lt, h2⟩) h256 _ rfl
end
end Go.Proofs.Ythphefoohkofbaa
