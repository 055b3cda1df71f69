/- Contracts of package span: a new span. -/
import Derived.Test.YtbefjhgegoginaaDoorS5
namespace Go.Proofs.YtbefjhgegoginaaDoor
open Go.RowKit
set_option linter.unusedVariables false
set_option linter.unusedSimpArgs false

theorem res_span {fn : Func} {p u : Tmp} (h : fn.results = #[.cell p 35, .tmp u]) {tmps : Array Value} {w : World} {g ca cm : Nat} {d : Sd} {A M : Option Addr} (hp : tmps.getD p undef = .pointer (some ⟨g, 0, none⟩))
    (h8 : Sp8 w g 0 d A ca M cm) : (results fn tmps).run Tryd.prog w = .ok (.tuple #[spv d A ca M cm, tmps.getD u undef]) w := by
  rw [results_cell_tmp h, hp]
  obtain ⟨c0, c1, c2, c3, c4, c5, c6, c7⟩ := h8
  simp only [Nat.zero_add] at c0 c1 c2 c3 c4 c5 c6 c7
  simp [go_sem, Result.andThen, c0, c1, c2, c3, c4, c5, c6, c7, asAddr, spv]
theorem Sp8.far {w : World} {g o ca cm : Nat} {d : Sd} {A M : Option Addr} (h : Sp8 w g o d A ca M cm) {p : Addr} (hp : p.block ≠ g) (u : Value) : Sp8 (w.setCell p u) g o d A ca M cm := by
  have k : ∀ i v, w.cell? ⟨g, i, none⟩ = some v → (w.setCell p u).cell? ⟨g, i, none⟩ = some v := fun i v hv => by
    rw [World.cell?_setCell_other]
    · exact hv
    · rintro rfl; exact hp rfl
  exact ⟨k _ _ h.c0, k _ _ h.c1, k _ _ h.c2, k _ _ h.c3, k _ _ h.c4, k _ _ h.c5, k _ _ h.c6, k _ _ h.c7⟩
theorem Sp8.set {w : World} {g ca cm ca' cm' : Nat} {d d' : Sd} {A M A' M' : Option Addr} (h : Sp8 w g 0 d A ca M cm) :
    Sp8 ((((((((w.setCell ⟨g, 0, none⟩ (.int .i64 d'.f)).setCell ⟨g, 1, none⟩ (.int .i64 d'.p)).setCell ⟨g, 2, none⟩ (.int .i64 d'.z)).setCell ⟨g, 3, none⟩ (.int .i64 d'.an)).setCell ⟨g, 4, none⟩ (.slice A' d'.aw.length ca')).setCell ⟨g, 5, none⟩ (.int .i64 d'.mn)).setCell ⟨g, 6, none⟩ (.slice M' d'.mw.length cm')).setCell ⟨g, 7, none⟩ (.bool d'.s)) g 0 d' A' ca' M' cm' := by
  obtain ⟨c0, c1, c2, c3, c4, c5, c6, c7⟩ := h
  simp only [Nat.zero_add] at c0 c1 c2 c3 c4 c5 c6 c7
  constructor <;> simp [go_sem, c0, c1, c2, c3, c4, c5, c6, c7]
/-- the span that Make makes -/
def newSd (f p z : Int) : Sd := ⟨f, p, z, slotsOf z, wordsN (slotsOf z), slotsOf z, wordsN (slotsOf z), true⟩
/-- a span of a call's own, and an error's number -/
def FreshS (w : World) (d : Sd) (y : Int) (e : Ending) (w' : World) : Prop :=
  ∃ A ca M cm, e = .returned (.tuple #[spv d A ca M cm, .int .i64 y]) ∧ Own w' w.heap.size A d.aw ∧ Own w' w.heap.size M d.mw ∧ Below w.heap.size w w'
section
variable {w : World} (f p z : Int)
set_option maxHeartbeats 1000000 in
theorem sMake_ok (h1 : Sized p z) (h2 : Placed f p) : Calls Tryd.prog 9 #[.int .i64 f, .int .i64 p, .int .i64 z] w fun e w' => FreshS w (newSd f p z) 0 e w' := by
  have hs := h1.slots
  have Z := Lib.hid fun (w : World) => ssized_any (w := w) ⟨f, p, z, 0, [], 0, [], true⟩ none 0 none 0 true (decide_eq_true h1)
  have P := Lib.hid fun (w : World) => splaced_any (w := w) ⟨f, p, z, 0, [], 0, [], true⟩ none 0 none 0 (by simp only; omega) true (decide_eq_true h2)
  have S1 := Lib.hid fun (w : World) => sslots_any (w := w) ⟨f, p, z, 0, [], 0, [], true⟩ none 0 none 0 h1
  have S2 := Lib.hid fun (w : World) A ca n (ws : List Nat) => sslots_any (w := w) ⟨f, p, z, n, ws, 0, [], true⟩ A ca none 0 h1
  have K := Lib.hid fun (w : World) => make_ok (slotsOf z) w (by omega) (by omega)
  unfold FreshS newSd
  clear h1 h2
  unfold spv at *
  simp only [List.length_nil] at *
  generalize slotsOf z = n at *
  unfold Fresh at K
  generalize wordsN n = ws at *
  go_enter Tryd.func9, Tryd.ntmps9
  go_wp2_with fail
  go_at_call 17
  refine (Z.out _).mono ?_
  rintro e w1 ⟨rfl, hb_w1⟩
  obtain ⟨hc_w1, hf_w1⟩ := bcell hb_w1; have hz_w1_w_0 : w.heap.size < w1.heap.size := (by have hzz := hb_w1.size; (try simp only [World.size_alloc, World.size_setCell, World.size_drew, World.heap_drewN] at hzz); omega); have hz_w1_w_1 : w.heap.size + 1 < w1.heap.size := (by have hzz := hb_w1.size; (try simp only [World.size_alloc, World.size_setCell, World.size_drew, World.heap_drewN] at hzz); omega); have hs_w1 := hb_w1.size; (try simp only [World.size_alloc, World.size_setCell, World.size_drew, World.heap_drewN] at hs_w1)
  have Z1 : Sp8 w1 w.heap.size 0 sd0 none 0 none 0 := by constructor <;> exact (hc_w1 _ _ (by first | omega | (simp; omega) | simp)).trans (by simp [go_sem, sd0])
  go_wp2_with fail
  go_at_call 18
  refine (P.out _).mono ?_
  rintro e w2 ⟨rfl, hb_w2⟩
  obtain ⟨hc_w2, hf_w2⟩ := bcell hb_w2; have hz_w2_w_0 : w.heap.size < w2.heap.size := (by have hzz := hb_w2.size; (try simp only [World.size_alloc, World.size_setCell, World.size_drew, World.heap_drewN] at hzz); omega); have hz_w2_w_1 : w.heap.size + 1 < w2.heap.size := (by have hzz := hb_w2.size; (try simp only [World.size_alloc, World.size_setCell, World.size_drew, World.heap_drewN] at hzz); omega); have hs_w2 := hb_w2.size; (try simp only [World.size_alloc, World.size_setCell, World.size_drew, World.heap_drewN] at hs_w2)
  go_wp2_with fail
  go_at_call 19
  refine (S1.out _).mono ?_
  rintro e w3 ⟨rfl, hb_w3⟩
  obtain ⟨hc_w3, hf_w3⟩ := bcell hb_w3; have hz_w3_w_0 : w.heap.size < w3.heap.size := (by have hzz := hb_w3.size; (try simp only [World.size_alloc, World.size_setCell, World.size_drew, World.heap_drewN] at hzz); omega); have hz_w3_w_1 : w.heap.size + 1 < w3.heap.size := (by have hzz := hb_w3.size; (try simp only [World.size_alloc, World.size_setCell, World.size_drew, World.heap_drewN] at hzz); omega); have hs_w3 := hb_w3.size; (try simp only [World.size_alloc, World.size_setCell, World.size_drew, World.heap_drewN] at hs_w3)
  go_wp2_with fail
  go_at_call 14
  refine (K.out _).mono ?_
  rintro e w4 ⟨A4, ca4, rfl, ho4, hb_w4⟩
  obtain ⟨hc_w4, hf_w4⟩ := bcell hb_w4; have hz_w4_w_0 : w.heap.size < w4.heap.size := (by have hzz := hb_w4.size; (try simp only [World.size_alloc, World.size_setCell, World.size_drew, World.heap_drewN] at hzz); omega); have hz_w4_w_1 : w.heap.size + 1 < w4.heap.size := (by have hzz := hb_w4.size; (try simp only [World.size_alloc, World.size_setCell, World.size_drew, World.heap_drewN] at hzz); omega); have hs_w4 := hb_w4.size; (try simp only [World.size_alloc, World.size_setCell, World.size_drew, World.heap_drewN] at hs_w4)
  go_wp2_with fail
  go_at_call 19
  refine (S2.out _ A4 ca4 n ws).mono ?_
  rintro e w5 ⟨rfl, hb_w5⟩
  obtain ⟨hc_w5, hf_w5⟩ := bcell hb_w5; have hz_w5_w_0 : w.heap.size < w5.heap.size := (by have hzz := hb_w5.size; (try simp only [World.size_alloc, World.size_setCell, World.size_drew, World.heap_drewN] at hzz); omega); have hz_w5_w_1 : w.heap.size + 1 < w5.heap.size := (by have hzz := hb_w5.size; (try simp only [World.size_alloc, World.size_setCell, World.size_drew, World.heap_drewN] at hzz); omega); have hs_w5 := hb_w5.size; (try simp only [World.size_alloc, World.size_setCell, World.size_drew, World.heap_drewN] at hs_w5)
  go_wp2_with fail
  go_at_call 14
  refine (K.out _).mono ?_
  rintro e w6 ⟨A6, ca6, rfl, ho6, hb_w6⟩
  obtain ⟨hc_w6, hf_w6⟩ := bcell hb_w6; have hz_w6_w_0 : w.heap.size < w6.heap.size := (by have hzz := hb_w6.size; (try simp only [World.size_alloc, World.size_setCell, World.size_drew, World.heap_drewN] at hzz); omega); have hz_w6_w_1 : w.heap.size + 1 < w6.heap.size := (by have hzz := hb_w6.size; (try simp only [World.size_alloc, World.size_setCell, World.size_drew, World.heap_drewN] at hzz); omega); have hs_w6 := hb_w6.size; (try simp only [World.size_alloc, World.size_setCell, World.size_drew, World.heap_drewN] at hs_w6)
  have bW : Below w.heap.size w w6 := (by repeat (first | exact Below.refl _ _ | assumption | (refine below_drewN ?_ _) | (refine Below.drew ?_) | (refine Below.alloc ?_ (by first | omega | (simp; omega) | simp) _) | (refine Below.setCell ?_ (by first | omega | (simp; omega) | simp) _) | (refine below_trans ?_ (by assumption) (by first | omega | (simp; omega) | simp))))
  have Z4 := ((Z1.below hb_w2 (by first | omega | (simp; omega) | simp)).below hb_w3 (by first | omega | (simp; omega) | simp)).below hb_w4 (by first | omega | (simp; omega) | simp)
  have Z6 := ((((Z4.far (p := ⟨w.heap.size + 1, 3, none⟩) (by simp) (.int .i64 n)).far (p := ⟨w.heap.size + 1, 4, none⟩) (by simp) (.slice A4 ws.length ca4)).below hb_w5 (by first | omega | (simp; omega) | simp)).below hb_w6 (by first | omega | (simp; omega) | simp))
  have O5 := ((ho4.far (p := ⟨w.heap.size + 1, 3, none⟩) (.inl (by first | omega | (simp; omega) | simp)) (.int .i64 n)).far (p := ⟨w.heap.size + 1, 4, none⟩) (.inl (by first | omega | (simp; omega) | simp)) (.slice A4 ws.length ca4)).later hb_w5
  have O6 := O5.later hb_w6
  go_wp2
  have Z7 := (Z6.far (p := ⟨w.heap.size + 1, 5, none⟩) (by simp) (.int .i64 n)).far (p := ⟨w.heap.size + 1, 6, none⟩) (by simp) (.slice A6 ws.length ca6)
  have Z8 := Z7.set (d' := ⟨f, p, z, n, ws, n, ws, true⟩) (A' := A4) (ca' := ca4) (M' := A6) (cm' := ca6)
  refine bodyPost_ret (res_span rfl rfl Z8) rfl ⟨A4, ca4, A6, ca6, rfl, ?_, ?_, ?_⟩
  · refine Own.mono (B := w3.heap.size) ?_ (by first | omega | (simp; omega) | simp)
    iterate 10 (refine Own.far ?_ (.inl (by first | omega | (simp; omega) | simp)) _)
    exact O6
  · refine Own.mono (B := w5.heap.size) ?_ (by first | omega | (simp; omega) | simp)
    iterate 10 (refine Own.far ?_ (.inl (by first | omega | (simp; omega) | simp)) _)
    exact ho6
  · iterate 10 (refine Below.setCell ?_ (by first | omega | (simp; omega) | simp) _)
    exact bW
theorem sMake_bad (h : ¬ (Sized p z ∧ Placed f p)) : Calls Tryd.prog 9 #[.int .i64 f, .int .i64 p, .int .i64 z] w fun e w' => FreshS w sd0 2 e w' := by
  by_cases h1 : Sized p z
  · have hs := h1.slots
    have Z := Lib.hid fun (w : World) => ssized_any (w := w) ⟨f, p, z, 0, [], 0, [], true⟩ none 0 none 0 true (decide_eq_true h1)
    have P := Lib.hid fun (w : World) => splaced_any (w := w) ⟨f, p, z, 0, [], 0, [], true⟩ none 0 none 0 (by simp only; omega) false (decide_eq_false fun h2 => h ⟨h1, h2⟩)
    unfold FreshS
    clear h1 h hs
    unfold spv at Z P
    simp only [List.length_nil] at Z P
    go_enter Tryd.func9, Tryd.ntmps9
    go_wp2_with fail
    go_at_call 17
    refine (Z.out _).mono ?_
    rintro e w1 ⟨rfl, hb_w1⟩
    obtain ⟨hc_w1, hf_w1⟩ := bcell hb_w1; have hz_w1_w_0 : w.heap.size < w1.heap.size := (by have hzz := hb_w1.size; (try simp only [World.size_alloc, World.size_setCell, World.size_drew, World.heap_drewN] at hzz); omega); have hz_w1_w_1 : w.heap.size + 1 < w1.heap.size := (by have hzz := hb_w1.size; (try simp only [World.size_alloc, World.size_setCell, World.size_drew, World.heap_drewN] at hzz); omega); have hs_w1 := hb_w1.size; (try simp only [World.size_alloc, World.size_setCell, World.size_drew, World.heap_drewN] at hs_w1)
    have Z1 : Sp8 w1 w.heap.size 0 sd0 none 0 none 0 := by constructor <;> exact (hc_w1 _ _ (by first | omega | (simp; omega) | simp)).trans (by simp [go_sem, sd0])
    go_wp2_with fail
    go_at_call 18
    refine (P.out _).mono ?_
    rintro e w2 ⟨rfl, hb_w2⟩
    obtain ⟨hc_w2, hf_w2⟩ := bcell hb_w2; have hz_w2_w_0 : w.heap.size < w2.heap.size := (by have hzz := hb_w2.size; (try simp only [World.size_alloc, World.size_setCell, World.size_drew, World.heap_drewN] at hzz); omega); have hz_w2_w_1 : w.heap.size + 1 < w2.heap.size := (by have hzz := hb_w2.size; (try simp only [World.size_alloc, World.size_setCell, World.size_drew, World.heap_drewN] at hzz); omega); have hs_w2 := hb_w2.size; (try simp only [World.size_alloc, World.size_setCell, World.size_drew, World.heap_drewN] at hs_w2)
    have bW : Below w.heap.size w w2 := (by repeat (first | exact Below.refl _ _ | assumption | (refine below_drewN ?_ _) | (refine Below.drew ?_) | (refine Below.alloc ?_ (by first | omega | (simp; omega) | simp) _) | (refine Below.setCell ?_ (by first | omega | (simp; omega) | simp) _) | (refine below_trans ?_ (by assumption) (by first | omega | (simp; omega) | simp))))
    have Z2 := Z1.below hb_w2 (by first | omega | (simp; omega) | simp)
    go_wp2
    refine bodyPost_ret (res_span rfl rfl (Z2.set (d' := sd0) (A' := none) (ca' := 0) (M' := none) (cm' := 0))) rfl ⟨none, 0, none, 0, rfl, Own.nil _ _, Own.nil _ _, ?_⟩
    iterate 8 (refine Below.setCell ?_ (by first | omega | (simp; omega) | simp) _)
    exact bW
  · have Z := Lib.hid fun (w : World) => ssized_any (w := w) ⟨f, p, z, 0, [], 0, [], true⟩ none 0 none 0 false (decide_eq_false h1)
    unfold FreshS
    clear h1 h
    unfold spv at Z
    simp only [List.length_nil] at Z
    go_enter Tryd.func9, Tryd.ntmps9
    go_wp2_with fail
    go_at_call 17
    refine (Z.out _).mono ?_
    rintro e w1 ⟨rfl, hb_w1⟩
    obtain ⟨hc_w1, hf_w1⟩ := bcell hb_w1; have hz_w1_w_0 : w.heap.size < w1.heap.size := (by have hzz := hb_w1.size; (try simp only [World.size_alloc, World.size_setCell, World.size_drew, World.heap_drewN] at hzz); omega); have hz_w1_w_1 : w.heap.size + 1 < w1.heap.size := (by have hzz := hb_w1.size; (try simp only [World.size_alloc, World.size_setCell, World.size_drew, World.heap_drewN] at hzz); omega); have hs_w1 := hb_w1.size; (try simp only [World.size_alloc, World.size_setCell, World.size_drew, World.heap_drewN] at hs_w1)
    have Z1 : Sp8 w1 w.heap.size 0 sd0 none 0 none 0 := by constructor <;> exact (hc_w1 _ _ (by first | omega | (simp; omega) | simp)).trans (by simp [go_sem, sd0])
    have bW : Below w.heap.size w w1 := (by repeat (first | exact Below.refl _ _ | assumption | (refine below_drewN ?_ _) | (refine Below.drew ?_) | (refine Below.alloc ?_ (by first | omega | (simp; omega) | simp) _) | (refine Below.setCell ?_ (by first | omega | (simp; omega) | simp) _) | (refine below_trans ?_ (by assumption) (by first | omega | (simp; omega) | simp))))
    go_wp2
    refine bodyPost_ret (res_span rfl rfl (Z1.set (d' := sd0) (A' := none) (ca' := 0) (M' := none) (cm' := 0))) rfl ⟨none, 0, none, 0, rfl, Own.nil _ _, Own.nil _ _, ?_⟩
    iterate 8 (refine Below.setCell ?_ (by first | omega | (simp; omega) | simp) _)
    exact bW
end
end Go.Proofs.YtbefjhgegoginaaDoor
