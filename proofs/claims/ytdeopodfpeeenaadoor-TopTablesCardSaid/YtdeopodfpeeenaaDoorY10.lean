/- Contract of package ephem: Put. -/
import Derived.Test.YtdeopodfpeeenaaDoorY9
namespace Go.Proofs.YtdeopodfpeeenaaDoor
open Go.RowKit
set_option linter.unusedVariables false
set_option linter.unusedSimpArgs false

/-- a box of one cell that may be written -/
structure Bx (w : World) (b : Nat) (v : Value) : Prop where
  c : w.cell? ⟨b, 0, none⟩ = some v
  f : w.frozen? ⟨b, 0, none⟩ = false
theorem Bx.lt {w : World} {b : Nat} {v : Value} (h : Bx w b v) : b < w.heap.size := World.block_lt_of_cell? w _ h.c
theorem Bx.later {w w' : World} {b : Nat} {v : Value} (h : Bx w b v) (hb : Below w.heap.size w w') : Bx w' b v := ⟨((bcell hb).1 _ _ h.lt).trans h.c, ((bcell hb).2 _ _ h.lt).trans h.f⟩
theorem Bx.alloc {w : World} {b : Nat} {v : Value} (h : Bx w b v) (o : Obj) : Bx (w.alloc o) b v := h.later ((Below.refl _ _).alloc (Nat.le_refl _) _)
theorem Bx.new (w : World) (v : Value) (t : TypeId) : Bx (w.alloc (.cells #[v] t)) w.heap.size v := ⟨by simp, by simp⟩
theorem Bx.set {w : World} {b : Nat} {v : Value} (h : Bx w b v) (u : Value) : Bx (w.setCell ⟨b, 0, none⟩ u) b u := ⟨World.cell?_setCell_same _ _ _ h.c, by rw [World.frozen?_setCell]; exact h.f⟩
theorem Bx.far {w : World} {b : Nat} {v : Value} (h : Bx w b v) {p : Addr} (hp : p.block ≠ b) (u : Value) : Bx (w.setCell p u) b v := ⟨(World.cell?_setCell_other _ _ _ _ (by rintro rfl; exact hp rfl)).trans h.c, by rw [World.frozen?_setCell]; exact h.f⟩
theorem Bx.grown {w w' : World} {b g : Nat} {v : Value} (h : Bx w b v) (hg : w.grownBy w' (some g)) (hp : b ≠ g) : Bx w' b v :=
  ⟨(World.cell?_of_block (hg.block b h.lt (fun e => by injection e with e; exact hp e))).trans h.c, (World.frozen?_of_block (hg.block b h.lt (fun e => by injection e with e; exact hp e))).trans h.f⟩
def PutR (w : World) (r : List Es) (y : Int) (e : Ending) (w' : World) : Prop := ∃ (B : Option Addr) (cb : Nat), e = .returned (.tuple #[eph B r.length cb, .int .i64 y]) ∧ ETab w' w.heap.size B cb r ∧ Below w.heap.size w w'
section
variable {w : World} {A : Option Addr} {l : List Es} (cap : Nat)
set_option maxHeartbeats 4000000 in
theorem eput_any (hT : Tz w) (hr : ERow w w.heap.size A l) (hl : l.length ≤ 5864062014805) (hn : A = none → cap = 0) (key val : Nat) (hkey : key < W64) (hval : val < W64) (r : List Es) (y : Int) (hE : PutT l key val r y) :
    Calls Tryd.prog 5 #[eph A l.length cap, .int .u64 (key : Nat), .int .u64 (val : Nat)] w fun e w' => PutR w r y e w' := by
  unfold PutR
  have HTW := Lib.hid fun (w : World) hr => etwin_any (w := w) (A := A) (l := l) cap hr hl hn
  unfold TwinE at HTW
  rcases hE with ⟨hok, rfl, rfl⟩ | ⟨hok, rfl, rfl, rfl⟩ | ⟨hok, h0, hf, rfl, rfl⟩ | ⟨hok, h0, hf, hacc, rfl, rfl⟩ | ⟨hok, h0, hf, hacc, hsz, rfl, rfl⟩ | ⟨hok, h0, hf, hacc, hsz, rfl, rfl⟩
  · have HV := Lib.hid fun (w : World) hT hr => eview_any (w := w) (A := A) (l := l) cap hT hr hl hn _ _ (.inr ⟨hok, rfl, rfl⟩)
    clear hok
    unfold eph wrk at *
    go_enter Tryd.func5, Tryd.ntmps5
    go_wp2_with fail
    go_at_call 15
    refine (HV.out _ (hT.later (by repeat (first | exact Below.refl _ _ | assumption | (refine below_drewN ?_ _) | (refine Below.drew ?_) | (refine Below.alloc ?_ (by first | omega | (simp; omega) | simp) _) | (refine Below.setCell ?_ (by first | omega | (simp; omega) | simp) _) | (refine below_trans ?_ (by assumption) (by first | omega | (simp; omega) | simp))))) (hr.later (by repeat (first | exact Below.refl _ _ | assumption | (refine below_drewN ?_ _) | (refine Below.drew ?_) | (refine Below.alloc ?_ (by first | omega | (simp; omega) | simp) _) | (refine Below.setCell ?_ (by first | omega | (simp; omega) | simp) _) | (refine below_trans ?_ (by assumption) (by first | omega | (simp; omega) | simp)))))).mono ?_
    rintro e w1 ⟨rfl, hb_w1⟩
    obtain ⟨hc_w1, hf_w1⟩ := bcell hb_w1; have hz_w1_w_0 : w.heap.size < w1.heap.size := (by have hzz := hb_w1.size; (try simp only [World.size_alloc, World.size_setCell, World.size_drew, World.heap_drewN] at hzz); omega); have hz_w1_w_1 : w.heap.size + 1 < w1.heap.size := (by have hzz := hb_w1.size; (try simp only [World.size_alloc, World.size_setCell, World.size_drew, World.heap_drewN] at hzz); omega); have hs_w1 := hb_w1.size; (try simp only [World.size_alloc, World.size_setCell, World.size_drew, World.heap_drewN] at hs_w1)
    obtain ⟨q0, q1⟩ := ((Bx.new (w.alloc _) _ _).later hb_w1 : Bx w1 _ _)
    simp only [World.size_alloc] at q0 q1
    clear hc_w1 hf_w1
    go_wp2
    exact bodyPost_ret (res_p2 rfl rfl (g := w.heap.size + 1) (v0 := .slice none 0 0) (by first | exact World.cell?_setCell_same _ _ _ q0 | exact World.cell?_setCell_same _ _ _ (by first | exact q0 | (exact (World.cell?_alloc_lt _ _ ⟨_, _, _⟩ (by first | omega | (simp; omega) | simp)).trans q0) | (exact (World.cell?_alloc_lt _ _ ⟨_, _, _⟩ (by first | omega | (simp; omega) | simp)).trans ((World.cell?_alloc_lt _ _ ⟨_, _, _⟩ (by first | omega | (simp; omega) | simp)).trans q0)) | (simp [go_sem, q0]; done)) | exact (World.cell?_alloc_lt _ _ ⟨_, _, _⟩ (by first | omega | (simp; omega) | simp)).trans (World.cell?_setCell_same _ _ _ q0) | (simp [go_sem, q0]; done))) rfl ⟨none, 0, rfl, ETab.nil _ _, (by repeat (first | exact Below.refl _ _ | assumption | (refine below_drewN ?_ _) | (refine Below.drew ?_) | (refine Below.alloc ?_ (by first | omega | (simp; omega) | simp) _) | (refine Below.setCell ?_ (by first | omega | (simp; omega) | simp) _) | (refine below_trans ?_ (by assumption) (by first | omega | (simp; omega) | simp))))⟩
  · have HV := Lib.hid fun (w : World) hT hr => eview_any (w := w) (A := A) (l := r) cap hT hr hl hn _ _ (.inl ⟨hok, rfl, rfl⟩)
    clear hok
    unfold eph wrk at *
    go_enter Tryd.func5, Tryd.ntmps5
    go_wp2_with fail
    go_at_call 15
    refine (HV.out _ (hT.later (by repeat (first | exact Below.refl _ _ | assumption | (refine below_drewN ?_ _) | (refine Below.drew ?_) | (refine Below.alloc ?_ (by first | omega | (simp; omega) | simp) _) | (refine Below.setCell ?_ (by first | omega | (simp; omega) | simp) _) | (refine below_trans ?_ (by assumption) (by first | omega | (simp; omega) | simp))))) (hr.later (by repeat (first | exact Below.refl _ _ | assumption | (refine below_drewN ?_ _) | (refine Below.drew ?_) | (refine Below.alloc ?_ (by first | omega | (simp; omega) | simp) _) | (refine Below.setCell ?_ (by first | omega | (simp; omega) | simp) _) | (refine below_trans ?_ (by assumption) (by first | omega | (simp; omega) | simp)))))).mono ?_
    rintro e w1 ⟨rfl, hb_w1⟩
    obtain ⟨hc_w1, hf_w1⟩ := bcell hb_w1; have hz_w1_w_0 : w.heap.size < w1.heap.size := (by have hzz := hb_w1.size; (try simp only [World.size_alloc, World.size_setCell, World.size_drew, World.heap_drewN] at hzz); omega); have hz_w1_w_1 : w.heap.size + 1 < w1.heap.size := (by have hzz := hb_w1.size; (try simp only [World.size_alloc, World.size_setCell, World.size_drew, World.heap_drewN] at hzz); omega); have hs_w1 := hb_w1.size; (try simp only [World.size_alloc, World.size_setCell, World.size_drew, World.heap_drewN] at hs_w1)
    have b1 : Below w.heap.size w w1 := (by repeat (first | exact Below.refl _ _ | assumption | (refine below_drewN ?_ _) | (refine Below.drew ?_) | (refine Below.alloc ?_ (by first | omega | (simp; omega) | simp) _) | (refine Below.setCell ?_ (by first | omega | (simp; omega) | simp) _) | (refine below_trans ?_ (by assumption) (by first | omega | (simp; omega) | simp))))
    have Q := ((Bx.new (w.alloc _) _ _).later hb_w1 : Bx w1 _ _)
    simp only [World.size_alloc] at Q
    clear hc_w1 hf_w1
    go_wp2_with fail
    go_at_call 16
    refine (HTW.out _ ((hr.later b1).later (by repeat (first | exact Below.refl _ _ | assumption | (refine below_drewN ?_ _) | (refine Below.drew ?_) | (refine Below.alloc ?_ (by first | omega | (simp; omega) | simp) _) | (refine Below.setCell ?_ (by first | omega | (simp; omega) | simp) _) | (refine below_trans ?_ (by assumption) (by first | omega | (simp; omega) | simp)))))).mono ?_
    rintro e w2 ⟨B2, c2, rfl, o2, hb_w2⟩
    obtain ⟨hc_w2, hf_w2⟩ := bcell hb_w2; have hz_w2_w1_0 : w1.heap.size < w2.heap.size := (by have hzz := hb_w2.size; (try simp only [World.size_alloc, World.size_setCell, World.size_drew, World.heap_drewN] at hzz); omega); have hs_w2 := hb_w2.size; (try simp only [World.size_alloc, World.size_setCell, World.size_drew, World.heap_drewN] at hs_w2)
    have b2 : Below w.heap.size w w2 := (by repeat (first | exact Below.refl _ _ | assumption | (refine below_drewN ?_ _) | (refine Below.drew ?_) | (refine Below.alloc ?_ (by first | omega | (simp; omega) | simp) _) | (refine Below.setCell ?_ (by first | omega | (simp; omega) | simp) _) | (refine below_trans ?_ (by assumption) (by first | omega | (simp; omega) | simp))))
    have P := ((Bx.new w1 _ _).later hb_w2 : Bx w2 _ _)
    have Q := ((Q.alloc _).later hb_w2 : Bx w2 _ _)
    obtain ⟨p0, p1⟩ := P
    obtain ⟨q0, q1⟩ := Q
    have o2 := o2.mono (B' := w1.heap.size + 1) (by simp)
    have n1 : ¬ (w.heap.size + 1 = w1.heap.size) := by omega
    have n2 : ¬ (w1.heap.size = w.heap.size + 1) := by omega
    clear hc_w2 hf_w2
    go_wp2
    exact bodyPost_ret (res_p2 rfl rfl (g := w.heap.size + 1) (v0 := .slice B2 r.length c2) (by simp [go_sem, q0, p0, n1, n2])) rfl ⟨B2, c2, rfl, ((o2.far (by simp) _).far (by simp; omega) _).mono (by omega), (by repeat (first | exact Below.refl _ _ | assumption | (refine below_drewN ?_ _) | (refine Below.drew ?_) | (refine Below.alloc ?_ (by first | omega | (simp; omega) | simp) _) | (refine Below.setCell ?_ (by first | omega | (simp; omega) | simp) _) | (refine below_trans ?_ (by assumption) (by first | omega | (simp; omega) | simp))))⟩
  · have HV := Lib.hid fun (w : World) hT hr => eview_any (w := w) (A := A) (l := l) cap hT hr hl hn _ _ (.inl ⟨hok, rfl, rfl⟩)
    have HF := Lib.hid fun (w : World) (A : Option Addr) (cap : Nat) hT hr => efind_any (w := w) (A := A) (l := l) cap key hT hr hok.z
    rw [toI_lt hf] at HF
    have f1 : ((key : Int) == 0) = false := by rw [beq_eq_false_iff_ne]; omega
    have HUL : Hid ((updA l (fd l key) val).length = l.length) := Lib.hid (by unfold updA; rw [List.length_set])
    have HSV := Lib.hid fun (W : World) (B g : Nat) (h : EOwn W B (some ⟨g, 0, none⟩) l) => h.setV rfl hf hval
    change Hid (∀ (W : World) (B g : Nat), EOwn W B (some ⟨g, 0, none⟩) l → EOwn (W.setCell ⟨g, fd l key * 3 + 2, none⟩ (.int .u64 (val : Nat))) B (some ⟨g, 0, none⟩) (updA l (fd l key) val)) at HSV
    generalize updA l (fd l key) val = r at *
    rw [HUL.out]
    generalize fd l key = a at *
    have i1 : (a : Int) < (l.length : Int) := by omega
    have i2 : (0 : Int) ≤ (a : Int) := by omega
    have f2 : decide ((0 : Int) ≤ (a : Int)) = true := decide_eq_true (by omega)
    clear hok h0
    unfold eph wrk at *
    go_enter Tryd.func5, Tryd.ntmps5
    go_wp2_with fail
    go_at_call 15
    refine (HV.out _ (hT.later (by repeat (first | exact Below.refl _ _ | assumption | (refine below_drewN ?_ _) | (refine Below.drew ?_) | (refine Below.alloc ?_ (by first | omega | (simp; omega) | simp) _) | (refine Below.setCell ?_ (by first | omega | (simp; omega) | simp) _) | (refine below_trans ?_ (by assumption) (by first | omega | (simp; omega) | simp))))) (hr.later (by repeat (first | exact Below.refl _ _ | assumption | (refine below_drewN ?_ _) | (refine Below.drew ?_) | (refine Below.alloc ?_ (by first | omega | (simp; omega) | simp) _) | (refine Below.setCell ?_ (by first | omega | (simp; omega) | simp) _) | (refine below_trans ?_ (by assumption) (by first | omega | (simp; omega) | simp)))))).mono ?_
    rintro e w1 ⟨rfl, hb_w1⟩
    obtain ⟨hc_w1, hf_w1⟩ := bcell hb_w1; have hz_w1_w_0 : w.heap.size < w1.heap.size := (by have hzz := hb_w1.size; (try simp only [World.size_alloc, World.size_setCell, World.size_drew, World.heap_drewN] at hzz); omega); have hz_w1_w_1 : w.heap.size + 1 < w1.heap.size := (by have hzz := hb_w1.size; (try simp only [World.size_alloc, World.size_setCell, World.size_drew, World.heap_drewN] at hzz); omega); have hs_w1 := hb_w1.size; (try simp only [World.size_alloc, World.size_setCell, World.size_drew, World.heap_drewN] at hs_w1)
    have b1 : Below w.heap.size w w1 := (by repeat (first | exact Below.refl _ _ | assumption | (refine below_drewN ?_ _) | (refine Below.drew ?_) | (refine Below.alloc ?_ (by first | omega | (simp; omega) | simp) _) | (refine Below.setCell ?_ (by first | omega | (simp; omega) | simp) _) | (refine below_trans ?_ (by assumption) (by first | omega | (simp; omega) | simp))))
    have Q := ((Bx.new (w.alloc _) _ _).later hb_w1 : Bx w1 _ _)
    simp only [World.size_alloc] at Q
    clear hc_w1 hf_w1
    go_wp2_with fail
    go_at_call 16
    refine (HTW.out _ ((hr.later b1).later (by repeat (first | exact Below.refl _ _ | assumption | (refine below_drewN ?_ _) | (refine Below.drew ?_) | (refine Below.alloc ?_ (by first | omega | (simp; omega) | simp) _) | (refine Below.setCell ?_ (by first | omega | (simp; omega) | simp) _) | (refine below_trans ?_ (by assumption) (by first | omega | (simp; omega) | simp)))))).mono ?_
    rintro e w2 ⟨B2, c2, rfl, o2, hb_w2⟩
    obtain ⟨hc_w2, hf_w2⟩ := bcell hb_w2; have hz_w2_w1_0 : w1.heap.size < w2.heap.size := (by have hzz := hb_w2.size; (try simp only [World.size_alloc, World.size_setCell, World.size_drew, World.heap_drewN] at hzz); omega); have hs_w2 := hb_w2.size; (try simp only [World.size_alloc, World.size_setCell, World.size_drew, World.heap_drewN] at hs_w2)
    have b2 : Below w.heap.size w w2 := (by repeat (first | exact Below.refl _ _ | assumption | (refine below_drewN ?_ _) | (refine Below.drew ?_) | (refine Below.alloc ?_ (by first | omega | (simp; omega) | simp) _) | (refine Below.setCell ?_ (by first | omega | (simp; omega) | simp) _) | (refine below_trans ?_ (by assumption) (by first | omega | (simp; omega) | simp))))
    have P := ((Bx.new w1 _ _).later hb_w2 : Bx w2 _ _)
    have Q := ((Q.alloc _).later hb_w2 : Bx w2 _ _)
    have o2 := o2.mono (B' := w1.heap.size + 1) (by simp)
    obtain ⟨g, rfl, hgB, hgl, _⟩ := o2.own.at_ (by omega)
    have n1 : ¬ (w.heap.size + 1 = w1.heap.size) := by omega
    have n2 : ¬ (w1.heap.size = w.heap.size + 1) := by omega
    have n3 : ¬ (g = w1.heap.size) := by omega
    have n4 : ¬ (w1.heap.size = g) := by omega
    have n5 : ¬ (g = w.heap.size + 1) := by omega
    have n6 : ¬ (w.heap.size + 1 = g) := by omega
    have P' := P.set (.slice (some ⟨g, 0, none⟩) l.length c2)
    have Q' := Q.far (p := ⟨w1.heap.size, 0, none⟩) (by show w1.heap.size ≠ _; omega) (.slice (some ⟨g, 0, none⟩) l.length c2)
    have o2' := o2.far (p := ⟨w1.heap.size, 0, none⟩) (by show w1.heap.size < _; omega) (.slice (some ⟨g, 0, none⟩) l.length c2)
    obtain ⟨p0, p1⟩ := P
    clear hc_w2 hf_w2
    go_wp2_with fail
    go_at_call 17
    refine (HF.out _ _ _ (hT.later (by repeat (first | exact Below.refl _ _ | assumption | (refine below_drewN ?_ _) | (refine Below.drew ?_) | (refine Below.alloc ?_ (by first | omega | (simp; omega) | simp) _) | (refine Below.setCell ?_ (by first | omega | (simp; omega) | simp) _) | (refine below_trans ?_ (by assumption) (by first | omega | (simp; omega) | simp))))) (o2'.row.later (by repeat (first | exact Below.refl _ _ | assumption | (refine below_drewN ?_ _) | (refine Below.drew ?_) | (refine Below.alloc ?_ (by first | omega | (simp; omega) | simp) _) | (refine Below.setCell ?_ (by first | omega | (simp; omega) | simp) _) | (refine below_trans ?_ (by assumption) (by first | omega | (simp; omega) | simp)))))).mono ?_
    rintro e w3 ⟨rfl, hb_w3⟩
    obtain ⟨hc_w3, hf_w3⟩ := bcell hb_w3; have hz_w3_w1_0 : w1.heap.size < w3.heap.size := (by have hzz := hb_w3.size; (try simp only [World.size_alloc, World.size_setCell, World.size_drew, World.heap_drewN] at hzz); omega); have hs_w3 := hb_w3.size; (try simp only [World.size_alloc, World.size_setCell, World.size_drew, World.heap_drewN] at hs_w3)
    have b3 : Below w.heap.size w w3 := (by repeat (first | exact Below.refl _ _ | assumption | (refine below_drewN ?_ _) | (refine Below.drew ?_) | (refine Below.alloc ?_ (by first | omega | (simp; omega) | simp) _) | (refine Below.setCell ?_ (by first | omega | (simp; omega) | simp) _) | (refine below_trans ?_ (by assumption) (by first | omega | (simp; omega) | simp))))
    have P3 := (P'.later hb_w3 : Bx w3 _ _)
    have Q3 := (Q'.later hb_w3 : Bx w3 _ _)
    have o3 := o2'.later hb_w3
    obtain ⟨g', e, _, hg3, hcc, hff⟩ := o3.own.at_ (by omega)
    injection e with e
    injection e with e
    subst e
    obtain ⟨_, _, d2⟩ := hcc a hf
    have fz := hff (a * 3 + 2)
    have oF := HSV.out _ _ _ o3.own
    have P4 := P3.far (p := ⟨g, a * 3 + 2, none⟩) (by show g ≠ _; omega) (.int .u64 (val : Nat))
    have Q4 := Q3.far (p := ⟨g, a * 3 + 2, none⟩) (by show g ≠ _; omega) (.int .u64 (val : Nat))
    have OF := Lib.hid oF
    obtain ⟨p30, p31⟩ := P3
    obtain ⟨q30, q31⟩ := Q3
    obtain ⟨q40, q41⟩ := Q4
    clear hc_w3 hf_w3 hcc hff P' Q' o2' oF
    go_wp2
    exact bodyPost_ret (res_p2 rfl rfl (g := w.heap.size + 1) (v0 := .slice (some ⟨g, 0, none⟩) l.length c2) (by first | exact World.cell?_setCell_same _ _ _ q40 | exact World.cell?_setCell_same _ _ _ (by first | exact q40 | (exact (World.cell?_alloc_lt _ _ ⟨_, _, _⟩ (by first | omega | (simp; omega) | simp)).trans q40) | (exact (World.cell?_alloc_lt _ _ ⟨_, _, _⟩ (by first | omega | (simp; omega) | simp)).trans ((World.cell?_alloc_lt _ _ ⟨_, _, _⟩ (by first | omega | (simp; omega) | simp)).trans q40)) | (simp [go_sem, q40]; done)) | exact (World.cell?_alloc_lt _ _ ⟨_, _, _⟩ (by first | omega | (simp; omega) | simp)).trans (World.cell?_setCell_same _ _ _ q40) | (simp [go_sem, q40]; done))) rfl ⟨_, c2, rfl, ⟨(OF.out.far (by show w.heap.size + 1 < _; omega) _).mono (by omega), fun h => by cases h⟩, (by repeat (first | exact Below.refl _ _ | assumption | (refine below_drewN ?_ _) | (refine Below.drew ?_) | (refine Below.alloc ?_ (by first | omega | (simp; omega) | simp) _) | (refine Below.setCell ?_ (by first | omega | (simp; omega) | simp) _) | (refine below_trans ?_ (by assumption) (by first | omega | (simp; omega) | simp))))⟩
  · have HV := Lib.hid fun (w : World) hT hr => eview_any (w := w) (A := A) (l := l) cap hT hr hl hn _ _ (.inl ⟨hok, rfl, rfl⟩)
    have HF := Lib.hid fun (w : World) (A : Option Addr) (cap : Nat) hT hr => efind_any (w := w) (A := A) (l := l) cap key hT hr hok.z
    rw [toI_no hf] at HF
    have HA := Lib.hid fun (w : World) (A : Option Addr) (cap : Nat) hT hr => eaccepts_any (w := w) (l := l) cap (A := A) key hT hr hok.z true (by simpa using hacc)
    have f1 : ((key : Int) == 0) = false := by rw [beq_eq_false_iff_ne]; omega
    have hpl := hacc.1
    have hz := hok.z.resolve_left (by omega)
    have HI := Lib.hid fun (w : World) (g : Nat) (cap : Nat) hT ho => einsert_any (w := w) (l := l) cap (B := g) (g := g) key val hkey hval hT ho hz hpl
    unfold InsE at HI
    have HRL := Lib.hid (lay_len l key val)
    have hl0 : 0 < l.length := by omega
    generalize lay l key val = r at *
    rw [HRL.out]
    clear hok h0 hf hacc hz hpl
    unfold eph wrk at *
    go_enter Tryd.func5, Tryd.ntmps5
    go_wp2_with fail
    go_at_call 15
    refine (HV.out _ (hT.later (by repeat (first | exact Below.refl _ _ | assumption | (refine below_drewN ?_ _) | (refine Below.drew ?_) | (refine Below.alloc ?_ (by first | omega | (simp; omega) | simp) _) | (refine Below.setCell ?_ (by first | omega | (simp; omega) | simp) _) | (refine below_trans ?_ (by assumption) (by first | omega | (simp; omega) | simp))))) (hr.later (by repeat (first | exact Below.refl _ _ | assumption | (refine below_drewN ?_ _) | (refine Below.drew ?_) | (refine Below.alloc ?_ (by first | omega | (simp; omega) | simp) _) | (refine Below.setCell ?_ (by first | omega | (simp; omega) | simp) _) | (refine below_trans ?_ (by assumption) (by first | omega | (simp; omega) | simp)))))).mono ?_
    rintro e w1 ⟨rfl, hb_w1⟩
    obtain ⟨hc_w1, hf_w1⟩ := bcell hb_w1; have hz_w1_w_0 : w.heap.size < w1.heap.size := (by have hzz := hb_w1.size; (try simp only [World.size_alloc, World.size_setCell, World.size_drew, World.heap_drewN] at hzz); omega); have hz_w1_w_1 : w.heap.size + 1 < w1.heap.size := (by have hzz := hb_w1.size; (try simp only [World.size_alloc, World.size_setCell, World.size_drew, World.heap_drewN] at hzz); omega); have hs_w1 := hb_w1.size; (try simp only [World.size_alloc, World.size_setCell, World.size_drew, World.heap_drewN] at hs_w1)
    have b1 : Below w.heap.size w w1 := (by repeat (first | exact Below.refl _ _ | assumption | (refine below_drewN ?_ _) | (refine Below.drew ?_) | (refine Below.alloc ?_ (by first | omega | (simp; omega) | simp) _) | (refine Below.setCell ?_ (by first | omega | (simp; omega) | simp) _) | (refine below_trans ?_ (by assumption) (by first | omega | (simp; omega) | simp))))
    have Q := ((Bx.new (w.alloc _) _ _).later hb_w1 : Bx w1 _ _)
    simp only [World.size_alloc] at Q
    clear hc_w1 hf_w1
    go_wp2_with fail
    go_at_call 16
    refine (HTW.out _ ((hr.later b1).later (by repeat (first | exact Below.refl _ _ | assumption | (refine below_drewN ?_ _) | (refine Below.drew ?_) | (refine Below.alloc ?_ (by first | omega | (simp; omega) | simp) _) | (refine Below.setCell ?_ (by first | omega | (simp; omega) | simp) _) | (refine below_trans ?_ (by assumption) (by first | omega | (simp; omega) | simp)))))).mono ?_
    rintro e w2 ⟨B2, c2, rfl, o2, hb_w2⟩
    obtain ⟨hc_w2, hf_w2⟩ := bcell hb_w2; have hz_w2_w1_0 : w1.heap.size < w2.heap.size := (by have hzz := hb_w2.size; (try simp only [World.size_alloc, World.size_setCell, World.size_drew, World.heap_drewN] at hzz); omega); have hs_w2 := hb_w2.size; (try simp only [World.size_alloc, World.size_setCell, World.size_drew, World.heap_drewN] at hs_w2)
    have b2 : Below w.heap.size w w2 := (by repeat (first | exact Below.refl _ _ | assumption | (refine below_drewN ?_ _) | (refine Below.drew ?_) | (refine Below.alloc ?_ (by first | omega | (simp; omega) | simp) _) | (refine Below.setCell ?_ (by first | omega | (simp; omega) | simp) _) | (refine below_trans ?_ (by assumption) (by first | omega | (simp; omega) | simp))))
    have P := ((Bx.new w1 _ _).later hb_w2 : Bx w2 _ _)
    have Q := ((Q.alloc _).later hb_w2 : Bx w2 _ _)
    have o2 := o2.mono (B' := w1.heap.size + 1) (by simp)
    have n1 : ¬ (w.heap.size + 1 = w1.heap.size) := by omega
    have n2 : ¬ (w1.heap.size = w.heap.size + 1) := by omega
    have P' := P.set (.slice B2 l.length c2)
    have Q' := Q.far (p := ⟨w1.heap.size, 0, none⟩) (by show w1.heap.size ≠ _; omega) (.slice B2 l.length c2)
    have o2' := o2.far (p := ⟨w1.heap.size, 0, none⟩) (by show w1.heap.size < _; omega) (.slice B2 l.length c2)
    obtain ⟨p0, p1⟩ := P
    clear hc_w2 hf_w2
    go_wp2_with fail
    go_at_call 17
    refine (HF.out _ _ _ (hT.later (by repeat (first | exact Below.refl _ _ | assumption | (refine below_drewN ?_ _) | (refine Below.drew ?_) | (refine Below.alloc ?_ (by first | omega | (simp; omega) | simp) _) | (refine Below.setCell ?_ (by first | omega | (simp; omega) | simp) _) | (refine below_trans ?_ (by assumption) (by first | omega | (simp; omega) | simp))))) (o2'.row.later (by repeat (first | exact Below.refl _ _ | assumption | (refine below_drewN ?_ _) | (refine Below.drew ?_) | (refine Below.alloc ?_ (by first | omega | (simp; omega) | simp) _) | (refine Below.setCell ?_ (by first | omega | (simp; omega) | simp) _) | (refine below_trans ?_ (by assumption) (by first | omega | (simp; omega) | simp)))))).mono ?_
    rintro e w3 ⟨rfl, hb_w3⟩
    obtain ⟨hc_w3, hf_w3⟩ := bcell hb_w3; have hz_w3_w1_0 : w1.heap.size < w3.heap.size := (by have hzz := hb_w3.size; (try simp only [World.size_alloc, World.size_setCell, World.size_drew, World.heap_drewN] at hzz); omega); have hs_w3 := hb_w3.size; (try simp only [World.size_alloc, World.size_setCell, World.size_drew, World.heap_drewN] at hs_w3)
    have b3 : Below w.heap.size w w3 := (by repeat (first | exact Below.refl _ _ | assumption | (refine below_drewN ?_ _) | (refine Below.drew ?_) | (refine Below.alloc ?_ (by first | omega | (simp; omega) | simp) _) | (refine Below.setCell ?_ (by first | omega | (simp; omega) | simp) _) | (refine below_trans ?_ (by assumption) (by first | omega | (simp; omega) | simp))))
    have P3 := (P'.later hb_w3 : Bx w3 _ _)
    have Q3 := (Q'.later hb_w3 : Bx w3 _ _)
    have o3 := o2'.later hb_w3
    have p3 := P3.c
    clear hc_w3 hf_w3 P' Q' o2'
    go_wp2_with fail
    go_at_call 18
    refine (HA.out _ _ _ (hT.later (by repeat (first | exact Below.refl _ _ | assumption | (refine below_drewN ?_ _) | (refine Below.drew ?_) | (refine Below.alloc ?_ (by first | omega | (simp; omega) | simp) _) | (refine Below.setCell ?_ (by first | omega | (simp; omega) | simp) _) | (refine below_trans ?_ (by assumption) (by first | omega | (simp; omega) | simp))))) (o3.row.later (by repeat (first | exact Below.refl _ _ | assumption | (refine below_drewN ?_ _) | (refine Below.drew ?_) | (refine Below.alloc ?_ (by first | omega | (simp; omega) | simp) _) | (refine Below.setCell ?_ (by first | omega | (simp; omega) | simp) _) | (refine below_trans ?_ (by assumption) (by first | omega | (simp; omega) | simp)))))).mono ?_
    rintro e w4 ⟨rfl, hb_w4⟩
    obtain ⟨hc_w4, hf_w4⟩ := bcell hb_w4; have hz_w4_w1_0 : w1.heap.size < w4.heap.size := (by have hzz := hb_w4.size; (try simp only [World.size_alloc, World.size_setCell, World.size_drew, World.heap_drewN] at hzz); omega); have hs_w4 := hb_w4.size; (try simp only [World.size_alloc, World.size_setCell, World.size_drew, World.heap_drewN] at hs_w4)
    have b4 : Below w.heap.size w w4 := (by repeat (first | exact Below.refl _ _ | assumption | (refine below_drewN ?_ _) | (refine Below.drew ?_) | (refine Below.alloc ?_ (by first | omega | (simp; omega) | simp) _) | (refine Below.setCell ?_ (by first | omega | (simp; omega) | simp) _) | (refine below_trans ?_ (by assumption) (by first | omega | (simp; omega) | simp))))
    have P4 := (P3.later hb_w4 : Bx w4 _ _)
    have Q4 := (Q3.later hb_w4 : Bx w4 _ _)
    have o4 := o3.later hb_w4
    obtain ⟨p40, p41⟩ := P4
    obtain ⟨q40, q41⟩ := Q4
    clear hc_w4 hf_w4 P3 Q3 o3 p3
    obtain ⟨g, rfl, hgB, hgl, _⟩ := o4.own.at_ hl0
    have o4g : EOwn w4 g (some ⟨g, 0, none⟩) l := ⟨o4.own.wd, fun h => by
      obtain ⟨g', e, h1, h2⟩ := o4.own.at_ h
      injection e with e
      injection e with e
      exact ⟨g, rfl, Nat.le_refl _, by rw [e]; exact h2⟩⟩
    go_wp2_with fail
    go_at_call 20
    refine (HI.out _ g c2 (hT.later (by repeat (first | exact Below.refl _ _ | assumption | (refine below_drewN ?_ _) | (refine Below.drew ?_) | (refine Below.alloc ?_ (by first | omega | (simp; omega) | simp) _) | (refine Below.setCell ?_ (by first | omega | (simp; omega) | simp) _) | (refine below_trans ?_ (by assumption) (by first | omega | (simp; omega) | simp))))) (o4g.later (by repeat (first | exact Below.refl _ _ | assumption | (refine below_drewN ?_ _) | (refine Below.drew ?_) | (refine Below.alloc ?_ (by first | omega | (simp; omega) | simp) _) | (refine Below.setCell ?_ (by first | omega | (simp; omega) | simp) _) | (refine below_trans ?_ (by assumption) (by first | omega | (simp; omega) | simp)))))).mono ?_
    rintro e w5 ⟨rfl, hg5, eo5⟩
    have hs5 := hg5.size
    have P5 := Bx.grown ⟨p40, p41⟩ hg5 (by omega)
    have Q5 := Bx.grown ⟨q40, q41⟩ hg5 (by omega)
    have b5 : Below w.heap.size w w5 := Below.grown b4 hg5 (by omega) (fun j hj => by injection hj with hj; omega)
    obtain ⟨p50, p51⟩ := P5
    obtain ⟨q50, q51⟩ := Q5
    clear hg5
    go_wp2
    exact bodyPost_ret (res_p2 rfl rfl (g := w.heap.size + 1) (v0 := .slice (some ⟨g, 0, none⟩) l.length c2) (by first | exact World.cell?_setCell_same _ _ _ q50 | exact World.cell?_setCell_same _ _ _ (by first | exact q50 | (exact (World.cell?_alloc_lt _ _ ⟨_, _, _⟩ (by first | omega | (simp; omega) | simp)).trans q50) | (exact (World.cell?_alloc_lt _ _ ⟨_, _, _⟩ (by first | omega | (simp; omega) | simp)).trans ((World.cell?_alloc_lt _ _ ⟨_, _, _⟩ (by first | omega | (simp; omega) | simp)).trans q50)) | (simp [go_sem, q50]; done)) | exact (World.cell?_alloc_lt _ _ ⟨_, _, _⟩ (by first | omega | (simp; omega) | simp)).trans (World.cell?_setCell_same _ _ _ q50) | (simp [go_sem, q50]; done))) rfl ⟨_, c2, rfl, ⟨(eo5.far (by show w.heap.size + 1 < _; omega) _).mono (by omega), fun h => by cases h⟩, (by repeat (first | exact Below.refl _ _ | assumption | (refine below_drewN ?_ _) | (refine Below.drew ?_) | (refine Below.alloc ?_ (by first | omega | (simp; omega) | simp) _) | (refine Below.setCell ?_ (by first | omega | (simp; omega) | simp) _) | (refine below_trans ?_ (by assumption) (by first | omega | (simp; omega) | simp))))⟩
  · have HV := Lib.hid fun (w : World) hT hr => eview_any (w := w) (A := A) (l := r) cap hT hr hl hn _ _ (.inl ⟨hok, rfl, rfl⟩)
    have HF := Lib.hid fun (w : World) (A : Option Addr) (cap : Nat) hT hr => efind_any (w := w) (A := A) (l := r) cap key hT hr hok.z
    rw [toI_no hf] at HF
    have HA := Lib.hid fun (w : World) (A : Option Addr) (cap : Nat) hT hr => eaccepts_any (w := w) (l := r) cap (A := A) key hT hr hok.z false (by simpa using hacc)
    have f1 : ((key : Int) == 0) = false := by rw [beq_eq_false_iff_ne]; omega
    have h48 := hok.us48
    have h64 := hok.le
    have HR := Lib.hid fun (w : World) (A : Option Addr) (cap : Nat) hr => ereb_full (w := w) (A := A) (l := r) cap hr h64 (by omega) hsz
    clear hok h0 hf hacc
    unfold eph wrk at *
    go_enter Tryd.func5, Tryd.ntmps5
    go_wp2_with fail
    go_at_call 15
    refine (HV.out _ (hT.later (by repeat (first | exact Below.refl _ _ | assumption | (refine below_drewN ?_ _) | (refine Below.drew ?_) | (refine Below.alloc ?_ (by first | omega | (simp; omega) | simp) _) | (refine Below.setCell ?_ (by first | omega | (simp; omega) | simp) _) | (refine below_trans ?_ (by assumption) (by first | omega | (simp; omega) | simp))))) (hr.later (by repeat (first | exact Below.refl _ _ | assumption | (refine below_drewN ?_ _) | (refine Below.drew ?_) | (refine Below.alloc ?_ (by first | omega | (simp; omega) | simp) _) | (refine Below.setCell ?_ (by first | omega | (simp; omega) | simp) _) | (refine below_trans ?_ (by assumption) (by first | omega | (simp; omega) | simp)))))).mono ?_
    rintro e w1 ⟨rfl, hb_w1⟩
    obtain ⟨hc_w1, hf_w1⟩ := bcell hb_w1; have hz_w1_w_0 : w.heap.size < w1.heap.size := (by have hzz := hb_w1.size; (try simp only [World.size_alloc, World.size_setCell, World.size_drew, World.heap_drewN] at hzz); omega); have hz_w1_w_1 : w.heap.size + 1 < w1.heap.size := (by have hzz := hb_w1.size; (try simp only [World.size_alloc, World.size_setCell, World.size_drew, World.heap_drewN] at hzz); omega); have hs_w1 := hb_w1.size; (try simp only [World.size_alloc, World.size_setCell, World.size_drew, World.heap_drewN] at hs_w1)
    have b1 : Below w.heap.size w w1 := (by repeat (first | exact Below.refl _ _ | assumption | (refine below_drewN ?_ _) | (refine Below.drew ?_) | (refine Below.alloc ?_ (by first | omega | (simp; omega) | simp) _) | (refine Below.setCell ?_ (by first | omega | (simp; omega) | simp) _) | (refine below_trans ?_ (by assumption) (by first | omega | (simp; omega) | simp))))
    have Q := ((Bx.new (w.alloc _) _ _).later hb_w1 : Bx w1 _ _)
    simp only [World.size_alloc] at Q
    clear hc_w1 hf_w1
    go_wp2_with fail
    go_at_call 16
    refine (HTW.out _ ((hr.later b1).later (by repeat (first | exact Below.refl _ _ | assumption | (refine below_drewN ?_ _) | (refine Below.drew ?_) | (refine Below.alloc ?_ (by first | omega | (simp; omega) | simp) _) | (refine Below.setCell ?_ (by first | omega | (simp; omega) | simp) _) | (refine below_trans ?_ (by assumption) (by first | omega | (simp; omega) | simp)))))).mono ?_
    rintro e w2 ⟨B2, c2, rfl, o2, hb_w2⟩
    obtain ⟨hc_w2, hf_w2⟩ := bcell hb_w2; have hz_w2_w1_0 : w1.heap.size < w2.heap.size := (by have hzz := hb_w2.size; (try simp only [World.size_alloc, World.size_setCell, World.size_drew, World.heap_drewN] at hzz); omega); have hs_w2 := hb_w2.size; (try simp only [World.size_alloc, World.size_setCell, World.size_drew, World.heap_drewN] at hs_w2)
    have b2 : Below w.heap.size w w2 := (by repeat (first | exact Below.refl _ _ | assumption | (refine below_drewN ?_ _) | (refine Below.drew ?_) | (refine Below.alloc ?_ (by first | omega | (simp; omega) | simp) _) | (refine Below.setCell ?_ (by first | omega | (simp; omega) | simp) _) | (refine below_trans ?_ (by assumption) (by first | omega | (simp; omega) | simp))))
    have P := ((Bx.new w1 _ _).later hb_w2 : Bx w2 _ _)
    have Q := ((Q.alloc _).later hb_w2 : Bx w2 _ _)
    have o2 := o2.mono (B' := w1.heap.size + 1) (by simp)
    have n1 : ¬ (w.heap.size + 1 = w1.heap.size) := by omega
    have n2 : ¬ (w1.heap.size = w.heap.size + 1) := by omega
    have P' := P.set (.slice B2 r.length c2)
    have Q' := Q.far (p := ⟨w1.heap.size, 0, none⟩) (by show w1.heap.size ≠ _; omega) (.slice B2 r.length c2)
    have o2' := o2.far (p := ⟨w1.heap.size, 0, none⟩) (by show w1.heap.size < _; omega) (.slice B2 r.length c2)
    obtain ⟨p0, p1⟩ := P
    clear hc_w2 hf_w2
    go_wp2_with fail
    go_at_call 17
    refine (HF.out _ _ _ (hT.later (by repeat (first | exact Below.refl _ _ | assumption | (refine below_drewN ?_ _) | (refine Below.drew ?_) | (refine Below.alloc ?_ (by first | omega | (simp; omega) | simp) _) | (refine Below.setCell ?_ (by first | omega | (simp; omega) | simp) _) | (refine below_trans ?_ (by assumption) (by first | omega | (simp; omega) | simp))))) (o2'.row.later (by repeat (first | exact Below.refl _ _ | assumption | (refine below_drewN ?_ _) | (refine Below.drew ?_) | (refine Below.alloc ?_ (by first | omega | (simp; omega) | simp) _) | (refine Below.setCell ?_ (by first | omega | (simp; omega) | simp) _) | (refine below_trans ?_ (by assumption) (by first | omega | (simp; omega) | simp)))))).mono ?_
    rintro e w3 ⟨rfl, hb_w3⟩
    obtain ⟨hc_w3, hf_w3⟩ := bcell hb_w3; have hz_w3_w1_0 : w1.heap.size < w3.heap.size := (by have hzz := hb_w3.size; (try simp only [World.size_alloc, World.size_setCell, World.size_drew, World.heap_drewN] at hzz); omega); have hs_w3 := hb_w3.size; (try simp only [World.size_alloc, World.size_setCell, World.size_drew, World.heap_drewN] at hs_w3)
    have b3 : Below w.heap.size w w3 := (by repeat (first | exact Below.refl _ _ | assumption | (refine below_drewN ?_ _) | (refine Below.drew ?_) | (refine Below.alloc ?_ (by first | omega | (simp; omega) | simp) _) | (refine Below.setCell ?_ (by first | omega | (simp; omega) | simp) _) | (refine below_trans ?_ (by assumption) (by first | omega | (simp; omega) | simp))))
    have P3 := (P'.later hb_w3 : Bx w3 _ _)
    have Q3 := (Q'.later hb_w3 : Bx w3 _ _)
    have o3 := o2'.later hb_w3
    have p3 := P3.c
    clear hc_w3 hf_w3 P' Q' o2'
    go_wp2_with fail
    go_at_call 18
    refine (HA.out _ _ _ (hT.later (by repeat (first | exact Below.refl _ _ | assumption | (refine below_drewN ?_ _) | (refine Below.drew ?_) | (refine Below.alloc ?_ (by first | omega | (simp; omega) | simp) _) | (refine Below.setCell ?_ (by first | omega | (simp; omega) | simp) _) | (refine below_trans ?_ (by assumption) (by first | omega | (simp; omega) | simp))))) (o3.row.later (by repeat (first | exact Below.refl _ _ | assumption | (refine below_drewN ?_ _) | (refine Below.drew ?_) | (refine Below.alloc ?_ (by first | omega | (simp; omega) | simp) _) | (refine Below.setCell ?_ (by first | omega | (simp; omega) | simp) _) | (refine below_trans ?_ (by assumption) (by first | omega | (simp; omega) | simp)))))).mono ?_
    rintro e w4 ⟨rfl, hb_w4⟩
    obtain ⟨hc_w4, hf_w4⟩ := bcell hb_w4; have hz_w4_w1_0 : w1.heap.size < w4.heap.size := (by have hzz := hb_w4.size; (try simp only [World.size_alloc, World.size_setCell, World.size_drew, World.heap_drewN] at hzz); omega); have hs_w4 := hb_w4.size; (try simp only [World.size_alloc, World.size_setCell, World.size_drew, World.heap_drewN] at hs_w4)
    have b4 : Below w.heap.size w w4 := (by repeat (first | exact Below.refl _ _ | assumption | (refine below_drewN ?_ _) | (refine Below.drew ?_) | (refine Below.alloc ?_ (by first | omega | (simp; omega) | simp) _) | (refine Below.setCell ?_ (by first | omega | (simp; omega) | simp) _) | (refine below_trans ?_ (by assumption) (by first | omega | (simp; omega) | simp))))
    have P4 := (P3.later hb_w4 : Bx w4 _ _)
    have Q4 := (Q3.later hb_w4 : Bx w4 _ _)
    have o4 := o3.later hb_w4
    obtain ⟨p40, p41⟩ := P4
    obtain ⟨q40, q41⟩ := Q4
    clear hc_w4 hf_w4 P3 Q3 o3 p3
    go_wp2_with fail
    go_at_call 19
    refine (HR.out _ _ _ (o4.row.later (by repeat (first | exact Below.refl _ _ | assumption | (refine below_drewN ?_ _) | (refine Below.drew ?_) | (refine Below.alloc ?_ (by first | omega | (simp; omega) | simp) _) | (refine Below.setCell ?_ (by first | omega | (simp; omega) | simp) _) | (refine below_trans ?_ (by assumption) (by first | omega | (simp; omega) | simp)))))).mono ?_
    rintro e w5 ⟨rfl, hb_w5⟩
    obtain ⟨hc_w5, hf_w5⟩ := bcell hb_w5; have hz_w5_w1_0 : w1.heap.size < w5.heap.size := (by have hzz := hb_w5.size; (try simp only [World.size_alloc, World.size_setCell, World.size_drew, World.heap_drewN] at hzz); omega); have hs_w5 := hb_w5.size; (try simp only [World.size_alloc, World.size_setCell, World.size_drew, World.heap_drewN] at hs_w5)
    have P5 := ((Bx.mk p40 p41).later hb_w5 : Bx w5 _ _)
    have Q5 := ((Bx.mk q40 q41).later hb_w5 : Bx w5 _ _)
    have o5 := o4.later hb_w5
    have b5 : Below w.heap.size w w5 := (by repeat (first | exact Below.refl _ _ | assumption | (refine below_drewN ?_ _) | (refine Below.drew ?_) | (refine Below.alloc ?_ (by first | omega | (simp; omega) | simp) _) | (refine Below.setCell ?_ (by first | omega | (simp; omega) | simp) _) | (refine below_trans ?_ (by assumption) (by first | omega | (simp; omega) | simp))))
    obtain ⟨p50, p51⟩ := P5
    obtain ⟨q50, q51⟩ := Q5
    have hw5 : w.heap.size + 1 < w5.heap.size := by omega
    clear hc_w5 hf_w5
    go_wp2
    exact bodyPost_ret (res_p2 rfl rfl (g := w.heap.size + 1) (v0 := .slice B2 r.length c2) (by first | exact World.cell?_setCell_same _ _ _ q50 | exact World.cell?_setCell_same _ _ _ (by first | exact q50 | (exact (World.cell?_alloc_lt _ _ ⟨_, _, _⟩ (by first | omega | (simp; omega) | simp)).trans q50) | (exact (World.cell?_alloc_lt _ _ ⟨_, _, _⟩ (by first | omega | (simp; omega) | simp)).trans ((World.cell?_alloc_lt _ _ ⟨_, _, _⟩ (by first | omega | (simp; omega) | simp)).trans q50)) | (simp [go_sem, q50]; done)) | exact (World.cell?_alloc_lt _ _ ⟨_, _, _⟩ (by first | omega | (simp; omega) | simp)).trans (World.cell?_setCell_same _ _ _ q50) | (simp [go_sem, q50]; done))) rfl ⟨_, c2, rfl, ((o5.far (p := ⟨w.heap.size + 1, 0, none⟩) (by show w.heap.size + 1 < _; omega) _).later ((Below.refl _ _).alloc (Nat.le_refl _) _)).mono (by omega), (by repeat (first | exact Below.refl _ _ | assumption | (refine below_drewN ?_ _) | (refine Below.drew ?_) | (refine Below.alloc ?_ (by first | omega | (simp; omega) | simp) _) | (refine Below.setCell ?_ (by first | omega | (simp; omega) | simp) _) | (refine below_trans ?_ (by assumption) (by first | omega | (simp; omega) | simp))))⟩
  · have HV := Lib.hid fun (w : World) hT hr => eview_any (w := w) (A := A) (l := l) cap hT hr hl hn _ _ (.inl ⟨hok, rfl, rfl⟩)
    have HF := Lib.hid fun (w : World) (A : Option Addr) (cap : Nat) hT hr => efind_any (w := w) (A := A) (l := l) cap key hT hr hok.z
    rw [toI_no hf] at HF
    have HA := Lib.hid fun (w : World) (A : Option Addr) (cap : Nat) hT hr => eaccepts_any (w := w) (l := l) cap (A := A) key hT hr hok.z false (by simpa using hacc)
    have f1 : ((key : Int) == 0) = false := by rw [beq_eq_false_iff_ne]; omega
    have h48 := hok.us48
    have h64 := hok.le
    have hgd := hok.gd
    have HR := Lib.hid fun (w : World) (A : Option Addr) (cap : Nat) hT hr => ereb_any (w := w) (A := A) (l := l) cap hT hr h64 (by omega) hsz hgd
    unfold RebE at HR
    have hzz := szN_sz hsz
    have h2u := szN_u hsz
    have hRL : (reb l (szN (us l).length)).length = szN (us l).length := rebK_len l _ _
    have hpl : pl (reb l (szN (us l).length)) key < (reb l (szN (us l).length)).length := by
      by_cases hu0 : 0 < (us l).length
      · obtain ⟨g1, g2, _, _⟩ := rebK_inv (hgd hu0) hzz (by omega) (us l).length (Nat.le_refl _)
        exact (pl_spec g1.sz (useds_lt (by rw [g2, rebK_len]; omega)) key).1
      · have e0 : reb l (szN (us l).length) = List.replicate (szN (us l).length) es0 := by
          unfold reb rebK
          rw [show (us l).length = 0 by omega]
          rfl
        rw [e0]
        have hg := good_rep hzz
        exact (pl_spec hg.sz (useds_lt (by rw [useds_rep]; exact hg.sz.pos)) key).1
    have HI := Lib.hid fun (w : World) (g : Nat) (cap : Nat) hT ho => einsert_any (w := w) (l := reb l (szN (us l).length)) cap (B := g) (g := g) key val hkey hval hT ho (by rw [hRL]; exact hzz) hpl
    unfold InsE at HI
    have HLL := Lib.hid (lay_len (reb l (szN (us l).length)) key val)
    rw [hRL] at HI HLL
    generalize lay (reb l (szN (us l).length)) key val = r at *
    have HRB := Lib.hid hRL
    generalize reb l (szN (us l).length) = rb at *
    have hN64 := hzz.le
    generalize szN (us l).length = N at *
    rw [HLL.out]
    have hN0 := hzz.pos
    clear hok h0 hf hacc hzz hpl hgd hRL h2u h48
    unfold eph wrk at *
    go_enter Tryd.func5, Tryd.ntmps5
    go_wp2_with fail
    go_at_call 15
    refine (HV.out _ (hT.later (by repeat (first | exact Below.refl _ _ | assumption | (refine below_drewN ?_ _) | (refine Below.drew ?_) | (refine Below.alloc ?_ (by first | omega | (simp; omega) | simp) _) | (refine Below.setCell ?_ (by first | omega | (simp; omega) | simp) _) | (refine below_trans ?_ (by assumption) (by first | omega | (simp; omega) | simp))))) (hr.later (by repeat (first | exact Below.refl _ _ | assumption | (refine below_drewN ?_ _) | (refine Below.drew ?_) | (refine Below.alloc ?_ (by first | omega | (simp; omega) | simp) _) | (refine Below.setCell ?_ (by first | omega | (simp; omega) | simp) _) | (refine below_trans ?_ (by assumption) (by first | omega | (simp; omega) | simp)))))).mono ?_
    rintro e w1 ⟨rfl, hb_w1⟩
    obtain ⟨hc_w1, hf_w1⟩ := bcell hb_w1; have hz_w1_w_0 : w.heap.size < w1.heap.size := (by have hzz := hb_w1.size; (try simp only [World.size_alloc, World.size_setCell, World.size_drew, World.heap_drewN] at hzz); omega); have hz_w1_w_1 : w.heap.size + 1 < w1.heap.size := (by have hzz := hb_w1.size; (try simp only [World.size_alloc, World.size_setCell, World.size_drew, World.heap_drewN] at hzz); omega); have hs_w1 := hb_w1.size; (try simp only [World.size_alloc, World.size_setCell, World.size_drew, World.heap_drewN] at hs_w1)
    have b1 : Below w.heap.size w w1 := (by repeat (first | exact Below.refl _ _ | assumption | (refine below_drewN ?_ _) | (refine Below.drew ?_) | (refine Below.alloc ?_ (by first | omega | (simp; omega) | simp) _) | (refine Below.setCell ?_ (by first | omega | (simp; omega) | simp) _) | (refine below_trans ?_ (by assumption) (by first | omega | (simp; omega) | simp))))
    have Q := ((Bx.new (w.alloc _) _ _).later hb_w1 : Bx w1 _ _)
    simp only [World.size_alloc] at Q
    clear hc_w1 hf_w1
    go_wp2_with fail
    go_at_call 16
    refine (HTW.out _ ((hr.later b1).later (by repeat (first | exact Below.refl _ _ | assumption | (refine below_drewN ?_ _) | (refine Below.drew ?_) | (refine Below.alloc ?_ (by first | omega | (simp; omega) | simp) _) | (refine Below.setCell ?_ (by first | omega | (simp; omega) | simp) _) | (refine below_trans ?_ (by assumption) (by first | omega | (simp; omega) | simp)))))).mono ?_
    rintro e w2 ⟨B2, c2, rfl, o2, hb_w2⟩
    obtain ⟨hc_w2, hf_w2⟩ := bcell hb_w2; have hz_w2_w1_0 : w1.heap.size < w2.heap.size := (by have hzz := hb_w2.size; (try simp only [World.size_alloc, World.size_setCell, World.size_drew, World.heap_drewN] at hzz); omega); have hs_w2 := hb_w2.size; (try simp only [World.size_alloc, World.size_setCell, World.size_drew, World.heap_drewN] at hs_w2)
    have b2 : Below w.heap.size w w2 := (by repeat (first | exact Below.refl _ _ | assumption | (refine below_drewN ?_ _) | (refine Below.drew ?_) | (refine Below.alloc ?_ (by first | omega | (simp; omega) | simp) _) | (refine Below.setCell ?_ (by first | omega | (simp; omega) | simp) _) | (refine below_trans ?_ (by assumption) (by first | omega | (simp; omega) | simp))))
    have P := ((Bx.new w1 _ _).later hb_w2 : Bx w2 _ _)
    have Q := ((Q.alloc _).later hb_w2 : Bx w2 _ _)
    have o2 := o2.mono (B' := w1.heap.size + 1) (by simp)
    have n1 : ¬ (w.heap.size + 1 = w1.heap.size) := by omega
    have n2 : ¬ (w1.heap.size = w.heap.size + 1) := by omega
    have P' := P.set (.slice B2 l.length c2)
    have Q' := Q.far (p := ⟨w1.heap.size, 0, none⟩) (by show w1.heap.size ≠ _; omega) (.slice B2 l.length c2)
    have o2' := o2.far (p := ⟨w1.heap.size, 0, none⟩) (by show w1.heap.size < _; omega) (.slice B2 l.length c2)
    obtain ⟨p0, p1⟩ := P
    clear hc_w2 hf_w2
    go_wp2_with fail
    go_at_call 17
    refine (HF.out _ _ _ (hT.later (by repeat (first | exact Below.refl _ _ | assumption | (refine below_drewN ?_ _) | (refine Below.drew ?_) | (refine Below.alloc ?_ (by first | omega | (simp; omega) | simp) _) | (refine Below.setCell ?_ (by first | omega | (simp; omega) | simp) _) | (refine below_trans ?_ (by assumption) (by first | omega | (simp; omega) | simp))))) (o2'.row.later (by repeat (first | exact Below.refl _ _ | assumption | (refine below_drewN ?_ _) | (refine Below.drew ?_) | (refine Below.alloc ?_ (by first | omega | (simp; omega) | simp) _) | (refine Below.setCell ?_ (by first | omega | (simp; omega) | simp) _) | (refine below_trans ?_ (by assumption) (by first | omega | (simp; omega) | simp)))))).mono ?_
    rintro e w3 ⟨rfl, hb_w3⟩
    obtain ⟨hc_w3, hf_w3⟩ := bcell hb_w3; have hz_w3_w1_0 : w1.heap.size < w3.heap.size := (by have hzz := hb_w3.size; (try simp only [World.size_alloc, World.size_setCell, World.size_drew, World.heap_drewN] at hzz); omega); have hs_w3 := hb_w3.size; (try simp only [World.size_alloc, World.size_setCell, World.size_drew, World.heap_drewN] at hs_w3)
    have b3 : Below w.heap.size w w3 := (by repeat (first | exact Below.refl _ _ | assumption | (refine below_drewN ?_ _) | (refine Below.drew ?_) | (refine Below.alloc ?_ (by first | omega | (simp; omega) | simp) _) | (refine Below.setCell ?_ (by first | omega | (simp; omega) | simp) _) | (refine below_trans ?_ (by assumption) (by first | omega | (simp; omega) | simp))))
    have P3 := (P'.later hb_w3 : Bx w3 _ _)
    have Q3 := (Q'.later hb_w3 : Bx w3 _ _)
    have o3 := o2'.later hb_w3
    have p3 := P3.c
    clear hc_w3 hf_w3 P' Q' o2'
    go_wp2_with fail
    go_at_call 18
    refine (HA.out _ _ _ (hT.later (by repeat (first | exact Below.refl _ _ | assumption | (refine below_drewN ?_ _) | (refine Below.drew ?_) | (refine Below.alloc ?_ (by first | omega | (simp; omega) | simp) _) | (refine Below.setCell ?_ (by first | omega | (simp; omega) | simp) _) | (refine below_trans ?_ (by assumption) (by first | omega | (simp; omega) | simp))))) (o3.row.later (by repeat (first | exact Below.refl _ _ | assumption | (refine below_drewN ?_ _) | (refine Below.drew ?_) | (refine Below.alloc ?_ (by first | omega | (simp; omega) | simp) _) | (refine Below.setCell ?_ (by first | omega | (simp; omega) | simp) _) | (refine below_trans ?_ (by assumption) (by first | omega | (simp; omega) | simp)))))).mono ?_
    rintro e w4 ⟨rfl, hb_w4⟩
    obtain ⟨hc_w4, hf_w4⟩ := bcell hb_w4; have hz_w4_w1_0 : w1.heap.size < w4.heap.size := (by have hzz := hb_w4.size; (try simp only [World.size_alloc, World.size_setCell, World.size_drew, World.heap_drewN] at hzz); omega); have hs_w4 := hb_w4.size; (try simp only [World.size_alloc, World.size_setCell, World.size_drew, World.heap_drewN] at hs_w4)
    have b4 : Below w.heap.size w w4 := (by repeat (first | exact Below.refl _ _ | assumption | (refine below_drewN ?_ _) | (refine Below.drew ?_) | (refine Below.alloc ?_ (by first | omega | (simp; omega) | simp) _) | (refine Below.setCell ?_ (by first | omega | (simp; omega) | simp) _) | (refine below_trans ?_ (by assumption) (by first | omega | (simp; omega) | simp))))
    have P4 := (P3.later hb_w4 : Bx w4 _ _)
    have Q4 := (Q3.later hb_w4 : Bx w4 _ _)
    have o4 := o3.later hb_w4
    obtain ⟨p40, p41⟩ := P4
    obtain ⟨q40, q41⟩ := Q4
    clear hc_w4 hf_w4 P3 Q3 o3 p3
    go_wp2_with fail
    go_at_call 19
    refine (HR.out _ _ _ (hT.later (by repeat (first | exact Below.refl _ _ | assumption | (refine below_drewN ?_ _) | (refine Below.drew ?_) | (refine Below.alloc ?_ (by first | omega | (simp; omega) | simp) _) | (refine Below.setCell ?_ (by first | omega | (simp; omega) | simp) _) | (refine below_trans ?_ (by assumption) (by first | omega | (simp; omega) | simp))))) (o4.row.later (by repeat (first | exact Below.refl _ _ | assumption | (refine below_drewN ?_ _) | (refine Below.drew ?_) | (refine Below.alloc ?_ (by first | omega | (simp; omega) | simp) _) | (refine Below.setCell ?_ (by first | omega | (simp; omega) | simp) _) | (refine below_trans ?_ (by assumption) (by first | omega | (simp; omega) | simp)))))).mono ?_
    rintro e w5 ⟨g, rfl, eo5, hb_w5⟩
    obtain ⟨hc_w5, hf_w5⟩ := bcell hb_w5; have hz_w5_w1_0 : w1.heap.size < w5.heap.size := (by have hzz := hb_w5.size; (try simp only [World.size_alloc, World.size_setCell, World.size_drew, World.heap_drewN] at hzz); omega); have hs_w5 := hb_w5.size; (try simp only [World.size_alloc, World.size_setCell, World.size_drew, World.heap_drewN] at hs_w5)
    have P5 := ((Bx.mk p40 p41).later hb_w5 : Bx w5 _ _)
    have Q5 := ((Bx.mk q40 q41).later hb_w5 : Bx w5 _ _)
    have b5 : Below w.heap.size w w5 := (by repeat (first | exact Below.refl _ _ | assumption | (refine below_drewN ?_ _) | (refine Below.drew ?_) | (refine Below.alloc ?_ (by first | omega | (simp; omega) | simp) _) | (refine Below.setCell ?_ (by first | omega | (simp; omega) | simp) _) | (refine below_trans ?_ (by assumption) (by first | omega | (simp; omega) | simp))))
    obtain ⟨p50, p51⟩ := P5
    obtain ⟨q50, q51⟩ := Q5
    have hgg : w4.heap.size ≤ g ∧ g < w5.heap.size := by
      obtain ⟨g', e, h1, h2, _⟩ := eo5.at_ (by rw [HRB.out]; exact hN0)
      injection e with e
      injection e with e
      omega
    clear hc_w5 hf_w5
    obtain ⟨hg1, hg2⟩ := hgg
    have hw5 : w.heap.size + 1 < w5.heap.size := by omega
    have eo5g : EOwn w5 g (some ⟨g, 0, none⟩) rb := ⟨eo5.wd, fun h => by
      obtain ⟨g', e, h1, h2⟩ := eo5.at_ h
      injection e with e
      injection e with e
      exact ⟨g, rfl, Nat.le_refl _, by rw [e]; exact h2⟩⟩
    have eoS := (eo5g.far (p := ⟨w1.heap.size, 0, none⟩) (by show w1.heap.size < g; omega) (.slice (some ⟨g, 0, none⟩) N N))
    have P6 := (Bx.mk p50 p51).set (.slice (some ⟨g, 0, none⟩) N N)
    have Q6 := (Bx.mk q50 q51).far (p := ⟨w1.heap.size, 0, none⟩) (by show w1.heap.size ≠ _; omega) (.slice (some ⟨g, 0, none⟩) N N)
    have EOS := Lib.hid eoS
    have P6H := Lib.hid P6
    have Q6H := Lib.hid Q6
    clear eoS P6 Q6 eo5 eo5g
    go_wp2_with fail
    go_at_call 20
    refine (HI.out _ g N (hT.later (by repeat (first | exact Below.refl _ _ | assumption | (refine below_drewN ?_ _) | (refine Below.drew ?_) | (refine Below.alloc ?_ (by first | omega | (simp; omega) | simp) _) | (refine Below.setCell ?_ (by first | omega | (simp; omega) | simp) _) | (refine below_trans ?_ (by assumption) (by first | omega | (simp; omega) | simp))))) (EOS.out.later ((Below.refl _ _).alloc (Nat.le_refl _) _))).mono ?_
    rintro e w6 ⟨rfl, hg6, eo6⟩
    have hs6 := hg6.size
    simp only [World.size_alloc, World.size_setCell] at hs6
    have P7 := Bx.grown (P6H.out.alloc _) hg6 (by omega)
    have Q7 := Bx.grown (Q6H.out.alloc _) hg6 (by omega)
    have b7 : Below w.heap.size w w6 := Below.grown (show Below w.heap.size w _ from (by repeat (first | exact Below.refl _ _ | assumption | (refine below_drewN ?_ _) | (refine Below.drew ?_) | (refine Below.alloc ?_ (by first | omega | (simp; omega) | simp) _) | (refine Below.setCell ?_ (by first | omega | (simp; omega) | simp) _) | (refine below_trans ?_ (by assumption) (by first | omega | (simp; omega) | simp))))) hg6 (by simp; omega) (fun j hj => by injection hj with hj; omega)
    obtain ⟨p70, p71⟩ := P7
    obtain ⟨q70, q71⟩ := Q7
    clear hg6
    go_wp2
    exact bodyPost_ret (res_p2 rfl rfl (g := w.heap.size + 1) (v0 := .slice (some ⟨g, 0, none⟩) N N) (by first | exact World.cell?_setCell_same _ _ _ q70 | exact World.cell?_setCell_same _ _ _ (by first | exact q70 | (exact (World.cell?_alloc_lt _ _ ⟨_, _, _⟩ (by first | omega | (simp; omega) | simp)).trans q70) | (exact (World.cell?_alloc_lt _ _ ⟨_, _, _⟩ (by first | omega | (simp; omega) | simp)).trans ((World.cell?_alloc_lt _ _ ⟨_, _, _⟩ (by first | omega | (simp; omega) | simp)).trans q70)) | (simp [go_sem, q70]; done)) | exact (World.cell?_alloc_lt _ _ ⟨_, _, _⟩ (by first | omega | (simp; omega) | simp)).trans (World.cell?_setCell_same _ _ _ q70) | (simp [go_sem, q70]; done))) rfl ⟨_, N, rfl, ⟨(eo6.far (by show w.heap.size + 1 < _; omega) _).mono (by omega), fun h => by cases h⟩, (by repeat (first | exact Below.refl _ _ | assumption | (refine below_drewN ?_ _) | (refine Below.drew ?_) | (refine Below.alloc ?_ (by first | omega | (simp; omega) | simp) _) | (refine Below.setCell ?_ (by first | omega | (simp; omega) | simp) _) | (refine below_trans ?_ (by assumption) (by first | omega | (simp; omega) | simp))))⟩
end
end Go.Proofs.YtdeopodfpeeenaaDoor
