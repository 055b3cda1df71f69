/- Contract of the document's own Put for tables. -/
import Derived.Test.YtloemeinpknamaaDoorY14
namespace Go.Proofs.YtloemeinpknamaaDoor
open Go.RowKit
set_option linter.unusedVariables false
set_option linter.unusedSimpArgs false

theorem frees_lay2 (l : List Es) (key v v' : Nat) : frees (lay l key v) = frees (lay l key v') := by
  by_cases hp : pl l key < l.length
  · have a := frees_lay hp v
    have b := frees_lay hp v'
    omega
  · unfold lay
    rw [List.set_eq_of_length_le (by omega), List.set_eq_of_length_le (by omega)]
theorem OkT.op {l : List Es} (h : OkT l) (hn : l.length ≠ 0) : ∃ i, i < l.length ∧ openB (nthE l i) = true := by
  obtain ⟨_, _, h3⟩ := h.x hn
  obtain ⟨i, hi, hs⟩ := frees_pos (by omega : 0 < frees l)
  exact ⟨i, hi, openB_iff.2 (by omega)⟩
section
variable {w : World} {A : Option Addr} {l : List Es} (cap : Nat)
set_option maxHeartbeats 4000000 in
set_option maxRecDepth 100000 in
theorem exput_first (hr : ERow w w.heap.size A l) (hl : l.length ≤ 5864062014805) (key val : Nat) (hkey : key < W64) (hval : val < W64) (r : List Es) (y : Int)
    (hE : (¬ OkT l ∧ r = [] ∧ y = 2) ∨ (OkT l ∧ key = 0 ∧ r = l ∧ y = 7) ∨ (OkT l ∧ key ≠ 0 ∧ fd l key < l.length ∧ r = updA l (fd l key) val ∧ y = 0)) :
    Calls Tryd.prog 12 #[eph A l.length cap, .int .u64 (key : Nat), .int .u64 (val : Nat)] w fun e w' => PutR w r y e w' := by
  unfold PutR
  have HCP := Lib.hid fun (w : World) hr => excopy_any (w := w) (A := A) (l := l) cap hr hl
  unfold CopR at HCP
  rcases hE with ⟨hok, rfl, rfl⟩ | ⟨hok, rfl, rfl, rfl⟩ | ⟨hok, h0, hf, rfl, rfl⟩
  · have HV := Lib.hid fun (w : World) hr => excheck_any (w := w) (A := A) (l := l) cap hr hl 2 (.inr ⟨hok, rfl⟩)
    clear hok
    unfold eph at *
    go_enter Tryd.func12, Tryd.ntmps12
    go_wp2_with fail
    go_at_call 25
    refine (HV.out _ (hr.later (by repeat (first | exact Below.refl _ _ | assumption | (refine below_drewN ?_ _) | (refine Below.drew ?_) | (refine Below.alloc ?_ (by first | omega | (simp; omega) | simp) _) | (refine Below.setCell ?_ (by first | omega | (simp; omega) | simp) _) | (refine below_trans ?_ (by assumption) (by first | omega | (simp; omega) | simp)))))).mono ?_
    rintro e w1 ⟨rfl, hb_w1⟩
    obtain ⟨hc_w1, hf_w1⟩ := bcell hb_w1; have hz_w1_w_0 : w.heap.size < w1.heap.size := (by have hzz := hb_w1.size; (try simp only [World.size_alloc, World.size_setCell, World.size_drew, World.heap_drewN] at hzz); omega); have hz_w1_w_1 : w.heap.size + 1 < w1.heap.size := (by have hzz := hb_w1.size; (try simp only [World.size_alloc, World.size_setCell, World.size_drew, World.heap_drewN] at hzz); omega); have hs_w1 := hb_w1.size; (try simp only [World.size_alloc, World.size_setCell, World.size_drew, World.heap_drewN] at hs_w1)
    have Q := ((Bx.new (w.alloc _) _ _).later hb_w1 : Bx w1 _ _)
    simp only [World.size_alloc] at Q
    obtain ⟨q0, q1⟩ := Q
    clear hc_w1 hf_w1
    go_wp2
    exact bodyPost_ret (res_p2 rfl rfl (g := w.heap.size + 1) (v0 := .slice none 0 0) (by first | exact World.cell?_setCell_same _ _ _ q0 | exact World.cell?_setCell_same _ _ _ (by first | exact q0 | (exact (World.cell?_alloc_lt _ _ ⟨_, _, _⟩ (by first | omega | (simp; omega) | simp)).trans q0) | (exact (World.cell?_alloc_lt _ _ ⟨_, _, _⟩ (by first | omega | (simp; omega) | simp)).trans ((World.cell?_alloc_lt _ _ ⟨_, _, _⟩ (by first | omega | (simp; omega) | simp)).trans q0)) | (simp [go_sem, q0]; done)) | exact (World.cell?_alloc_lt _ _ ⟨_, _, _⟩ (by first | omega | (simp; omega) | simp)).trans (World.cell?_setCell_same _ _ _ q0) | (simp [go_sem, q0]; done))) rfl ⟨none, 0, rfl, ETab.nil _ _, (by repeat (first | exact Below.refl _ _ | assumption | (refine below_drewN ?_ _) | (refine Below.drew ?_) | (refine Below.alloc ?_ (by first | omega | (simp; omega) | simp) _) | (refine Below.setCell ?_ (by first | omega | (simp; omega) | simp) _) | (refine below_trans ?_ (by assumption) (by first | omega | (simp; omega) | simp))))⟩
  · have HV := Lib.hid fun (w : World) hr => excheck_any (w := w) (A := A) (l := r) cap hr hl 0 (.inl ⟨hok, rfl⟩)
    clear hok
    unfold eph at *
    go_enter Tryd.func12, Tryd.ntmps12
    go_wp2_with fail
    go_at_call 25
    refine (HV.out _ (hr.later (by repeat (first | exact Below.refl _ _ | assumption | (refine below_drewN ?_ _) | (refine Below.drew ?_) | (refine Below.alloc ?_ (by first | omega | (simp; omega) | simp) _) | (refine Below.setCell ?_ (by first | omega | (simp; omega) | simp) _) | (refine below_trans ?_ (by assumption) (by first | omega | (simp; omega) | simp)))))).mono ?_
    rintro e w1 ⟨rfl, hb_w1⟩
    obtain ⟨hc_w1, hf_w1⟩ := bcell hb_w1; have hz_w1_w_0 : w.heap.size < w1.heap.size := (by have hzz := hb_w1.size; (try simp only [World.size_alloc, World.size_setCell, World.size_drew, World.heap_drewN] at hzz); omega); have hz_w1_w_1 : w.heap.size + 1 < w1.heap.size := (by have hzz := hb_w1.size; (try simp only [World.size_alloc, World.size_setCell, World.size_drew, World.heap_drewN] at hzz); omega); have hs_w1 := hb_w1.size; (try simp only [World.size_alloc, World.size_setCell, World.size_drew, World.heap_drewN] at hs_w1)
    have b1 : Below w.heap.size w w1 := (by repeat (first | exact Below.refl _ _ | assumption | (refine below_drewN ?_ _) | (refine Below.drew ?_) | (refine Below.alloc ?_ (by first | omega | (simp; omega) | simp) _) | (refine Below.setCell ?_ (by first | omega | (simp; omega) | simp) _) | (refine below_trans ?_ (by assumption) (by first | omega | (simp; omega) | simp))))
    have P := (((Bx.new w _ _).alloc _).later hb_w1 : Bx w1 _ _)
    have Q := ((Bx.new (w.alloc _) _ _).later hb_w1 : Bx w1 _ _)
    simp only [World.size_alloc] at P Q
    obtain ⟨p0, p1⟩ := P
    clear hc_w1 hf_w1
    go_wp2_with fail
    go_at_call 10
    refine (HCP.out _ ((hr.later b1).later (by repeat (first | exact Below.refl _ _ | assumption | (refine below_drewN ?_ _) | (refine Below.drew ?_) | (refine Below.alloc ?_ (by first | omega | (simp; omega) | simp) _) | (refine Below.setCell ?_ (by first | omega | (simp; omega) | simp) _) | (refine below_trans ?_ (by assumption) (by first | omega | (simp; omega) | simp)))))).mono ?_
    rintro e w2 ⟨B2, c2, rfl, o2, hb_w2⟩
    obtain ⟨hc_w2, hf_w2⟩ := bcell hb_w2; have hz_w2_w_0 : w.heap.size < w2.heap.size := (by have hzz := hb_w2.size; (try simp only [World.size_alloc, World.size_setCell, World.size_drew, World.heap_drewN] at hzz); omega); have hz_w2_w_1 : w.heap.size + 1 < w2.heap.size := (by have hzz := hb_w2.size; (try simp only [World.size_alloc, World.size_setCell, World.size_drew, World.heap_drewN] at hzz); omega); have hs_w2 := hb_w2.size; (try simp only [World.size_alloc, World.size_setCell, World.size_drew, World.heap_drewN] at hs_w2)
    have b2 : Below w.heap.size w w2 := (by repeat (first | exact Below.refl _ _ | assumption | (refine below_drewN ?_ _) | (refine Below.drew ?_) | (refine Below.alloc ?_ (by first | omega | (simp; omega) | simp) _) | (refine Below.setCell ?_ (by first | omega | (simp; omega) | simp) _) | (refine below_trans ?_ (by assumption) (by first | omega | (simp; omega) | simp))))
    have P := ((Bx.mk p0 p1).later hb_w2 : Bx w2 _ _)
    have Q := (Q.later hb_w2 : Bx w2 _ _)
    clear hc_w2 hf_w2 p0 p1
    obtain ⟨p0, p1⟩ := P
    obtain ⟨q0, q1⟩ := Q
    go_wp2
    exact bodyPost_ret (res_p2 rfl rfl (g := w.heap.size + 1) (v0 := .slice B2 r.length c2) (by first | (simp [go_sem, q0, p0]; done) | exact World.cell?_setCell_same _ _ _ ((World.cell?_setCell_other _ _ _ _ (by intro e; injection e; omega)).trans q0))) rfl ⟨B2, c2, rfl, ((o2.far (by show w.heap.size < _; omega) _).far (by show w.heap.size + 1 < _; omega) _).mono (by omega), (by repeat (first | exact Below.refl _ _ | assumption | (refine below_drewN ?_ _) | (refine Below.drew ?_) | (refine Below.alloc ?_ (by first | omega | (simp; omega) | simp) _) | (refine Below.setCell ?_ (by first | omega | (simp; omega) | simp) _) | (refine below_trans ?_ (by assumption) (by first | omega | (simp; omega) | simp))))⟩
  · have HV := Lib.hid fun (w : World) hr => excheck_any (w := w) (A := A) (l := l) cap hr hl 0 (.inl ⟨hok, rfl⟩)
    have HF := Lib.hid fun (w : World) (A : Option Addr) (cap : Nat) hr => exfind_any (w := w) (A := A) (l := l) cap key hr hl
    rw [← hok.same, toI_lt hf] at HF
    have f1 : ((key : Int) == 0) = false := by rw [beq_eq_false_iff_ne]; omega
    have HUL : Hid ((updA l (fd l key) val).length = l.length) := Lib.hid (by unfold updA; rw [List.length_set])
    have HSV := Lib.hid fun (W : World) (B g : Nat) (h : EOwn W B (some ⟨g, 0, none⟩) l) => h.setV rfl hf hval
    change Hid (∀ (W : World) (B g : Nat), EOwn W B (some ⟨g, 0, none⟩) l → EOwn (W.setCell ⟨g, fd l key * 3 + 2, none⟩ (.int .u64 (val : Nat))) B (some ⟨g, 0, none⟩) (updA l (fd l key) val)) at HSV
    generalize updA l (fd l key) val = r at *
    rw [HUL.out]
    generalize fd l key = a at *
    have i1 : (a : Int) < (l.length : Int) := by omega
    have i2 : (0 : Int) ≤ (a : Int) := by omega
    have f2 : decide ((0 : Int) ≤ (a : Int)) = true := decide_eq_true (by omega)
    clear hok h0
    unfold eph at *
    go_enter Tryd.func12, Tryd.ntmps12
    go_wp2_with fail
    go_at_call 25
    refine (HV.out _ (hr.later (by repeat (first | exact Below.refl _ _ | assumption | (refine below_drewN ?_ _) | (refine Below.drew ?_) | (refine Below.alloc ?_ (by first | omega | (simp; omega) | simp) _) | (refine Below.setCell ?_ (by first | omega | (simp; omega) | simp) _) | (refine below_trans ?_ (by assumption) (by first | omega | (simp; omega) | simp)))))).mono ?_
    rintro e w1 ⟨rfl, hb_w1⟩
    obtain ⟨hc_w1, hf_w1⟩ := bcell hb_w1; have hz_w1_w_0 : w.heap.size < w1.heap.size := (by have hzz := hb_w1.size; (try simp only [World.size_alloc, World.size_setCell, World.size_drew, World.heap_drewN] at hzz); omega); have hz_w1_w_1 : w.heap.size + 1 < w1.heap.size := (by have hzz := hb_w1.size; (try simp only [World.size_alloc, World.size_setCell, World.size_drew, World.heap_drewN] at hzz); omega); have hs_w1 := hb_w1.size; (try simp only [World.size_alloc, World.size_setCell, World.size_drew, World.heap_drewN] at hs_w1)
    have b1 : Below w.heap.size w w1 := (by repeat (first | exact Below.refl _ _ | assumption | (refine below_drewN ?_ _) | (refine Below.drew ?_) | (refine Below.alloc ?_ (by first | omega | (simp; omega) | simp) _) | (refine Below.setCell ?_ (by first | omega | (simp; omega) | simp) _) | (refine below_trans ?_ (by assumption) (by first | omega | (simp; omega) | simp))))
    have P := (((Bx.new w _ _).alloc _).later hb_w1 : Bx w1 _ _)
    have Q := ((Bx.new (w.alloc _) _ _).later hb_w1 : Bx w1 _ _)
    simp only [World.size_alloc] at P Q
    obtain ⟨p0, p1⟩ := P
    clear hc_w1 hf_w1
    go_wp2_with fail
    go_at_call 10
    refine (HCP.out _ ((hr.later b1).later (by repeat (first | exact Below.refl _ _ | assumption | (refine below_drewN ?_ _) | (refine Below.drew ?_) | (refine Below.alloc ?_ (by first | omega | (simp; omega) | simp) _) | (refine Below.setCell ?_ (by first | omega | (simp; omega) | simp) _) | (refine below_trans ?_ (by assumption) (by first | omega | (simp; omega) | simp)))))).mono ?_
    rintro e w2 ⟨B2, c2, rfl, o2, hb_w2⟩
    obtain ⟨hc_w2, hf_w2⟩ := bcell hb_w2; have hz_w2_w_0 : w.heap.size < w2.heap.size := (by have hzz := hb_w2.size; (try simp only [World.size_alloc, World.size_setCell, World.size_drew, World.heap_drewN] at hzz); omega); have hz_w2_w_1 : w.heap.size + 1 < w2.heap.size := (by have hzz := hb_w2.size; (try simp only [World.size_alloc, World.size_setCell, World.size_drew, World.heap_drewN] at hzz); omega); have hs_w2 := hb_w2.size; (try simp only [World.size_alloc, World.size_setCell, World.size_drew, World.heap_drewN] at hs_w2)
    have b2 : Below w.heap.size w w2 := (by repeat (first | exact Below.refl _ _ | assumption | (refine below_drewN ?_ _) | (refine Below.drew ?_) | (refine Below.alloc ?_ (by first | omega | (simp; omega) | simp) _) | (refine Below.setCell ?_ (by first | omega | (simp; omega) | simp) _) | (refine below_trans ?_ (by assumption) (by first | omega | (simp; omega) | simp))))
    have P := ((Bx.mk p0 p1).later hb_w2 : Bx w2 _ _)
    have Q := (Q.later hb_w2 : Bx w2 _ _)
    clear hc_w2 hf_w2 p0 p1
    have P' := P.set (.slice B2 l.length c2)
    have Q' := Q.far (p := ⟨w.heap.size, 0, none⟩) (by show w.heap.size ≠ _; omega) (.slice B2 l.length c2)
    have o2' := o2.far (p := ⟨w.heap.size, 0, none⟩) (by show w.heap.size < _; omega) (.slice B2 l.length c2)
    obtain ⟨p0, p1⟩ := P
    clear Q o2
    go_wp2_with fail
    go_at_call 32
    refine (HF.out _ _ _ (o2'.row.later (by repeat (first | exact Below.refl _ _ | assumption | (refine below_drewN ?_ _) | (refine Below.drew ?_) | (refine Below.alloc ?_ (by first | omega | (simp; omega) | simp) _) | (refine Below.setCell ?_ (by first | omega | (simp; omega) | simp) _) | (refine below_trans ?_ (by assumption) (by first | omega | (simp; omega) | simp)))))).mono ?_
    rintro e w3 ⟨rfl, hb_w3⟩
    obtain ⟨hc_w3, hf_w3⟩ := bcell hb_w3; have hz_w3_w_0 : w.heap.size < w3.heap.size := (by have hzz := hb_w3.size; (try simp only [World.size_alloc, World.size_setCell, World.size_drew, World.heap_drewN] at hzz); omega); have hz_w3_w_1 : w.heap.size + 1 < w3.heap.size := (by have hzz := hb_w3.size; (try simp only [World.size_alloc, World.size_setCell, World.size_drew, World.heap_drewN] at hzz); omega); have hs_w3 := hb_w3.size; (try simp only [World.size_alloc, World.size_setCell, World.size_drew, World.heap_drewN] at hs_w3)
    have b3 : Below w.heap.size w w3 := (by repeat (first | exact Below.refl _ _ | assumption | (refine below_drewN ?_ _) | (refine Below.drew ?_) | (refine Below.alloc ?_ (by first | omega | (simp; omega) | simp) _) | (refine Below.setCell ?_ (by first | omega | (simp; omega) | simp) _) | (refine below_trans ?_ (by assumption) (by first | omega | (simp; omega) | simp))))
    have P := (P'.later hb_w3 : Bx w3 _ _)
    have Q := (Q'.later hb_w3 : Bx w3 _ _)
    have o3 := o2'.later hb_w3
    clear hc_w3 hf_w3 P' Q' o2' p0 p1
    obtain ⟨g, rfl, hgB, hgl, hcc, hff⟩ := o3.own.at_ (by omega)
    obtain ⟨_, _, d2⟩ := hcc a hf
    have fz := hff (a * 3 + 2)
    have oF := HSV.out _ _ _ o3.own
    have n3 : ¬ (g = w.heap.size) := by omega
    have n4 : ¬ (w.heap.size = g) := by omega
    have P4 := P.far (p := ⟨g, a * 3 + 2, none⟩) (by show g ≠ _; omega) (.int .u64 (val : Nat))
    have Q4 := Q.far (p := ⟨g, a * 3 + 2, none⟩) (by show g ≠ _; omega) (.int .u64 (val : Nat))
    have OF := Lib.hid oF
    obtain ⟨p0, p1⟩ := P
    obtain ⟨q0, q1⟩ := Q
    obtain ⟨q40, q41⟩ := Q4
    have n5 : ¬ (g = w.heap.size + 1) := by omega
    have n6 : ¬ (w.heap.size + 1 = g) := by omega
    clear hcc hff oF
    go_wp2
    exact bodyPost_ret (res_p2 rfl rfl (g := w.heap.size + 1) (v0 := .slice (some ⟨g, 0, none⟩) l.length c2) (by first | exact World.cell?_setCell_same _ _ _ q40 | exact World.cell?_setCell_same _ _ _ (by first | exact q40 | (exact (World.cell?_alloc_lt _ _ ⟨_, _, _⟩ (by first | omega | (simp; omega) | simp)).trans q40) | (exact (World.cell?_alloc_lt _ _ ⟨_, _, _⟩ (by first | omega | (simp; omega) | simp)).trans ((World.cell?_alloc_lt _ _ ⟨_, _, _⟩ (by first | omega | (simp; omega) | simp)).trans q40)) | (simp [go_sem, q40]; done)) | exact (World.cell?_alloc_lt _ _ ⟨_, _, _⟩ (by first | omega | (simp; omega) | simp)).trans (World.cell?_setCell_same _ _ _ q40) | (simp [go_sem, q40]; done))) rfl ⟨_, c2, rfl, ⟨(OF.out.far (by show w.heap.size + 1 < _; omega) _).mono (by omega), fun h => by cases h⟩, (by repeat (first | exact Below.refl _ _ | assumption | (refine below_drewN ?_ _) | (refine Below.drew ?_) | (refine Below.alloc ?_ (by first | omega | (simp; omega) | simp) _) | (refine Below.setCell ?_ (by first | omega | (simp; omega) | simp) _) | (refine below_trans ?_ (by assumption) (by first | omega | (simp; omega) | simp))))⟩
set_option maxHeartbeats 4000000 in
set_option maxRecDepth 100000 in
theorem exput_lay (hr : ERow w w.heap.size A l) (hl : l.length ≤ 5864062014805) (key val : Nat) (hkey : key < W64) (hval : val < W64) (hok : OkT l) (h0 : key ≠ 0) (hf : ¬ fd l key < l.length) (hacc : AccE l key) :
    Calls Tryd.prog 12 #[eph A l.length cap, .int .u64 (key : Nat), .int .u64 (val : Nat)] w fun e w' => PutR w (lay l key val) 0 e w' := by
  unfold PutR
  have HCP := Lib.hid fun (w : World) hr => excopy_any (w := w) (A := A) (l := l) cap hr hl
  have HCP2 := Lib.hid fun (w : World) (A : Option Addr) (cap : Nat) hr => excopy_any (w := w) (A := A) (l := l) cap hr hl
  unfold CopR at HCP HCP2
  · have HV := Lib.hid fun (w : World) hr => excheck_any (w := w) (A := A) (l := l) cap hr hl 0 (.inl ⟨hok, rfl⟩)
    have HF := Lib.hid fun (w : World) (A : Option Addr) (cap : Nat) hr => exfind_any (w := w) (A := A) (l := l) cap key hr hl
    rw [← hok.same, toI_no hf] at HF
    have f1 : ((key : Int) == 0) = false := by rw [beq_eq_false_iff_ne]; omega
    have hn0 : 0 < l.length := by have := hacc.1; omega
    have hz := hok.z.resolve_left (by omega)
    have hop := hok.op (by omega)
    have h9 := hacc.2
    rw [frees_lay2 l key 0 val] at h9
    have HLL := Lib.hid (lay_len l key val)
    have HLY := Lib.hid fun (w : World) (g cap : Nat) ho => exlay_any (w := w) (l := l) cap (B := g) (g := g) key val hkey hval ho hz hop
    unfold LayR at HLY
    have HMF := Lib.hid fun (w : World) (A : Option Addr) (cap : Nat) hr => exmany_any (w := w) (A := A) (l := lay l key val) cap 0 hr (by rw [lay_len]; exact hl)
    change Hid (∀ (w : World) (A : Option Addr) (cap : Nat) (hr : ERow w w.heap.size A (lay l key val)), Calls Tryd.prog 34 #[eph A (lay l key val).length cap, .int .u8 0] w fun e w' => e = .returned (.int .i64 (frees (lay l key val) : Nat)) ∧ Below w.heap.size w w') at HMF
    have hfl := frees_le (lay l key val)
    rw [HLL.out] at HMF hfl
    have hl64 := hz.le
    have g1 : decide ((0 : Int) < (l.length : Int)) = true := decide_eq_true (by omega)
    have g1' : decide (0 < l.length) = true := decide_eq_true (by omega)
    have g2 : decide ((l.length : Int) ≤ 4 * ((frees (lay l key val) : Nat) : Int)) = true := decide_eq_true (by omega)
    generalize lay l key val = r at *
    generalize frees r = fr at *
    rw [HLL.out]
    clear hok h0 hf hacc hz hop h9
    unfold eph at *
    go_enter Tryd.func12, Tryd.ntmps12
    go_wp2_with fail
    go_at_call 25
    refine (HV.out _ (hr.later (by repeat (first | exact Below.refl _ _ | assumption | (refine below_drewN ?_ _) | (refine Below.drew ?_) | (refine Below.alloc ?_ (by first | omega | (simp; omega) | simp) _) | (refine Below.setCell ?_ (by first | omega | (simp; omega) | simp) _) | (refine below_trans ?_ (by assumption) (by first | omega | (simp; omega) | simp)))))).mono ?_
    rintro e w1 ⟨rfl, hb_w1⟩
    obtain ⟨hc_w1, hf_w1⟩ := bcell hb_w1; have hz_w1_w_0 : w.heap.size < w1.heap.size := (by have hzz := hb_w1.size; (try simp only [World.size_alloc, World.size_setCell, World.size_drew, World.heap_drewN] at hzz); omega); have hz_w1_w_1 : w.heap.size + 1 < w1.heap.size := (by have hzz := hb_w1.size; (try simp only [World.size_alloc, World.size_setCell, World.size_drew, World.heap_drewN] at hzz); omega); have hs_w1 := hb_w1.size; (try simp only [World.size_alloc, World.size_setCell, World.size_drew, World.heap_drewN] at hs_w1)
    have b1 : Below w.heap.size w w1 := (by repeat (first | exact Below.refl _ _ | assumption | (refine below_drewN ?_ _) | (refine Below.drew ?_) | (refine Below.alloc ?_ (by first | omega | (simp; omega) | simp) _) | (refine Below.setCell ?_ (by first | omega | (simp; omega) | simp) _) | (refine below_trans ?_ (by assumption) (by first | omega | (simp; omega) | simp))))
    have P := (((Bx.new w _ _).alloc _).later hb_w1 : Bx w1 _ _)
    have Q := ((Bx.new (w.alloc _) _ _).later hb_w1 : Bx w1 _ _)
    simp only [World.size_alloc] at P Q
    obtain ⟨p0, p1⟩ := P
    clear hc_w1 hf_w1
    go_wp2_with fail
    go_at_call 10
    refine (HCP.out _ ((hr.later b1).later (by repeat (first | exact Below.refl _ _ | assumption | (refine below_drewN ?_ _) | (refine Below.drew ?_) | (refine Below.alloc ?_ (by first | omega | (simp; omega) | simp) _) | (refine Below.setCell ?_ (by first | omega | (simp; omega) | simp) _) | (refine below_trans ?_ (by assumption) (by first | omega | (simp; omega) | simp)))))).mono ?_
    rintro e w2 ⟨B2, c2, rfl, o2, hb_w2⟩
    obtain ⟨hc_w2, hf_w2⟩ := bcell hb_w2; have hz_w2_w_0 : w.heap.size < w2.heap.size := (by have hzz := hb_w2.size; (try simp only [World.size_alloc, World.size_setCell, World.size_drew, World.heap_drewN] at hzz); omega); have hz_w2_w_1 : w.heap.size + 1 < w2.heap.size := (by have hzz := hb_w2.size; (try simp only [World.size_alloc, World.size_setCell, World.size_drew, World.heap_drewN] at hzz); omega); have hs_w2 := hb_w2.size; (try simp only [World.size_alloc, World.size_setCell, World.size_drew, World.heap_drewN] at hs_w2)
    have b2 : Below w.heap.size w w2 := (by repeat (first | exact Below.refl _ _ | assumption | (refine below_drewN ?_ _) | (refine Below.drew ?_) | (refine Below.alloc ?_ (by first | omega | (simp; omega) | simp) _) | (refine Below.setCell ?_ (by first | omega | (simp; omega) | simp) _) | (refine below_trans ?_ (by assumption) (by first | omega | (simp; omega) | simp))))
    have P := ((Bx.mk p0 p1).later hb_w2 : Bx w2 _ _)
    have Q := (Q.later hb_w2 : Bx w2 _ _)
    clear hc_w2 hf_w2 p0 p1
    have P' := P.set (.slice B2 l.length c2)
    have Q' := Q.far (p := ⟨w.heap.size, 0, none⟩) (by show w.heap.size ≠ _; omega) (.slice B2 l.length c2)
    have o2' := o2.far (p := ⟨w.heap.size, 0, none⟩) (by show w.heap.size < _; omega) (.slice B2 l.length c2)
    obtain ⟨p0, p1⟩ := P
    clear Q o2
    go_wp2_with fail
    go_at_call 32
    refine (HF.out _ _ _ (o2'.row.later (by repeat (first | exact Below.refl _ _ | assumption | (refine below_drewN ?_ _) | (refine Below.drew ?_) | (refine Below.alloc ?_ (by first | omega | (simp; omega) | simp) _) | (refine Below.setCell ?_ (by first | omega | (simp; omega) | simp) _) | (refine below_trans ?_ (by assumption) (by first | omega | (simp; omega) | simp)))))).mono ?_
    rintro e w3 ⟨rfl, hb_w3⟩
    obtain ⟨hc_w3, hf_w3⟩ := bcell hb_w3; have hz_w3_w_0 : w.heap.size < w3.heap.size := (by have hzz := hb_w3.size; (try simp only [World.size_alloc, World.size_setCell, World.size_drew, World.heap_drewN] at hzz); omega); have hz_w3_w_1 : w.heap.size + 1 < w3.heap.size := (by have hzz := hb_w3.size; (try simp only [World.size_alloc, World.size_setCell, World.size_drew, World.heap_drewN] at hzz); omega); have hs_w3 := hb_w3.size; (try simp only [World.size_alloc, World.size_setCell, World.size_drew, World.heap_drewN] at hs_w3)
    have b3 : Below w.heap.size w w3 := (by repeat (first | exact Below.refl _ _ | assumption | (refine below_drewN ?_ _) | (refine Below.drew ?_) | (refine Below.alloc ?_ (by first | omega | (simp; omega) | simp) _) | (refine Below.setCell ?_ (by first | omega | (simp; omega) | simp) _) | (refine below_trans ?_ (by assumption) (by first | omega | (simp; omega) | simp))))
    have P := (P'.later hb_w3 : Bx w3 _ _)
    have Q := (Q'.later hb_w3 : Bx w3 _ _)
    have o3 := o2'.later hb_w3
    clear hc_w3 hf_w3 P' Q' o2' p0 p1
    have o3s := o3
    obtain ⟨p0, p1⟩ := P
    go_wp2_with fail
    go_at_call 10
    refine (HCP2.out _ _ _ (o3.row.later (by repeat (first | exact Below.refl _ _ | assumption | (refine below_drewN ?_ _) | (refine Below.drew ?_) | (refine Below.alloc ?_ (by first | omega | (simp; omega) | simp) _) | (refine Below.setCell ?_ (by first | omega | (simp; omega) | simp) _) | (refine below_trans ?_ (by assumption) (by first | omega | (simp; omega) | simp)))))).mono ?_
    rintro e w4 ⟨B4, c4, rfl, o4, hb_w4⟩
    obtain ⟨hc_w4, hf_w4⟩ := bcell hb_w4; have hz_w4_w_0 : w.heap.size < w4.heap.size := (by have hzz := hb_w4.size; (try simp only [World.size_alloc, World.size_setCell, World.size_drew, World.heap_drewN] at hzz); omega); have hz_w4_w_1 : w.heap.size + 1 < w4.heap.size := (by have hzz := hb_w4.size; (try simp only [World.size_alloc, World.size_setCell, World.size_drew, World.heap_drewN] at hzz); omega); have hs_w4 := hb_w4.size; (try simp only [World.size_alloc, World.size_setCell, World.size_drew, World.heap_drewN] at hs_w4)
    have b4 : Below w.heap.size w w4 := (by repeat (first | exact Below.refl _ _ | assumption | (refine below_drewN ?_ _) | (refine Below.drew ?_) | (refine Below.alloc ?_ (by first | omega | (simp; omega) | simp) _) | (refine Below.setCell ?_ (by first | omega | (simp; omega) | simp) _) | (refine below_trans ?_ (by assumption) (by first | omega | (simp; omega) | simp))))
    have P := ((Bx.mk p0 p1).later hb_w4 : Bx w4 _ _)
    have Q := (Q.later hb_w4 : Bx w4 _ _)
    have o3 := o3.later hb_w4
    clear hc_w4 hf_w4 p0 p1
    obtain ⟨g, rfl, hgB, hgl, _⟩ := o4.own.at_ (by omega)
    have o4g : EOwn w4 g (some ⟨g, 0, none⟩) l := ⟨o4.own.wd, fun h => by
      obtain ⟨g', e, h1, h2⟩ := o4.own.at_ h
      injection e with e
      injection e with e
      exact ⟨g, rfl, Nat.le_refl _, by rw [e]; exact h2⟩⟩
    have h23 : w1.heap.size ≤ w3.heap.size := by omega
    have hB2 : ∀ gb, B2 = some ⟨gb, 0, none⟩ → gb < w3.heap.size := fun gb e => by
      obtain ⟨g', e', _, h2, _⟩ := o3s.own.at_ (by omega)
      rw [e] at e'
      injection e' with e'
      injection e' with e'
      omega
    go_wp2_with fail
    go_at_call 33
    refine (HLY.out _ g c4 (o4g.later (by repeat (first | exact Below.refl _ _ | assumption | (refine below_drewN ?_ _) | (refine Below.drew ?_) | (refine Below.alloc ?_ (by first | omega | (simp; omega) | simp) _) | (refine Below.setCell ?_ (by first | omega | (simp; omega) | simp) _) | (refine below_trans ?_ (by assumption) (by first | omega | (simp; omega) | simp)))))).mono ?_
    rintro e w5 ⟨rfl, hg5, eo5⟩
    have hs5 := hg5.size
    have b5 : Below w.heap.size w w5 := Below.grown b4 hg5 (by omega) (fun j hj => by injection hj with hj; omega)
    have b35 : Below w3.heap.size w3 w5 := Below.grown (show Below w3.heap.size w3 w4 from (by repeat (first | exact Below.refl _ _ | assumption | (refine below_drewN ?_ _) | (refine Below.drew ?_) | (refine Below.alloc ?_ (by first | omega | (simp; omega) | simp) _) | (refine Below.setCell ?_ (by first | omega | (simp; omega) | simp) _) | (refine below_trans ?_ (by assumption) (by first | omega | (simp; omega) | simp))))) hg5 (by omega) (fun j hj => by injection hj with hj; omega)
    have P := Bx.grown P hg5 (by omega)
    have Q := Bx.grown Q hg5 (by omega)
    have o5 := o3s.later b35
    have eo5' := Lib.hid (eo5.later ((Below.refl _ _).alloc (Nat.le_refl _) (.cells #[.slice (some ⟨g, 0, none⟩) l.length c4] 24)))
    have P5 := P.alloc (.cells #[.slice (some ⟨g, 0, none⟩) l.length c4] 24)
    have Q5 := Q.alloc (.cells #[.slice (some ⟨g, 0, none⟩) l.length c4] 24)
    have X5 := Bx.new w5 (.slice (some ⟨g, 0, none⟩) l.length c4) 24
    clear hg5 P Q
    go_wp2_with fail
    go_at_call 34
    refine (HMF.out _ _ _ (eo5'.out.row.later (by repeat (first | exact Below.refl _ _ | assumption | (refine below_drewN ?_ _) | (refine Below.drew ?_) | (refine Below.alloc ?_ (by first | omega | (simp; omega) | simp) _) | (refine Below.setCell ?_ (by first | omega | (simp; omega) | simp) _) | (refine below_trans ?_ (by assumption) (by first | omega | (simp; omega) | simp)))))).mono ?_
    rintro e w6 ⟨rfl, hb_w6⟩
    obtain ⟨hc_w6, hf_w6⟩ := bcell hb_w6; have hz_w6_w5_0 : w5.heap.size < w6.heap.size := (by have hzz := hb_w6.size; (try simp only [World.size_alloc, World.size_setCell, World.size_drew, World.heap_drewN] at hzz); omega); have hs_w6 := hb_w6.size; (try simp only [World.size_alloc, World.size_setCell, World.size_drew, World.heap_drewN] at hs_w6)
    have b6 : Below w.heap.size w w6 := (by repeat (first | exact Below.refl _ _ | assumption | (refine below_drewN ?_ _) | (refine Below.drew ?_) | (refine Below.alloc ?_ (by first | omega | (simp; omega) | simp) _) | (refine Below.setCell ?_ (by first | omega | (simp; omega) | simp) _) | (refine below_trans ?_ (by assumption) (by first | omega | (simp; omega) | simp))))
    have P := (P5.later hb_w6 : Bx w6 _ _)
    have Q := (Q5.later hb_w6 : Bx w6 _ _)
    obtain ⟨x0, x1⟩ := (X5.later hb_w6 : Bx w6 _ _)
    have o6 := (o5.later ((Below.refl _ _).alloc (Nat.le_refl _) _)).later hb_w6
    have eo6 := Lib.hid (eo5'.out.later hb_w6)
    clear hc_w6 hf_w6 P5 Q5 X5 o5
    obtain ⟨q0, q1⟩ := Q
    have hw6 : w.heap.size + 1 < w6.heap.size := by omega
    have n5 : ¬ (w5.heap.size = w.heap.size + 1) := by omega
    have n6 : ¬ (w.heap.size + 1 = w5.heap.size) := by omega
    go_wp2
    exact bodyPost_ret (res_p2 rfl rfl (g := w.heap.size + 1) (v0 := .slice (some ⟨g, 0, none⟩) l.length c4) (by first | exact World.cell?_setCell_same _ _ _ q0 | exact World.cell?_setCell_same _ _ _ (by first | exact q0 | (exact (World.cell?_alloc_lt _ _ ⟨_, _, _⟩ (by first | omega | (simp; omega) | simp)).trans q0) | (exact (World.cell?_alloc_lt _ _ ⟨_, _, _⟩ (by first | omega | (simp; omega) | simp)).trans ((World.cell?_alloc_lt _ _ ⟨_, _, _⟩ (by first | omega | (simp; omega) | simp)).trans q0)) | (simp [go_sem, q0]; done)) | exact (World.cell?_alloc_lt _ _ ⟨_, _, _⟩ (by first | omega | (simp; omega) | simp)).trans (World.cell?_setCell_same _ _ _ q0) | (simp [go_sem, q0]; done))) rfl ⟨_, c4, rfl, ⟨(eo6.out.far (by show w.heap.size + 1 < _; omega) _).mono (by omega), fun h => by cases h⟩, (by repeat (first | exact Below.refl _ _ | assumption | (refine below_drewN ?_ _) | (refine Below.drew ?_) | (refine Below.alloc ?_ (by first | omega | (simp; omega) | simp) _) | (refine Below.setCell ?_ (by first | omega | (simp; omega) | simp) _) | (refine below_trans ?_ (by assumption) (by first | omega | (simp; omega) | simp))))⟩
end
end Go.Proofs.YtloemeinpknamaaDoor
