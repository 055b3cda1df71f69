/- The walk of the law GreyOwn. -/
import Derived.Test.YtlaladhnidcoiaaG19
namespace Go.Proofs.Ytlaladhnidcoiaa
open Go.RowKit
set_option linter.unusedVariables false
set_option linter.unusedSimpArgs false

/-- L words stand at A, in blocks that may be written, unfrozen -/
def WRow (w : World) (al : Nat → Prop) (A : Option Addr) (L : Nat) : Prop := 0 < L → ∃ g off, A = some ⟨g, off, none⟩ ∧ al g ∧ g < w.heap.size ∧ ∀ i, i < L → (∃ x : Int, w.cell? ⟨g, off + i, none⟩ = some (.int .u64 x)) ∧ w.frozen? ⟨g, off + i, none⟩ = false
theorem WRow.store {w : World} {al : Nat → Prop} {A : Option Addr} {L : Nat} (h : WRow w al A L) (p : Addr) (y : Int) : WRow (w.setCell p (.int .u64 y)) al A L := fun hl => by
  obtain ⟨g, off, e, ha, hg, hc⟩ := h hl
  refine ⟨g, off, e, ha, by rw [World.size_setCell]; exact hg, fun i hi => ⟨?_, by rw [World.frozen?_setCell]; exact (hc i hi).2⟩⟩
  obtain ⟨x, hx⟩ := (hc i hi).1
  by_cases e2 : p = ⟨g, off + i, none⟩
  · subst e2
    exact ⟨y, World.cell?_setCell_same _ _ _ hx⟩
  · exact ⟨x, (World.cell?_setCell_other _ _ _ _ (by intro e3; first | exact e2 e3 | exact e2 e3.symm)).trans hx⟩
theorem WRow.later {w w' : World} {al : Nat → Prop} {A : Option Addr} {L : Nat} (h : WRow w al A L) (hb : Below w.heap.size w w') : WRow w' al A L := fun hl => by
  obtain ⟨g, off, e, ha, hg, hc⟩ := h hl
  refine ⟨g, off, e, ha, Nat.lt_of_lt_of_le hg hb.size, fun i hi => ⟨?_, ((bcell hb).2 _ _ hg).trans (hc i hi).2⟩⟩
  obtain ⟨x, hx⟩ := (hc i hi).1
  exact ⟨x, ((bcell hb).1 _ _ hg).trans hx⟩
/-- queues whose words may be written -/
def WG (w : World) (al : Nat → Prop) (A : Option Addr) (qs : List (List Nat)) : Prop := 0 < qs.length → ∃ g, A = some ⟨g, 0, none⟩ ∧ ¬ al g ∧ g < w.heap.size ∧ ∀ i, i < qs.length → ∃ Ai ci, w.cell? ⟨g, i, none⟩ = some (.slice Ai (nq qs i).length ci) ∧ WRow w al Ai (nq qs i).length
theorem WG.store {w : World} {al : Nat → Prop} {A : Option Addr} {qs : List (List Nat)} (h : WG w al A qs) {p : Addr} (hp : al p.block) (y : Int) : WG (w.setCell p (.int .u64 y)) al A qs := fun hl => by
  obtain ⟨g, e, ha, hg, hc⟩ := h hl
  refine ⟨g, e, ha, by rw [World.size_setCell]; exact hg, fun i hi => ?_⟩
  obtain ⟨Ai, ci, h1, h2⟩ := hc i hi
  exact ⟨Ai, ci, (World.cell?_setCell_other _ _ _ _ (by rintro rfl; exact ha hp)).trans h1, h2.store p y⟩
theorem WG.later {w w' : World} {al : Nat → Prop} {A : Option Addr} {qs : List (List Nat)} (h : WG w al A qs) (hb : Below w.heap.size w w') : WG w' al A qs := fun hl => by
  obtain ⟨g, e, ha, hg, hc⟩ := h hl
  refine ⟨g, e, ha, Nat.lt_of_lt_of_le hg hb.size, fun i hi => ?_⟩
  obtain ⟨Ai, ci, h1, h2⟩ := hc i hi
  exact ⟨Ai, ci, ((bcell hb).1 _ _ hg).trans h1, h2.later hb⟩
theorem WG.of {w : World} {B : Nat} {al : Nat → Prop} {A : Option Addr} {qs : List (List Nat)} (h : GOwn w B A qs) (hal : 0 < qs.length → ∀ g, A = some ⟨g, 0, none⟩ → ¬ al g) (ha : 0 < qs.length → ∀ g, B ≤ g → g < w.heap.size → (∀ o, A ≠ some ⟨g, o, none⟩) → al g) : WG w al A qs := fun hl => by
  obtain ⟨g, e, hB, hg, hc⟩ := h.at_ hl
  refine ⟨g, e, hal hl g e, hg, fun i hi => ?_⟩
  obtain ⟨Ai, ci, h1, h2, h3, _⟩ := hc i hi
  refine ⟨Ai, ci, h1, fun h0 => ?_⟩
  obtain ⟨g2, off, e2, hB2, hg2, hc2⟩ := h2.at_ h0
  refine ⟨g2, off, e2, ha hl g2 hB2 hg2 (fun o e3 => ?_), hg2, fun j hj => ⟨⟨_, (hc2 j hj).1⟩, (hc2 j hj).2⟩⟩
  rw [e] at e3
  injection e3 with e3
  injection e3 with e3
  subst e3
  exact h3 off e2
/-- what all rounds keep -/
structure OwnI (al : Nat → Prop) (w0 : World) (A2 A3 : Option Addr) (c2 c3 : Nat) (r1 r2 : List (List Nat)) (gS : Nat) (w : World) : Prop where
  bel : Below w0.heap.size w0 w
  a : WG w al A2 r1
  b : WG w al A3 r2
  s0 : w.cell? ⟨gS, 0, none⟩ = some (.slice A2 r1.length c2)
  s1 : w.cell? ⟨gS, 1, none⟩ = some (.slice A3 r2.length c3)
theorem OwnI.store {al : Nat → Prop} {w0 : World} {A2 A3 : Option Addr} {c2 c3 : Nat} {r1 r2 : List (List Nat)} {gS : Nat} {w : World} (h : OwnI al w0 A2 A3 c2 c3 r1 r2 gS w) (hal : ∀ g, al g → w0.heap.size ≤ g ∧ g ≠ gS) {p : Addr} (hp : al p.block) (y : Int) : OwnI al w0 A2 A3 c2 c3 r1 r2 gS (w.setCell p (.int .u64 y)) :=
  ⟨h.bel.setCell (hal _ hp).1 _, h.a.store hp y, h.b.store hp y, (World.cell?_setCell_other _ _ _ _ (by rintro rfl; exact (hal _ hp).2 rfl)).trans h.s0, (World.cell?_setCell_other _ _ _ _ (by rintro rfl; exact (hal _ hp).2 rfl)).trans h.s1⟩
theorem OwnI.alloc {al : Nat → Prop} {w0 : World} {A2 A3 : Option Addr} {c2 c3 : Nat} {r1 r2 : List (List Nat)} {gS : Nat} {w : World} (h : OwnI al w0 A2 A3 c2 c3 r1 r2 gS w) (o : Obj) : OwnI al w0 A2 A3 c2 c3 r1 r2 gS (w.alloc o) := by
  have hb : Below w.heap.size w (w.alloc o) := (Below.refl _ _).alloc (Nat.le_refl _) _
  have hg := World.block_lt_of_cell? w _ h.s0
  exact ⟨h.bel.trans (hb.mono h.bel.size), h.a.later hb, h.b.later hb, (World.cell?_alloc_lt _ _ ⟨gS, 0, none⟩ hg).trans h.s0, (World.cell?_alloc_lt _ _ ⟨gS, 1, none⟩ hg).trans h.s1⟩
theorem PushE.lim {qs r : List (List Nat)} {x : Int} {us : List Nat} {y : Int} (h : PushE qs x us r y) : r.length ≤ qs.length := by
  rcases h with ⟨_, rfl, _⟩ | ⟨_, _, rfl, _⟩ | ⟨_, _, _, _, rfl⟩ | ⟨_, _, _, _, rfl⟩
  all_goals simp
set_option maxHeartbeats 8000000 in
theorem greyOwn_walk (A : Option Addr) (cap : Nat) (qs : List (List Nat)) (x : Int) (a : Nat) (w : World) (hr : GRow w A qs) (hx : -9223372036854775808 ≤ x ∧ x ≤ 9223372036854775807) (ha : a < W64) :
    Calls Try.prog 8 #[.agg #[.slice A qs.length cap], .int .i64 x, .int .u64 (a : Nat)] w fun e w' => e = .returned (.bool true) ∧ Below w.heap.size w w' := by
  obtain ⟨r1, y1, hE1⟩ := PushE.ex qs x [a]
  obtain ⟨r2, a2, s2, y2, hE2⟩ := PopE.ex qs x
  have HCP := Lib.hid fun (w : World) hr => xgcopy_any (w := w) (A := A) (qs := qs) cap hr
  have HP0 := fun (w : World) (K : Option Addr) hr hu => gpush_any (w := w) (A := A) (U := K) (qs := qs) (us := [a]) cap 1 hr x hx hu (by simp) _ _ hE1
  have HP := Lib.hid fun (w : World) {K : Option Addr} hr hu => HP0 w K hr hu
  have HO := Lib.hid fun (w : World) hr => gpop_any (w := w) (A := A) (qs := qs) cap hr x hx _ _ _ _ hE2
  have HN := Lib.hid fun (W : World) (g : Nat) hg => row_lit W a ha g hg
  have HS := Lib.hid fun (w : World) (A C : Option Addr) (ca cc : Nat) hr hq => xgsame_self w A C ca cc qs hr hq
  unfold TwinG at HCP
  unfold PushG at HP
  unfold PopG at HO
  unfold gv at *
  clear hE1 hE2 HP0
  go_enter Try.func8, Try.ntmps8
  go_wp2_with fail
  go_at_call 14
  refine (glives_any _).mono ?_
  rintro e w0 ⟨rfl, hb_w0⟩
  obtain ⟨hc_w0, hf_w0⟩ := bcell hb_w0; have hs_w0 := hb_w0.size; (try simp only [World.size_alloc, World.size_setCell, World.size_drew, World.heap_drewN] at hs_w0)
  have k_w0 : Below w.heap.size w w0 := (by repeat (first | exact Below.refl _ _ | assumption | (refine below_drewN ?_ _) | (refine Below.drew ?_) | (refine Below.alloc ?_ (by first | omega | (simp; omega) | simp) _) | (refine Below.setCell ?_ (by first | omega | (simp; omega) | simp) _) | (refine below_trans ?_ (by assumption) (by first | omega | (simp; omega) | simp))))
  have b_w0 := k_w0
  have P3 := ((Bx.new w _ _).later hb_w0 : Bx w0 _ _)
  (try simp only [World.size_alloc] at P3)
  clear hc_w0 hf_w0
  obtain ⟨P3_c, P3_f⟩ := id P3
  have P3_l := P3.lt
  go_wp2_with fail
  go_at_call 9
  refine (HCP.out _ ((hr.later b_w0).later (by repeat (first | exact Below.refl _ _ | assumption | (refine below_drewN ?_ _) | (refine Below.drew ?_) | (refine Below.alloc ?_ (by first | omega | (simp; omega) | simp) _) | (refine Below.setCell ?_ (by first | omega | (simp; omega) | simp) _) | (refine below_trans ?_ (by assumption) (by first | omega | (simp; omega) | simp)))))).mono ?_
  rintro e w1 ⟨B1, c1, vs1, rfl, hv1, o1, hb_w1⟩
  obtain ⟨hc_w1, hf_w1⟩ := bcell hb_w1; have hs_w1 := hb_w1.size; (try simp only [World.size_alloc, World.size_setCell, World.size_drew, World.heap_drewN] at hs_w1)
  have k_w1 : Below w0.heap.size w0 w1 := (by repeat (first | exact Below.refl _ _ | assumption | (refine below_drewN ?_ _) | (refine Below.drew ?_) | (refine Below.alloc ?_ (by first | omega | (simp; omega) | simp) _) | (refine Below.setCell ?_ (by first | omega | (simp; omega) | simp) _) | (refine below_trans ?_ (by assumption) (by first | omega | (simp; omega) | simp))))
  have b_w1 : Below w.heap.size w w1 := below_trans b_w0 k_w1 (by first | omega | (simp; omega) | simp)
  clear P3_c P3_f P3_l
  have P3 := (P3.later k_w1 : Bx w1 _ _)
  clear hc_w1 hf_w1
  obtain ⟨P3_c, P3_f⟩ := id P3
  have P3_l := P3.lt
  have rg0 : GRow w1 B1 qs := by rw [← hv1]; exact (o1.own (by rw [hv1]; exact hr.lim)).row
  clear o1 hv1
  have rg := rg0
  go_wp2_with fail
  go_at_call 10
  refine (HP.out _ ((hr.later b_w1).later (by repeat (first | exact Below.refl _ _ | assumption | (refine below_drewN ?_ _) | (refine Below.drew ?_) | (refine Below.alloc ?_ (by first | omega | (simp; omega) | simp) _) | (refine Below.setCell ?_ (by first | omega | (simp; omega) | simp) _) | (refine below_trans ?_ (by assumption) (by first | omega | (simp; omega) | simp))))) (by exact HN.out _ _ (by simp))).mono ?_
  rintro e w2 ⟨B2, c2, rfl, o2, hb_w2⟩
  obtain ⟨hc_w2, hf_w2⟩ := bcell hb_w2; have hs_w2 := hb_w2.size; (try simp only [World.size_alloc, World.size_setCell, World.size_drew, World.heap_drewN] at hs_w2)
  have k_w2 : Below w1.heap.size w1 w2 := (by repeat (first | exact Below.refl _ _ | assumption | (refine below_drewN ?_ _) | (refine Below.drew ?_) | (refine Below.alloc ?_ (by first | omega | (simp; omega) | simp) _) | (refine Below.setCell ?_ (by first | omega | (simp; omega) | simp) _) | (refine below_trans ?_ (by assumption) (by first | omega | (simp; omega) | simp))))
  have b_w2 : Below w.heap.size w w2 := below_trans b_w1 k_w2 (by first | omega | (simp; omega) | simp)
  clear P3_c P3_f P3_l
  have P3 := (P3.later k_w2 : Bx w2 _ _)
  have P7 := (((Bx.new w1 _ _).alloc _).later hb_w2 : Bx w2 _ _)
  (try simp only [World.size_alloc] at P7)
  have rg := rg.later k_w2
  clear hc_w2 hf_w2
  obtain ⟨P3_c, P3_f⟩ := id P3
  have P3_l := P3.lt
  obtain ⟨P7_c, P7_f⟩ := id P7
  have P7_l := P7.lt
  go_wp2_with fail
  go_at_call 12
  refine (HO.out _ ((hr.later b_w2).later (by repeat (first | exact Below.refl _ _ | assumption | (refine below_drewN ?_ _) | (refine Below.drew ?_) | (refine Below.alloc ?_ (by first | omega | (simp; omega) | simp) _) | (refine Below.setCell ?_ (by first | omega | (simp; omega) | simp) _) | (refine below_trans ?_ (by assumption) (by first | omega | (simp; omega) | simp)))))).mono ?_
  rintro e w3 ⟨B3, c3, rfl, o3, hb_w3⟩
  obtain ⟨hc_w3, hf_w3⟩ := bcell hb_w3; have hs_w3 := hb_w3.size; (try simp only [World.size_alloc, World.size_setCell, World.size_drew, World.heap_drewN] at hs_w3)
  have k_w3 : Below w2.heap.size w2 w3 := (by repeat (first | exact Below.refl _ _ | assumption | (refine below_drewN ?_ _) | (refine Below.drew ?_) | (refine Below.alloc ?_ (by first | omega | (simp; omega) | simp) _) | (refine Below.setCell ?_ (by first | omega | (simp; omega) | simp) _) | (refine below_trans ?_ (by assumption) (by first | omega | (simp; omega) | simp))))
  have b_w3 : Below w.heap.size w w3 := below_trans b_w2 k_w3 (by first | omega | (simp; omega) | simp)
  clear P3_c P3_f P3_l
  have P3 := (P3.later k_w3 : Bx w3 _ _)
  clear P7_c P7_f P7_l
  have P7 := (P7.later k_w3 : Bx w3 _ _)
  have P8 := ((Bx.new w2 _ _).later hb_w3 : Bx w3 _ _)
  (try simp only [World.size_alloc] at P8)
  have rg := rg.later k_w3
  clear hc_w3 hf_w3
  obtain ⟨P3_c, P3_f⟩ := id P3
  have P3_l := P3.lt
  obtain ⟨P7_c, P7_f⟩ := id P7
  have P7_l := P7.lt
  obtain ⟨P8_c, P8_f⟩ := id P8
  have P8_l := P8.lt
  have hW1 : (w1.alloc (.cells #[.slice B1 qs.length c1] 24)).heap.size = w1.heap.size + 1 := by simp
  have P7W := Bx.new w1 (.slice B1 qs.length c1) 24
  have P3W : Bx (w1.alloc (.cells #[.slice B1 qs.length c1] 24)) w.heap.size (.slice A qs.length cap) := (((Bx.new w (.slice A qs.length cap) 24).later hb_w0).later hb_w1).alloc _
  have rgW := rg0.later ((Below.refl _ _).alloc (Nat.le_refl _) (.cells #[.slice B1 qs.length c1] 24))
  have bW : Below w.heap.size w (w1.alloc (.cells #[.slice B1 qs.length c1] 24)) := b_w1.alloc (by first | omega | (simp; omega) | simp) _
  have hrW := hr.later bW
  have hz12 : w1.heap.size + 2 ≤ w2.heap.size := by have := hb_w2.size; simpa using this
  have hz23 : w2.heap.size + 1 ≤ w3.heap.size := by have := hb_w3.size; simpa using this
  have l1 := o2.lim
  have l2 := o3.lim
  have hd2 : 0 < r1.length → ∃ g, B2 = some ⟨g, 0, none⟩ ∧ w1.heap.size + 2 ≤ g ∧ g < w2.heap.size := fun h => by
    obtain ⟨g, e, hB, hg, _⟩ := o2.at_ h
    exact ⟨g, e, by simpa using hB, hg⟩
  have hd3 : 0 < r2.length → ∃ g, B3 = some ⟨g, 0, none⟩ ∧ w2.heap.size + 1 ≤ g ∧ g < w3.heap.size := fun h => by
    obtain ⟨g, e, hB, hg, _⟩ := o3.at_ h
    exact ⟨g, e, by simpa using hB, hg⟩
  obtain ⟨al, hal⟩ : ∃ al : Nat → Prop, al = fun g => w1.heap.size + 1 ≤ g ∧ g < w3.heap.size ∧ (0 < r1.length → ∀ o, B2 ≠ some ⟨g, o, none⟩) ∧ (0 < r2.length → ∀ o, B3 ≠ some ⟨g, o, none⟩) := ⟨_, rfl⟩
  have hwa : WG w2 al B2 r1 := WG.of o2 (fun hl g e => by rw [hal]; exact fun h => h.2.2.1 hl 0 e) (fun hl g hB hg hne => by
    rw [hal]
    have hB : w1.heap.size + 2 ≤ g := by simpa using hB
    refine ⟨by omega, by omega, fun _ => hne, fun h o e => ?_⟩
    obtain ⟨g3, e3, h3, _⟩ := hd3 h
    rw [e3] at e
    injection e with e
    injection e with e
    omega)
  have hwb : WG w3 al B3 r2 := WG.of o3 (fun hl g e => by rw [hal]; exact fun h => h.2.2.2 hl 0 e) (fun hl g hB hg hne => by
    rw [hal]
    have hB : w2.heap.size + 1 ≤ g := by simpa using hB
    refine ⟨by omega, by omega, fun h o e => ?_, fun _ => hne⟩
    obtain ⟨g3, e3, _, h3⟩ := hd2 h
    rw [e3] at e
    injection e with e
    injection e with e
    omega)
  have hal2 : ∀ g, al g → (w1.alloc (.cells #[.slice B1 qs.length c1] 24)).heap.size ≤ g ∧ g ≠ w3.heap.size + 1 := fun g h => by
    rw [hal] at h
    obtain ⟨h1, h2, _⟩ := h
    rw [hW1]
    exact ⟨h1, by omega⟩
  have k23 : Below w2.heap.size w2 w3 := ((Below.refl _ _).alloc (Nat.le_refl _) _).trans (hb_w3.mono (by first | omega | (simp; omega) | simp))
  have k12 : Below (w1.alloc (.cells #[.slice B1 qs.length c1] 24)).heap.size (w1.alloc (.cells #[.slice B1 qs.length c1] 24)) w2 := ((Below.refl _ _).alloc (Nat.le_refl _) _).trans (hb_w2.mono (by first | omega | (simp; omega) | simp))
  have k34 : Below w3.heap.size w3 ((w3.alloc (.cells #[.slice B3 r2.length c3] 24)).alloc (.cells #[.slice B2 r1.length c2, .slice B3 r2.length c3] 24)) := (by repeat (first | exact Below.refl _ _ | assumption | (refine below_drewN ?_ _) | (refine Below.drew ?_) | (refine Below.alloc ?_ (by first | omega | (simp; omega) | simp) _) | (refine Below.setCell ?_ (by first | omega | (simp; omega) | simp) _) | (refine below_trans ?_ (by assumption) (by first | omega | (simp; omega) | simp))))
  have hI : OwnI al (w1.alloc (.cells #[.slice B1 qs.length c1] 24)) B2 B3 c2 c3 r1 r2 (w3.heap.size + 1) ((w3.alloc (.cells #[.slice B3 r2.length c3] 24)).alloc (.cells #[.slice B2 r1.length c2, .slice B3 r2.length c3] 24)) :=
    ⟨(k12.trans (k23.mono (by rw [hW1]; omega))).trans (k34.mono (by rw [hW1]; omega)), (hwa.later k23).later k34, hwb.later k34, by have := heap_alloc_new (w3.alloc (.cells #[.slice B3 r2.length c3] 24)) (.cells #[.slice B2 r1.length c2, .slice B3 r2.length c3] 24); rw [World.size_alloc] at this; rw [cell_of_row _ _ 0 _ _ (0, 0) this]; rfl, by have := heap_alloc_new (w3.alloc (.cells #[.slice B3 r2.length c3] 24)) (.cells #[.slice B2 r1.length c2, .slice B3 r2.length c3] 24); rw [World.size_alloc] at this; rw [cell_of_row _ _ 1 _ _ (0, 0) this]; rfl⟩
  clear o2 o3 hwa hwb hd2 hd3 hal k23 k12 k34 rg
  have HAL := Lib.hid hal2
  have HI0 := Lib.hid hI
  clear hal2 hI
  go_wp2_with fail
  generalize ((w3.alloc (.cells #[.slice B3 r2.length c3] 24)).alloc (.cells #[.slice B2 r1.length c2, .slice B3 r2.length c3] 24)) = w4 at *
  generalize (w1.alloc (.cells #[.slice B1 qs.length c1] 24)) = wW at *
  generalize hgS : w3.heap.size + 1 = gS at *
  clear hgS P3 P7 P8 P3_c P3_f P3_l P7_c P7_f P7_l P8_c P8_f P8_l
  go_loopw [43] (fun ii wr => ∃ i : Nat, ii = .int .i64 (i : Nat) ∧ i ≤ 2 ∧ OwnI al wW B2 B3 c2 c3 r1 r2 gS wr) (fun ii _ => 2 - (intOf ii).toNat)
  case atStart => exact ⟨0, rfl, Nat.zero_le _, HI0.out⟩
  case round =>
    obtain ⟨i, rfl, hi, hI⟩ := hrel
    by_cases hlt : i < 2
    · have hpick : ∃ A' c' r', Hid (wr.cell? ⟨gS, i, none⟩ = some (.slice A' (List.length r') c')) ∧ Hid (∀ W, OwnI al wW B2 B3 c2 c3 r1 r2 gS W → WG W al A' r') ∧ QLim r' := by
        have h2 : i = 0 ∨ i = 1 := by omega
        rcases h2 with rfl | rfl
        · exact ⟨B2, c2, r1, Lib.hid hI.s0, Lib.hid fun W h => h.a, l1⟩
        · exact ⟨B3, c3, r2, Lib.hid hI.s1, Lib.hid fun W h => h.b, l2⟩
      obtain ⟨A', c', r', hs, hW, hlm⟩ := hpick
      have hs := hs.out
      obtain ⟨n, hn⟩ : ∃ n, Hid (r'.length = n) := ⟨_, rfl⟩
      have hnl : n ≤ 5864062014805 := by rw [← hn.out]; exact hlm.many
      rw [hn.out] at hs
      have i1 : (i : Int) < 2 := by omega
      have i2 : (0 : Int) ≤ (i : Int) := by omega
      have hIa := Lib.hid (hI.alloc (.cells #[.slice A' n c'] 24))
      clear hI
      go_wp2_with fail
      generalize (wr.alloc (.cells #[.slice A' n c'] 24)) = wA at *
      clear hs
      go_loopw [50] (fun kk wr => ∃ k : Nat, kk = .int .i64 (k : Nat) ∧ k ≤ n ∧ OwnI al wW B2 B3 c2 c3 r1 r2 gS wr) (fun kk _ => n - (intOf kk).toNat)
      case atStart => exact ⟨0, rfl, Nat.zero_le _, hIa.out⟩
      case round =>
        clear hIa
        generalize wr = wB at *
        obtain ⟨k, rfl, hk, hI⟩ := hrel
        by_cases hlt2 : k < n
        · obtain ⟨g, eg, _, _, hc⟩ := hW.out _ hI (by rw [hn.out]; omega)
          obtain ⟨Ak, ck, q1, hwr⟩ := hc k (by rw [hn.out]; exact hlt2)
          have hql := hlm.each k
          generalize (nq r' k).length = Lk at *
          subst eg
          have j1 : (k : Int) < (n : Int) := by omega
          have j2 : (0 : Int) ≤ (k : Int) := by omega
          have hIb := Lib.hid hI
          have hWb := Lib.hid hwr
          clear hI hwr hc
          go_wp2_with fail
          clear q1
          go_loopw [56] (fun jj wr => ∃ j : Nat, jj = .int .i64 (j : Nat) ∧ j ≤ Lk ∧ OwnI al wW B2 B3 c2 c3 r1 r2 gS wr ∧ WRow wr al Ak Lk) (fun jj _ => Lk - (intOf jj).toNat)
          case atStart => exact ⟨0, rfl, Nat.zero_le _, hIb.out, hWb.out⟩
          case round =>
            clear hIb hWb
            generalize wr = wC at *
            obtain ⟨j, rfl, hj, hI, hwr⟩ := hrel
            by_cases hlt3 : j < Lk
            · obtain ⟨gr, off, rfl, har, hgr, hcr⟩ := hwr (by omega)
              obtain ⟨⟨v, hv⟩, hf⟩ := hcr j hlt3
              have x1 : (j : Int) < (Lk : Int) := by omega
              have x2 : (0 : Int) ≤ (j : Int) := by omega
              have hI2 := Lib.hid (hI.store HAL.out (p := ⟨gr, off + j, none⟩) har (IntKind.u64.wrap (v + 7)))
              have hW2 := Lib.hid (hwr.store ⟨gr, off + j, none⟩ (IntKind.u64.wrap (v + 7)))
              clear hI hwr hcr
              go_wp2
              go_roundw
              case rel => exact ⟨j + 1, by go_num, by omega, hI2.out, hW2.out⟩
              case measure => simp [intOf]; omega
            · obtain rfl : j = Lk := by omega
              have hI2 := Lib.hid hI
              clear hI hwr
              go_wp2
              go_roundw
              case rel => exact ⟨k + 1, by go_num, by omega, hI2.out⟩
              case measure => simp [intOf]; omega
        · have hI2 := Lib.hid hI
          clear hI
          go_wp2
          go_roundw
          case rel => exact ⟨i + 1, by go_num, by omega, hI2.out⟩
          case measure => simp [intOf]; omega
    · have bF : Below w.heap.size w wr := bW.trans (hI.bel.mono bW.size)
      have P3F := P3W.later hI.bel
      have P7F := P7W.later hI.bel
      obtain ⟨p30, _⟩ := id P3F
      obtain ⟨p70, _⟩ := id P7F
      have rgF := rgW.later hI.bel
      have hrF := hrW.later hI.bel
      clear hI P3F P7F
      go_wp2_with fail
      go_at_call 15
      refine (HS.out _ _ _ _ _ (hrF.later (by repeat (first | exact Below.refl _ _ | assumption | (refine below_drewN ?_ _) | (refine Below.drew ?_) | (refine Below.alloc ?_ (by first | omega | (simp; omega) | simp) _) | (refine Below.setCell ?_ (by first | omega | (simp; omega) | simp) _) | (refine below_trans ?_ (by assumption) (by first | omega | (simp; omega) | simp))))) (rgF.later (by repeat (first | exact Below.refl _ _ | assumption | (refine below_drewN ?_ _) | (refine Below.drew ?_) | (refine Below.alloc ?_ (by first | omega | (simp; omega) | simp) _) | (refine Below.setCell ?_ (by first | omega | (simp; omega) | simp) _) | (refine below_trans ?_ (by assumption) (by first | omega | (simp; omega) | simp)))))).mono ?_
      rintro e w5 ⟨rfl, hb_w5⟩
      go_wp2
      go_ret
      exact ⟨rfl, bF.trans (hb_w5.mono bF.size)⟩
end Go.Proofs.Ytlaladhnidcoiaa
