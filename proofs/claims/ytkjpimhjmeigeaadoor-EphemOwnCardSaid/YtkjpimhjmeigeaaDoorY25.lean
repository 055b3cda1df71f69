/- The walk of the law EphemOwn. -/
import Derived.Test.YtkjpimhjmeigeaaDoorY22
namespace Go.Proofs.YtkjpimhjmeigeaaDoor
open Go.RowKit
set_option linter.unusedVariables false
set_option linter.unusedSimpArgs false

/-- values of slots that may be written, between blocks M and G -/
def TabV (w : World) (M G : Nat) (A : Option Addr) (n : Nat) : Prop :=
  0 < n → ∃ g, A = some ⟨g, 0, none⟩ ∧ M ≤ g ∧ g < G ∧ g < w.heap.size ∧ ∀ i, i < n → (∃ z : Int, w.cell? ⟨g, i * 3 + 2, none⟩ = some (.int .u64 z)) ∧ w.frozen? ⟨g, i * 3 + 2, none⟩ = false
theorem TabV.later {w w' : World} {M G n : Nat} {A : Option Addr} (h : TabV w M G A n) (hb : Below w.heap.size w w') : TabV w' M G A n := fun hn => by
  obtain ⟨g, e, h1, h2, h3, hc⟩ := h hn
  refine ⟨g, e, h1, h2, Nat.lt_of_lt_of_le h3 hb.size, fun i hi => ?_⟩
  obtain ⟨⟨z, hz⟩, hf⟩ := hc i hi
  exact ⟨⟨z, ((bcell hb).1 _ _ h3).trans hz⟩, ((bcell hb).2 _ _ h3).trans hf⟩
theorem TabV.more {w : World} {M M' G G' n : Nat} {A : Option Addr} (h : TabV w M G A n) (hM : M' ≤ M) (hG : G ≤ G') : TabV w M' G' A n := fun hn => by
  obtain ⟨g, e, h1, h2, h3, hc⟩ := h hn
  exact ⟨g, e, by omega, by omega, h3, hc⟩
theorem TabV.set {w : World} {M G n : Nat} {A : Option Addr} (h : TabV w M G A n) (p : Addr) (x : Int) : TabV (w.setCell p (.int .u64 x)) M G A n := fun hn => by
  obtain ⟨g, e, h1, h2, h3, hc⟩ := h hn
  refine ⟨g, e, h1, h2, by rw [World.size_setCell]; exact h3, fun i hi => ?_⟩
  obtain ⟨⟨z, hz⟩, hf⟩ := hc i hi
  refine ⟨?_, by rw [World.frozen?_setCell]; exact hf⟩
  by_cases hp : p = ⟨g, i * 3 + 2, none⟩
  · subst hp
    exact ⟨x, World.cell?_setCell_same _ _ _ hz⟩
  · exact ⟨z, (World.cell?_setCell_other _ _ _ _ hp).trans hz⟩
theorem TabV.of {w : World} {B : Nat} {A : Option Addr} {l : List Es} (h : EOwn w B A l) : TabV w B w.heap.size A l.length := fun hn => by
  obtain ⟨g, e, h1, h2, hc, hf⟩ := h.at_ hn
  exact ⟨g, e, h1, h2, h2, fun i hi => ⟨⟨_, (hc i hi).c2⟩, hf _⟩⟩
/-- the two tables, and where they are listed -/
def RV (w : World) (M G : Nat) (Bs : Nat → Option Addr) (ns cs : Nat → Nat) : Prop :=
  M ≤ G ∧ G < w.heap.size ∧ ∀ j, j < 2 → w.cell? ⟨G, j, none⟩ = some (.slice (Bs j) (ns j) (cs j)) ∧ TabV w M G (Bs j) (ns j)
theorem RV.later {w w' : World} {M G : Nat} {Bs : Nat → Option Addr} {ns cs : Nat → Nat} (h : RV w M G Bs ns cs) (hb : Below w.heap.size w w') : RV w' M G Bs ns cs :=
  ⟨h.1, Nat.lt_of_lt_of_le h.2.1 hb.size, fun j hj => ⟨((bcell hb).1 _ _ h.2.1).trans (h.2.2 j hj).1, (h.2.2 j hj).2.later hb⟩⟩
theorem RV.set {w : World} {M G g o : Nat} {Bs : Nat → Option Addr} {ns cs : Nat → Nat} (h : RV w M G Bs ns cs) (hg : g < G) (x : Int) : RV (w.setCell ⟨g, o, none⟩ (.int .u64 x)) M G Bs ns cs :=
  ⟨h.1, by rw [World.size_setCell]; exact h.2.1, fun j hj => ⟨(World.cell?_setCell_far _ ⟨g, o, none⟩ ⟨G, j, none⟩ _ (by show g ≠ G; omega)).trans (h.2.2 j hj).1, (h.2.2 j hj).2.set _ x⟩⟩
theorem RV.make {w : World} {M n1 n2 c1 c2 : Nat} {B1 B2 : Option Addr} (hn1 : n1 ≤ 5864062014805) (hn2 : n2 ≤ 5864062014805) (hM : M ≤ w.heap.size) (h1 : TabV w M w.heap.size B1 n1) (h2 : TabV w M w.heap.size B2 n2) (v : Value) :
    ∃ (Bs : Nat → Option Addr) (ns cs : Nat → Nat), RV ((w.alloc (.cells #[v] 24)).alloc (.cells #[.slice B1 n1 c1, .slice B2 n2 c2] 24)) M (w.heap.size + 1) Bs ns cs ∧ ∀ j, ns j ≤ 5864062014805 := by
  have hb : Below w.heap.size w ((w.alloc (.cells #[v] 24)).alloc (.cells #[.slice B1 n1 c1, .slice B2 n2 c2] 24)) := (by repeat (first | exact Below.refl _ _ | assumption | (refine below_drewN ?_ _) | (refine Below.drew ?_) | (refine Below.alloc ?_ (by first | omega | (simp; omega) | simp) _) | (refine Below.setCell ?_ (by first | omega | (simp; omega) | simp) _) | (refine below_trans ?_ (by assumption) (by first | omega | (simp; omega) | simp))))
  refine ⟨fun j => if j = 0 then B1 else B2, fun j => if j = 0 then n1 else n2, fun j => if j = 0 then c1 else c2, ⟨by omega, by simp, fun j hj => ?_⟩, fun j => by show (if j = 0 then n1 else n2) ≤ _; split <;> assumption⟩
  have : j = 0 ∨ j = 1 := by omega
  rcases this with rfl | rfl
  · exact ⟨by simp [go_sem], (h1.later hb).more (Nat.le_refl _) (by omega)⟩
  · exact ⟨by simp [go_sem], (h2.later hb).more (Nat.le_refl _) (by omega)⟩
set_option maxHeartbeats 4000000 in
set_option maxRecDepth 100000 in
theorem ephemOwn_walk (A : Option Addr) (cap : Nat) (l : List Es) (key : Nat) (w : World) (hT : Tz w) (hr : ERow w w.heap.size A l) (hl : l.length ≤ 5864062014805) (hnil : A = none → cap = 0) (hkey : key < W64) :
    Calls Tryd.prog 8 #[eph A l.length cap, .int .u64 (key : Nat)] w fun e w' => e = .returned (.bool true) ∧ Below w.heap.size w w' := by
  obtain ⟨r1, y1, hE1⟩ := PutT.ex l key 1
  obtain ⟨r2, m2, y2, hE2⟩ := DelT.ex l [key]
  have h1W : 1 < W64 := by decide
  have HCP := Lib.hid fun (w : World) hr => excopy_any (w := w) (A := A) (l := l) cap hr hl
  unfold CopR at HCP
  have HP := Lib.hid fun (w : World) hT hr => eput_any (w := w) (A := A) (l := l) cap hT hr hl hnil key 1 hkey h1W _ _ hE1
  have HD := Lib.hid fun (w : World) (K : Option Addr) hT hr hq => edel_any (w := w) (A := A) (K := K) (l := l) (ks := [key]) cap 1 hT hr hl hnil hq (by simp) _ _ _ hE2
  unfold PutR at HP
  unfold DelR at HD
  simp only [List.length_cons, List.length_nil, Nat.zero_add] at HD
  have HN := Lib.hid fun (w : World) (g : Nat) hg => row_oneG w g key hg hkey
  have HS := Lib.hid fun (w : World) (A C : Option Addr) (ca cc : Nat) hr hq => esame_self (w := w) A C ca cc l hl hr hq
  have hn1 := hE1.len hl
  have hn2 := hE2.len hl
  clear hE1 hE2
  unfold eph at *
  go_enter Tryd.func8, Tryd.ntmps8
  go_wp2_with fail
  go_at_call 15
  refine (elives_any _ (hT.later (by repeat (first | exact Below.refl _ _ | assumption | (refine below_drewN ?_ _) | (refine Below.drew ?_) | (refine Below.alloc ?_ (by first | omega | (simp; omega) | simp) _) | (refine Below.setCell ?_ (by first | omega | (simp; omega) | simp) _) | (refine below_trans ?_ (by assumption) (by first | omega | (simp; omega) | simp)))))).mono ?_
  rintro e w1 ⟨rfl, hb_w1⟩
  obtain ⟨hc_w1, hf_w1⟩ := bcell hb_w1; have hs_w1 := hb_w1.size; (try simp only [World.size_alloc, World.size_setCell, World.size_drew, World.heap_drewN] at hs_w1)
  have k_w1 : Below w.heap.size w w1 := (by repeat (first | exact Below.refl _ _ | assumption | (refine below_drewN ?_ _) | (refine Below.drew ?_) | (refine Below.alloc ?_ (by first | omega | (simp; omega) | simp) _) | (refine Below.setCell ?_ (by first | omega | (simp; omega) | simp) _) | (refine below_trans ?_ (by assumption) (by first | omega | (simp; omega) | simp))))
  have b_w1 := k_w1
  have P2 := ((Bx.new w _ _).later hb_w1 : Bx w1 _ _)
  (try simp only [World.size_alloc] at P2)
  clear hc_w1 hf_w1
  obtain ⟨P2_c, P2_f⟩ := id P2
  have P2_l := P2.lt
  go_wp2_with fail
  go_at_call 10
  refine (HCP.out _ (hr.later (by repeat (first | exact Below.refl _ _ | assumption | (refine below_drewN ?_ _) | (refine Below.drew ?_) | (refine Below.alloc ?_ (by first | omega | (simp; omega) | simp) _) | (refine Below.setCell ?_ (by first | omega | (simp; omega) | simp) _) | (refine below_trans ?_ (by assumption) (by first | omega | (simp; omega) | simp)))))).mono ?_
  rintro e w2 ⟨B1, c1, rfl, o1, hb_w2⟩
  obtain ⟨hc_w2, hf_w2⟩ := bcell hb_w2; have hs_w2 := hb_w2.size; (try simp only [World.size_alloc, World.size_setCell, World.size_drew, World.heap_drewN] at hs_w2)
  have k_w2 : Below w1.heap.size w1 w2 := (by repeat (first | exact Below.refl _ _ | assumption | (refine below_drewN ?_ _) | (refine Below.drew ?_) | (refine Below.alloc ?_ (by first | omega | (simp; omega) | simp) _) | (refine Below.setCell ?_ (by first | omega | (simp; omega) | simp) _) | (refine below_trans ?_ (by assumption) (by first | omega | (simp; omega) | simp))))
  have b_w2 : Below w.heap.size w w2 := below_trans b_w1 k_w2 (by first | omega | (simp; omega) | simp)
  clear P2_c P2_f P2_l
  have P2 := (P2.later k_w2 : Bx w2 _ _)
  clear hc_w2 hf_w2
  obtain ⟨P2_c, P2_f⟩ := id P2
  have P2_l := P2.lt
  have rg := o1.row
  go_wp2_with fail
  go_at_call 11
  refine (HP.out _ (hT.later (by repeat (first | exact Below.refl _ _ | assumption | (refine below_drewN ?_ _) | (refine Below.drew ?_) | (refine Below.alloc ?_ (by first | omega | (simp; omega) | simp) _) | (refine Below.setCell ?_ (by first | omega | (simp; omega) | simp) _) | (refine below_trans ?_ (by assumption) (by first | omega | (simp; omega) | simp))))) ((hr.later b_w2).later (by repeat (first | exact Below.refl _ _ | assumption | (refine below_drewN ?_ _) | (refine Below.drew ?_) | (refine Below.alloc ?_ (by first | omega | (simp; omega) | simp) _) | (refine Below.setCell ?_ (by first | omega | (simp; omega) | simp) _) | (refine below_trans ?_ (by assumption) (by first | omega | (simp; omega) | simp)))))).mono ?_
  rintro e w3 ⟨B2, c2, rfl, o2, hb_w3⟩
  obtain ⟨hc_w3, hf_w3⟩ := bcell hb_w3; have hs_w3 := hb_w3.size; (try simp only [World.size_alloc, World.size_setCell, World.size_drew, World.heap_drewN] at hs_w3)
  have k_w3 : Below w2.heap.size w2 w3 := (by repeat (first | exact Below.refl _ _ | assumption | (refine below_drewN ?_ _) | (refine Below.drew ?_) | (refine Below.alloc ?_ (by first | omega | (simp; omega) | simp) _) | (refine Below.setCell ?_ (by first | omega | (simp; omega) | simp) _) | (refine below_trans ?_ (by assumption) (by first | omega | (simp; omega) | simp))))
  have b_w3 : Below w.heap.size w w3 := below_trans b_w2 k_w3 (by first | omega | (simp; omega) | simp)
  clear P2_c P2_f P2_l
  have P2 := (P2.later k_w3 : Bx w3 _ _)
  have P5 := ((Bx.new w2 _ _).later hb_w3 : Bx w3 _ _)
  (try simp only [World.size_alloc] at P5)
  have rg := rg.later k_w3
  clear hc_w3 hf_w3
  obtain ⟨P2_c, P2_f⟩ := id P2
  have P2_l := P2.lt
  obtain ⟨P5_c, P5_f⟩ := id P5
  have P5_l := P5.lt
  go_wp2_with fail
  go_at_call 13
  refine (HD.out _ _ (hT.later (by repeat (first | exact Below.refl _ _ | assumption | (refine below_drewN ?_ _) | (refine Below.drew ?_) | (refine Below.alloc ?_ (by first | omega | (simp; omega) | simp) _) | (refine Below.setCell ?_ (by first | omega | (simp; omega) | simp) _) | (refine below_trans ?_ (by assumption) (by first | omega | (simp; omega) | simp))))) ((hr.later b_w3).later (by repeat (first | exact Below.refl _ _ | assumption | (refine below_drewN ?_ _) | (refine Below.drew ?_) | (refine Below.alloc ?_ (by first | omega | (simp; omega) | simp) _) | (refine Below.setCell ?_ (by first | omega | (simp; omega) | simp) _) | (refine below_trans ?_ (by assumption) (by first | omega | (simp; omega) | simp))))) (by exact HN.out _ _ (by simp))).mono ?_
  rintro e w4 ⟨B3, c3, rfl, o3, hb_w4⟩
  obtain ⟨hc_w4, hf_w4⟩ := bcell hb_w4; have hs_w4 := hb_w4.size; (try simp only [World.size_alloc, World.size_setCell, World.size_drew, World.heap_drewN] at hs_w4)
  have k_w4 : Below w3.heap.size w3 w4 := (by repeat (first | exact Below.refl _ _ | assumption | (refine below_drewN ?_ _) | (refine Below.drew ?_) | (refine Below.alloc ?_ (by first | omega | (simp; omega) | simp) _) | (refine Below.setCell ?_ (by first | omega | (simp; omega) | simp) _) | (refine below_trans ?_ (by assumption) (by first | omega | (simp; omega) | simp))))
  have b_w4 : Below w.heap.size w w4 := below_trans b_w3 k_w4 (by first | omega | (simp; omega) | simp)
  clear P2_c P2_f P2_l
  have P2 := (P2.later k_w4 : Bx w4 _ _)
  clear P5_c P5_f P5_l
  have P5 := (P5.later k_w4 : Bx w4 _ _)
  have P6 := (((Bx.new w3 _ _).alloc _).later hb_w4 : Bx w4 _ _)
  (try simp only [World.size_alloc] at P6)
  have rg := rg.later k_w4
  clear hc_w4 hf_w4
  obtain ⟨P2_c, P2_f⟩ := id P2
  have P2_l := P2.lt
  obtain ⟨P5_c, P5_f⟩ := id P5
  have P5_l := P5.lt
  obtain ⟨P6_c, P6_f⟩ := id P6
  have P6_l := P6.lt
  have hs2 := b_w2.size
  have hs3 := k_w3.size
  have hs4 := k_w4.size
  (try simp only [World.size_alloc] at hs3 hs4)
  obtain ⟨Bs, ns, cs, HRV0, HNS⟩ : ∃ (Bs : Nat → Option Addr) (ns cs : Nat → Nat), Hid (RV ((w4.alloc (.cells #[.slice B3 r2.length c3] 24)).alloc (.cells #[.slice B2 r1.length c2, .slice B3 r2.length c3] 24)) (w2.heap.size + 1) (w4.heap.size + 1) Bs ns cs) ∧ Hid (∀ j, ns j ≤ 5864062014805) := by
    obtain ⟨Bs, ns, cs, h, h9⟩ := RV.make (w := w4) (M := w2.heap.size + 1) (c1 := c2) (c2 := c3) hn1 hn2 (by omega) ((TabV.of (o2.own.later k_w4)).more (by first | omega | (simp; omega) | simp) (by omega)) ((TabV.of o3.own).more (by first | omega | (simp; omega) | simp) (by omega)) (.slice B3 r2.length c3)
    exact ⟨Bs, ns, cs, Lib.hid h, Lib.hid h9⟩
  have hG : w2.heap.size + 1 ≤ w4.heap.size := by omega
  have RG2 : Hid (ERow w4 (w2.heap.size + 1) B1 l) := Lib.hid ((o1.row.below (show Below w2.heap.size w2 w4 from below_trans k_w3 k_w4 (by first | omega | (simp; omega) | simp))).more (by omega))
  have P2' := Lib.hid P2
  have P5' := Lib.hid P5
  have hq2 : w.heap.size < w2.heap.size + 1 := by omega
  clear o1 o2 o3 P2 P5 rg P2_c P2_f P5_c P5_f
  go_wp2_with fail
  go_loopw [36] (fun ii wr => ∃ k : Nat, ii = .int .i64 (k : Nat) ∧ k ≤ 2 ∧ RV wr (w2.heap.size + 1) (w4.heap.size + 1) Bs ns cs ∧ w4.heap.size + 2 ≤ wr.heap.size ∧ Below w.heap.size w wr ∧ Below (w2.heap.size + 1) w4 wr) (fun ii _ => 2 - (intOf ii).toNat)
  case atStart => exact ⟨0, rfl, by omega, HRV0.out, (by first | omega | (simp; omega) | simp), (by repeat (first | exact Below.refl _ _ | assumption | (refine below_drewN ?_ _) | (refine Below.drew ?_) | (refine Below.alloc ?_ (by first | omega | (simp; omega) | simp) _) | (refine Below.setCell ?_ (by first | omega | (simp; omega) | simp) _) | (refine below_trans ?_ (by assumption) (by first | omega | (simp; omega) | simp)))), (by repeat (first | exact Below.refl _ _ | assumption | (refine below_drewN ?_ _) | (refine Below.drew ?_) | (refine Below.alloc ?_ (by first | omega | (simp; omega) | simp) _) | (refine Below.setCell ?_ (by first | omega | (simp; omega) | simp) _) | (refine below_trans ?_ (by assumption) (by first | omega | (simp; omega) | simp))))⟩
  case round =>
    clear HRV0
    generalize wr = wA at *
    obtain ⟨k, rfl, hk, hv, hsz, b_wA, d_wA⟩ := hrel
    by_cases hlt : k < 2
    · obtain ⟨gc, gt⟩ := hv.2.2 k hlt
      have i1 : (k : Int) < 2 := by omega
      have i2 : (0 : Int) ≤ (k : Int) := by omega
      have HV0 := Lib.hid (hv.later (show Below wA.heap.size wA (wA.alloc (.cells #[.slice (Bs k) (ns k) (cs k)] 24)) from (by repeat (first | exact Below.refl _ _ | assumption | (refine below_drewN ?_ _) | (refine Below.drew ?_) | (refine Below.alloc ?_ (by first | omega | (simp; omega) | simp) _) | (refine Below.setCell ?_ (by first | omega | (simp; omega) | simp) _) | (refine below_trans ?_ (by assumption) (by first | omega | (simp; omega) | simp))))))
      have Q0 := Lib.hid (Bx.new wA (.slice (Bs k) (ns k) (cs k)) 24)
      have glt : w4.heap.size + 1 < wA.heap.size := by omega
      clear hv gt
      go_wp2_with fail
      go_loopw [43] (fun jj wr => ∃ j : Nat, jj = .int .i64 (j : Nat) ∧ j ≤ ns k ∧ RV wr (w2.heap.size + 1) (w4.heap.size + 1) Bs ns cs ∧ Bx wr wA.heap.size (.slice (Bs k) (ns k) (cs k)) ∧ wA.heap.size + 1 ≤ wr.heap.size ∧ Below w.heap.size w wr ∧ Below (w2.heap.size + 1) w4 wr) (fun jj _ => ns k - (intOf jj).toNat)
      case atStart => exact ⟨0, rfl, by omega, HV0.out, Q0.out, (by first | omega | (simp; omega) | simp), (by repeat (first | exact Below.refl _ _ | assumption | (refine below_drewN ?_ _) | (refine Below.drew ?_) | (refine Below.alloc ?_ (by first | omega | (simp; omega) | simp) _) | (refine Below.setCell ?_ (by first | omega | (simp; omega) | simp) _) | (refine below_trans ?_ (by assumption) (by first | omega | (simp; omega) | simp)))), (by repeat (first | exact Below.refl _ _ | assumption | (refine below_drewN ?_ _) | (refine Below.drew ?_) | (refine Below.alloc ?_ (by first | omega | (simp; omega) | simp) _) | (refine Below.setCell ?_ (by first | omega | (simp; omega) | simp) _) | (refine below_trans ?_ (by assumption) (by first | omega | (simp; omega) | simp))))⟩
      case round =>
        clear HV0 Q0
        generalize wr = wB at *
        obtain ⟨j, rfl, hj, hv, Q, hszB, b_wB, d_wB⟩ := hrel
        have hnk := HNS.out k
        by_cases hjl : j < ns k
        · obtain ⟨_, gt⟩ := hv.2.2 k hlt
          obtain ⟨g, hB, hg1, hg2, hg3, hc⟩ := gt (by omega)
          obtain ⟨⟨z, hz⟩, hf⟩ := hc j hjl
          obtain ⟨q0, q1⟩ := id Q
          have i3 : (j : Int) < (ns k : Int) := by omega
          have i4 : (0 : Int) ≤ (j : Int) := by omega
          have HVS := Lib.hid fun x => hv.set (g := g) (o := j * 3 + 2) (by omega) x
          have HQS := Lib.hid fun x => Q.far (p := ⟨g, j * 3 + 2, none⟩) (by show g ≠ _; omega) (.int .u64 x)
          rw [hB] at q0
          clear hv Q gt hc
          go_wp2
          go_roundw
          case rel => exact ⟨j + 1, by go_num, by omega, HVS.out _, by rw [hB] at HQS ⊢; exact HQS.out _, (by first | omega | (simp; omega) | simp), (by repeat (first | exact Below.refl _ _ | assumption | (refine below_drewN ?_ _) | (refine Below.drew ?_) | (refine Below.alloc ?_ (by first | omega | (simp; omega) | simp) _) | (refine Below.setCell ?_ (by first | omega | (simp; omega) | simp) _) | (refine below_trans ?_ (by assumption) (by first | omega | (simp; omega) | simp)))), (by repeat (first | exact Below.refl _ _ | assumption | (refine below_drewN ?_ _) | (refine Below.drew ?_) | (refine Below.alloc ?_ (by first | omega | (simp; omega) | simp) _) | (refine Below.setCell ?_ (by first | omega | (simp; omega) | simp) _) | (refine below_trans ?_ (by assumption) (by first | omega | (simp; omega) | simp))))⟩
          case measure => simp [intOf]; omega
        · have hj' : j = ns k := by omega
          have i3 : ¬ ((j : Int) < (ns k : Int)) := by omega
          have HV9 := Lib.hid hv
          clear hv Q hj' hjl
          go_wp2
          go_roundw
          case rel => exact ⟨k + 1, by go_num, by omega, HV9.out, (by first | omega | (simp; omega) | simp), (by repeat (first | exact Below.refl _ _ | assumption | (refine below_drewN ?_ _) | (refine Below.drew ?_) | (refine Below.alloc ?_ (by first | omega | (simp; omega) | simp) _) | (refine Below.setCell ?_ (by first | omega | (simp; omega) | simp) _) | (refine below_trans ?_ (by assumption) (by first | omega | (simp; omega) | simp)))), (by repeat (first | exact Below.refl _ _ | assumption | (refine below_drewN ?_ _) | (refine Below.drew ?_) | (refine Below.alloc ?_ (by first | omega | (simp; omega) | simp) _) | (refine Below.setCell ?_ (by first | omega | (simp; omega) | simp) _) | (refine below_trans ?_ (by assumption) (by first | omega | (simp; omega) | simp))))⟩
          case measure => simp [intOf]; omega
    · obtain rfl : k = 2 := by omega
      have P2 : Bx wA w.heap.size (.slice A l.length cap) := ⟨((bcell d_wA).1 _ _ (by omega)).trans P2'.out.c, ((bcell d_wA).2 _ _ (by omega)).trans P2'.out.f⟩
      have P5 : Bx wA w2.heap.size (.slice B1 l.length c1) := ⟨((bcell d_wA).1 _ _ (by omega)).trans P5'.out.c, ((bcell d_wA).2 _ _ (by omega)).trans P5'.out.f⟩
      have ra : ERow wA wA.heap.size A l := hr.later b_wA
      have rb : ERow wA wA.heap.size B1 l := (RG2.out.below d_wA).more (by omega)
      obtain ⟨P2_c, P2_f⟩ := P2
      obtain ⟨P5_c, P5_f⟩ := P5
      clear P2' P5' hv
      go_wp2_with fail
      go_at_call 16
      refine (HS.out _ _ _ _ _ (ra.later (by repeat (first | exact Below.refl _ _ | assumption | (refine below_drewN ?_ _) | (refine Below.drew ?_) | (refine Below.alloc ?_ (by first | omega | (simp; omega) | simp) _) | (refine Below.setCell ?_ (by first | omega | (simp; omega) | simp) _) | (refine below_trans ?_ (by assumption) (by first | omega | (simp; omega) | simp))))) (rb.later (by repeat (first | exact Below.refl _ _ | assumption | (refine below_drewN ?_ _) | (refine Below.drew ?_) | (refine Below.alloc ?_ (by first | omega | (simp; omega) | simp) _) | (refine Below.setCell ?_ (by first | omega | (simp; omega) | simp) _) | (refine below_trans ?_ (by assumption) (by first | omega | (simp; omega) | simp)))))).mono ?_
      rintro e w5 ⟨rfl, hb_w5⟩
      obtain ⟨hc_w5, hf_w5⟩ := bcell hb_w5; have hs_w5 := hb_w5.size; (try simp only [World.size_alloc, World.size_setCell, World.size_drew, World.heap_drewN] at hs_w5)
      go_wp2
      go_ret
      exact ⟨rfl, (by repeat (first | exact Below.refl _ _ | assumption | (refine below_drewN ?_ _) | (refine Below.drew ?_) | (refine Below.alloc ?_ (by first | omega | (simp; omega) | simp) _) | (refine Below.setCell ?_ (by first | omega | (simp; omega) | simp) _) | (refine below_trans ?_ (by assumption) (by first | omega | (simp; omega) | simp))))⟩
end Go.Proofs.YtkjpimhjmeigeaaDoor
