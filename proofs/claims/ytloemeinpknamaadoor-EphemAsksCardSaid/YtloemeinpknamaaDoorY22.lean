/- The walks of the laws EphemPuts, EphemBack. -/
import Derived.Test.YtloemeinpknamaaDoorY21
namespace Go.Proofs.YtloemeinpknamaaDoor
open Go.RowKit
set_option linter.unusedVariables false
set_option linter.unusedSimpArgs false

theorem PutT.len {l : List Es} {key val : Nat} {r : List Es} {y : Int} (h : PutT l key val r y) (hl : l.length ≤ 5864062014805) : r.length ≤ 5864062014805 := by
  by_cases hy : y = 0
  · have := (h.ok hy).okr.le; omega
  · rcases h.no hy with ⟨_, rfl, _⟩ | ⟨_, rfl, _⟩
    · simp
    · exact hl
theorem DelT.len {l : List Es} {ks : List Nat} {r : List Es} {n : Nat} {y : Int} (h : DelT l ks r n y) (hl : l.length ≤ 5864062014805) : r.length ≤ 5864062014805 := by
  rcases h with ⟨_, rfl, _⟩ | ⟨_, rfl, _⟩
  · simp
  · rw [dlK_len]; exact hl
theorem esame_self {w : World} (A C : Option Addr) (ca cc : Nat) (l : List Es) (hl : l.length ≤ 5864062014805) (hr : ERow w w.heap.size A l) (hq : ERow w w.heap.size C l) :
    Calls Tryd.prog 16 #[eph A l.length ca, eph C l.length cc] w fun e w' => e = .returned (.bool true) ∧ Below w.heap.size w w' :=
  exsame_any ca cc hr hq hl hl true ⟨fun _ => rfl, fun _ => rfl⟩
theorem row_oneG (W : World) (g x : Nat) (hg : W.heap.size = g) (hx : x < W64) : Row (W.alloc (.cells #[.int .u64 (x : Nat)] 25)) (W.alloc (.cells #[.int .u64 (x : Nat)] 25)).heap.size (some ⟨g, 0, none⟩) [x] := by
  subst hg
  exact ⟨fun y hy => by rw [List.mem_singleton] at hy; rw [hy]; exact hx, fun _ => ⟨W.heap.size, 0, rfl, by simp, fun i hi => by
    obtain rfl : i = 0 := by simpa using hi
    simp [go_sem]⟩⟩
set_option maxHeartbeats 8000000 in
set_option maxRecDepth 100000 in
theorem ephemPuts_walk (A K : Option Addr) (cap ck : Nat) (l : List Es) (key val : Nat) (ks : List Nat) (w : World) (hT : Tz w) (hr : ERow w w.heap.size A l) (hl : l.length ≤ 5864062014805) (hnil : A = none → cap = 0) (hkey : key < W64) (hval : val < W64) (hq : Row w w.heap.size K ks) (hkl : ks.length ≤ 17592186044416) :
    Calls Tryd.prog 3 #[eph A l.length cap, .int .u64 (key : Nat), .int .u64 (val : Nat), .slice K ks.length ck] w fun e w' => e = .returned (.bool true) ∧ Below w.heap.size w w' := by
  obtain ⟨r1, y1, hE1⟩ := PutT.ex l key val
  obtain ⟨r2, m2, y2, hE2⟩ := DelT.ex l ks
  have HCP := Lib.hid fun (w : World) hr => excopy_any (w := w) (A := A) (l := l) cap hr hl
  unfold CopR at HCP
  have HP := Lib.hid fun (w : World) (A : Option Addr) (cap : Nat) hT hr hn => eput_any (w := w) (A := A) (l := l) cap hT hr hl hn key val hkey hval _ _ hE1
  have HXP := Lib.hid fun (w : World) hr => exput_any (w := w) (A := A) (l := l) cap hr hl key val hkey hval _ _ hE1
  have HD := Lib.hid fun (w : World) (A : Option Addr) (cap : Nat) hT hr hn hq => edel_any (w := w) (A := A) (K := K) (l := l) (ks := ks) cap ck hT hr hl hn hq hkl _ _ _ hE2
  have HXD := Lib.hid fun (w : World) hr hq => exdel_any (w := w) (A := A) (K := K) (l := l) (ks := ks) cap ck hr hl hq hkl _ _ _ hE2
  unfold PutR at HP HXP
  unfold DelR at HD HXD
  have HS1 := Lib.hid fun (w : World) (A C : Option Addr) (ca cc : Nat) hr hq => esame_self (w := w) A C ca cc r1 (hE1.len hl) hr hq
  have HS2 := Lib.hid fun (w : World) (A C : Option Addr) (ca cc : Nat) hr hq => esame_self (w := w) A C ca cc r2 (hE2.len hl) hr hq
  have HS3 := Lib.hid fun (w : World) (A C : Option Addr) (ca cc : Nat) hr hq => esame_self (w := w) A C ca cc l hl hr hq
  have e1 : (y1 == y1) = true := by simp
  have e2 : (y2 == y2) = true := by simp
  have e3 : ((m2 : Int) == (m2 : Int)) = true := by simp
  clear hE1 hE2
  unfold eph at *
  go_enter Tryd.func3, Tryd.ntmps3
  go_wp2_with fail
  go_at_call 10
  refine (HCP.out _ (hr.later (by repeat (first | exact Below.refl _ _ | assumption | (refine below_drewN ?_ _) | (refine Below.drew ?_) | (refine Below.alloc ?_ (by first | omega | (simp; omega) | simp) _) | (refine Below.setCell ?_ (by first | omega | (simp; omega) | simp) _) | (refine below_trans ?_ (by assumption) (by first | omega | (simp; omega) | simp)))))).mono ?_
  rintro e w1 ⟨B1, c1, rfl, o1, hb_w1⟩
  obtain ⟨hc_w1, hf_w1⟩ := bcell hb_w1; have hs_w1 := hb_w1.size; (try simp only [World.size_alloc, World.size_setCell, World.size_drew, World.heap_drewN] at hs_w1)
  have k_w1 : Below w.heap.size w w1 := (by repeat (first | exact Below.refl _ _ | assumption | (refine below_drewN ?_ _) | (refine Below.drew ?_) | (refine Below.alloc ?_ (by first | omega | (simp; omega) | simp) _) | (refine Below.setCell ?_ (by first | omega | (simp; omega) | simp) _) | (refine below_trans ?_ (by assumption) (by first | omega | (simp; omega) | simp))))
  have b_w1 := k_w1
  have P4 := ((Bx.new w _ _).later hb_w1 : Bx w1 _ _)
  (try simp only [World.size_alloc] at P4)
  clear hc_w1 hf_w1
  obtain ⟨P4_c, P4_f⟩ := id P4
  have P4_l := P4.lt
  have rg := o1.row
  have n1 := Lib.hid o1.nil_
  go_wp2_with fail
  go_at_call 11
  refine (HP.out _ _ _ (hT.later (by repeat (first | exact Below.refl _ _ | assumption | (refine below_drewN ?_ _) | (refine Below.drew ?_) | (refine Below.alloc ?_ (by first | omega | (simp; omega) | simp) _) | (refine Below.setCell ?_ (by first | omega | (simp; omega) | simp) _) | (refine below_trans ?_ (by assumption) (by first | omega | (simp; omega) | simp))))) (rg.later (by repeat (first | exact Below.refl _ _ | assumption | (refine below_drewN ?_ _) | (refine Below.drew ?_) | (refine Below.alloc ?_ (by first | omega | (simp; omega) | simp) _) | (refine Below.setCell ?_ (by first | omega | (simp; omega) | simp) _) | (refine below_trans ?_ (by assumption) (by first | omega | (simp; omega) | simp))))) n1.out).mono ?_
  rintro e w2 ⟨B2, c2, rfl, o2, hb_w2⟩
  obtain ⟨hc_w2, hf_w2⟩ := bcell hb_w2; have hs_w2 := hb_w2.size; (try simp only [World.size_alloc, World.size_setCell, World.size_drew, World.heap_drewN] at hs_w2)
  have k_w2 : Below w1.heap.size w1 w2 := (by repeat (first | exact Below.refl _ _ | assumption | (refine below_drewN ?_ _) | (refine Below.drew ?_) | (refine Below.alloc ?_ (by first | omega | (simp; omega) | simp) _) | (refine Below.setCell ?_ (by first | omega | (simp; omega) | simp) _) | (refine below_trans ?_ (by assumption) (by first | omega | (simp; omega) | simp))))
  have b_w2 : Below w.heap.size w w2 := below_trans b_w1 k_w2 (by first | omega | (simp; omega) | simp)
  clear P4_c P4_f P4_l
  have P4 := (P4.later k_w2 : Bx w2 _ _)
  have P9 := ((Bx.new w1 _ _).later hb_w2 : Bx w2 _ _)
  (try simp only [World.size_alloc] at P9)
  have rg := rg.later k_w2
  clear hc_w2 hf_w2
  obtain ⟨P4_c, P4_f⟩ := id P4
  have P4_l := P4.lt
  obtain ⟨P9_c, P9_f⟩ := id P9
  have P9_l := P9.lt
  have ra := o2.row
  go_wp2_with fail
  go_at_call 12
  refine (HXP.out _ ((hr.later b_w2).later (by repeat (first | exact Below.refl _ _ | assumption | (refine below_drewN ?_ _) | (refine Below.drew ?_) | (refine Below.alloc ?_ (by first | omega | (simp; omega) | simp) _) | (refine Below.setCell ?_ (by first | omega | (simp; omega) | simp) _) | (refine below_trans ?_ (by assumption) (by first | omega | (simp; omega) | simp)))))).mono ?_
  rintro e w3 ⟨B3, c3, rfl, o3, hb_w3⟩
  obtain ⟨hc_w3, hf_w3⟩ := bcell hb_w3; have hs_w3 := hb_w3.size; (try simp only [World.size_alloc, World.size_setCell, World.size_drew, World.heap_drewN] at hs_w3)
  have k_w3 : Below w2.heap.size w2 w3 := (by repeat (first | exact Below.refl _ _ | assumption | (refine below_drewN ?_ _) | (refine Below.drew ?_) | (refine Below.alloc ?_ (by first | omega | (simp; omega) | simp) _) | (refine Below.setCell ?_ (by first | omega | (simp; omega) | simp) _) | (refine below_trans ?_ (by assumption) (by first | omega | (simp; omega) | simp))))
  have b_w3 : Below w.heap.size w w3 := below_trans b_w2 k_w3 (by first | omega | (simp; omega) | simp)
  clear P4_c P4_f P4_l
  have P4 := (P4.later k_w3 : Bx w3 _ _)
  clear P9_c P9_f P9_l
  have P9 := (P9.later k_w3 : Bx w3 _ _)
  have P10 := ((Bx.new w2 _ _).later hb_w3 : Bx w3 _ _)
  (try simp only [World.size_alloc] at P10)
  have rg := rg.later k_w3
  have ra := ra.later k_w3
  clear hc_w3 hf_w3
  obtain ⟨P4_c, P4_f⟩ := id P4
  have P4_l := P4.lt
  obtain ⟨P9_c, P9_f⟩ := id P9
  have P9_l := P9.lt
  obtain ⟨P10_c, P10_f⟩ := id P10
  have P10_l := P10.lt
  have rb := o3.row
  go_wp2_with fail
  go_at_call 13
  refine (HD.out _ _ _ (hT.later (by repeat (first | exact Below.refl _ _ | assumption | (refine below_drewN ?_ _) | (refine Below.drew ?_) | (refine Below.alloc ?_ (by first | omega | (simp; omega) | simp) _) | (refine Below.setCell ?_ (by first | omega | (simp; omega) | simp) _) | (refine below_trans ?_ (by assumption) (by first | omega | (simp; omega) | simp))))) (rg.later (by repeat (first | exact Below.refl _ _ | assumption | (refine below_drewN ?_ _) | (refine Below.drew ?_) | (refine Below.alloc ?_ (by first | omega | (simp; omega) | simp) _) | (refine Below.setCell ?_ (by first | omega | (simp; omega) | simp) _) | (refine below_trans ?_ (by assumption) (by first | omega | (simp; omega) | simp))))) n1.out ((hq.later b_w3).later (by repeat (first | exact Below.refl _ _ | assumption | (refine below_drewN ?_ _) | (refine Below.drew ?_) | (refine Below.alloc ?_ (by first | omega | (simp; omega) | simp) _) | (refine Below.setCell ?_ (by first | omega | (simp; omega) | simp) _) | (refine below_trans ?_ (by assumption) (by first | omega | (simp; omega) | simp)))))).mono ?_
  rintro e w4 ⟨B4, c4, rfl, o4, hb_w4⟩
  obtain ⟨hc_w4, hf_w4⟩ := bcell hb_w4; have hs_w4 := hb_w4.size; (try simp only [World.size_alloc, World.size_setCell, World.size_drew, World.heap_drewN] at hs_w4)
  have k_w4 : Below w3.heap.size w3 w4 := (by repeat (first | exact Below.refl _ _ | assumption | (refine below_drewN ?_ _) | (refine Below.drew ?_) | (refine Below.alloc ?_ (by first | omega | (simp; omega) | simp) _) | (refine Below.setCell ?_ (by first | omega | (simp; omega) | simp) _) | (refine below_trans ?_ (by assumption) (by first | omega | (simp; omega) | simp))))
  have b_w4 : Below w.heap.size w w4 := below_trans b_w3 k_w4 (by first | omega | (simp; omega) | simp)
  clear P4_c P4_f P4_l
  have P4 := (P4.later k_w4 : Bx w4 _ _)
  clear P9_c P9_f P9_l
  have P9 := (P9.later k_w4 : Bx w4 _ _)
  clear P10_c P10_f P10_l
  have P10 := (P10.later k_w4 : Bx w4 _ _)
  have P12 := ((Bx.new w3 _ _).later hb_w4 : Bx w4 _ _)
  (try simp only [World.size_alloc] at P12)
  have rg := rg.later k_w4
  have ra := ra.later k_w4
  have rb := rb.later k_w4
  clear hc_w4 hf_w4
  obtain ⟨P4_c, P4_f⟩ := id P4
  have P4_l := P4.lt
  obtain ⟨P9_c, P9_f⟩ := id P9
  have P9_l := P9.lt
  obtain ⟨P10_c, P10_f⟩ := id P10
  have P10_l := P10.lt
  obtain ⟨P12_c, P12_f⟩ := id P12
  have P12_l := P12.lt
  have rc := o4.row
  go_wp2_with fail
  go_at_call 14
  refine (HXD.out _ ((hr.later b_w4).later (by repeat (first | exact Below.refl _ _ | assumption | (refine below_drewN ?_ _) | (refine Below.drew ?_) | (refine Below.alloc ?_ (by first | omega | (simp; omega) | simp) _) | (refine Below.setCell ?_ (by first | omega | (simp; omega) | simp) _) | (refine below_trans ?_ (by assumption) (by first | omega | (simp; omega) | simp))))) ((hq.later b_w4).later (by repeat (first | exact Below.refl _ _ | assumption | (refine below_drewN ?_ _) | (refine Below.drew ?_) | (refine Below.alloc ?_ (by first | omega | (simp; omega) | simp) _) | (refine Below.setCell ?_ (by first | omega | (simp; omega) | simp) _) | (refine below_trans ?_ (by assumption) (by first | omega | (simp; omega) | simp)))))).mono ?_
  rintro e w5 ⟨B5, c5, rfl, o5, hb_w5⟩
  obtain ⟨hc_w5, hf_w5⟩ := bcell hb_w5; have hs_w5 := hb_w5.size; (try simp only [World.size_alloc, World.size_setCell, World.size_drew, World.heap_drewN] at hs_w5)
  have k_w5 : Below w4.heap.size w4 w5 := (by repeat (first | exact Below.refl _ _ | assumption | (refine below_drewN ?_ _) | (refine Below.drew ?_) | (refine Below.alloc ?_ (by first | omega | (simp; omega) | simp) _) | (refine Below.setCell ?_ (by first | omega | (simp; omega) | simp) _) | (refine below_trans ?_ (by assumption) (by first | omega | (simp; omega) | simp))))
  have b_w5 : Below w.heap.size w w5 := below_trans b_w4 k_w5 (by first | omega | (simp; omega) | simp)
  clear P4_c P4_f P4_l
  have P4 := (P4.later k_w5 : Bx w5 _ _)
  clear P9_c P9_f P9_l
  have P9 := (P9.later k_w5 : Bx w5 _ _)
  clear P10_c P10_f P10_l
  have P10 := (P10.later k_w5 : Bx w5 _ _)
  clear P12_c P12_f P12_l
  have P12 := (P12.later k_w5 : Bx w5 _ _)
  have P14 := ((Bx.new w4 _ _).later hb_w5 : Bx w5 _ _)
  (try simp only [World.size_alloc] at P14)
  have rg := rg.later k_w5
  have ra := ra.later k_w5
  have rb := rb.later k_w5
  have rc := rc.later k_w5
  clear hc_w5 hf_w5
  obtain ⟨P4_c, P4_f⟩ := id P4
  have P4_l := P4.lt
  obtain ⟨P9_c, P9_f⟩ := id P9
  have P9_l := P9.lt
  obtain ⟨P10_c, P10_f⟩ := id P10
  have P10_l := P10.lt
  obtain ⟨P12_c, P12_f⟩ := id P12
  have P12_l := P12.lt
  obtain ⟨P14_c, P14_f⟩ := id P14
  have P14_l := P14.lt
  have rd := o5.row
  go_wp2_with fail
  go_at_call 15
  refine (elives_any _ (hT.later (by repeat (first | exact Below.refl _ _ | assumption | (refine below_drewN ?_ _) | (refine Below.drew ?_) | (refine Below.alloc ?_ (by first | omega | (simp; omega) | simp) _) | (refine Below.setCell ?_ (by first | omega | (simp; omega) | simp) _) | (refine below_trans ?_ (by assumption) (by first | omega | (simp; omega) | simp)))))).mono ?_
  rintro e w6 ⟨rfl, hb_w6⟩
  obtain ⟨hc_w6, hf_w6⟩ := bcell hb_w6; have hs_w6 := hb_w6.size; (try simp only [World.size_alloc, World.size_setCell, World.size_drew, World.heap_drewN] at hs_w6)
  have k_w6 : Below w5.heap.size w5 w6 := (by repeat (first | exact Below.refl _ _ | assumption | (refine below_drewN ?_ _) | (refine Below.drew ?_) | (refine Below.alloc ?_ (by first | omega | (simp; omega) | simp) _) | (refine Below.setCell ?_ (by first | omega | (simp; omega) | simp) _) | (refine below_trans ?_ (by assumption) (by first | omega | (simp; omega) | simp))))
  have b_w6 : Below w.heap.size w w6 := below_trans b_w5 k_w6 (by first | omega | (simp; omega) | simp)
  clear P4_c P4_f P4_l
  have P4 := (P4.later k_w6 : Bx w6 _ _)
  clear P9_c P9_f P9_l
  have P9 := (P9.later k_w6 : Bx w6 _ _)
  clear P10_c P10_f P10_l
  have P10 := (P10.later k_w6 : Bx w6 _ _)
  clear P12_c P12_f P12_l
  have P12 := (P12.later k_w6 : Bx w6 _ _)
  clear P14_c P14_f P14_l
  have P14 := (P14.later k_w6 : Bx w6 _ _)
  have P17 := ((Bx.new w5 _ _).later hb_w6 : Bx w6 _ _)
  (try simp only [World.size_alloc] at P17)
  have rg := rg.later k_w6
  have ra := ra.later k_w6
  have rb := rb.later k_w6
  have rc := rc.later k_w6
  have rd := rd.later k_w6
  clear hc_w6 hf_w6
  obtain ⟨P4_c, P4_f⟩ := id P4
  have P4_l := P4.lt
  obtain ⟨P9_c, P9_f⟩ := id P9
  have P9_l := P9.lt
  obtain ⟨P10_c, P10_f⟩ := id P10
  have P10_l := P10.lt
  obtain ⟨P12_c, P12_f⟩ := id P12
  have P12_l := P12.lt
  obtain ⟨P14_c, P14_f⟩ := id P14
  have P14_l := P14.lt
  obtain ⟨P17_c, P17_f⟩ := id P17
  have P17_l := P17.lt
  go_wp2_with fail
  go_at_call 16
  refine (HS1.out _ _ _ _ _ (ra.later (by repeat (first | exact Below.refl _ _ | assumption | (refine below_drewN ?_ _) | (refine Below.drew ?_) | (refine Below.alloc ?_ (by first | omega | (simp; omega) | simp) _) | (refine Below.setCell ?_ (by first | omega | (simp; omega) | simp) _) | (refine below_trans ?_ (by assumption) (by first | omega | (simp; omega) | simp))))) (rb.later (by repeat (first | exact Below.refl _ _ | assumption | (refine below_drewN ?_ _) | (refine Below.drew ?_) | (refine Below.alloc ?_ (by first | omega | (simp; omega) | simp) _) | (refine Below.setCell ?_ (by first | omega | (simp; omega) | simp) _) | (refine below_trans ?_ (by assumption) (by first | omega | (simp; omega) | simp)))))).mono ?_
  rintro e w7 ⟨rfl, hb_w7⟩
  obtain ⟨hc_w7, hf_w7⟩ := bcell hb_w7; have hs_w7 := hb_w7.size; (try simp only [World.size_alloc, World.size_setCell, World.size_drew, World.heap_drewN] at hs_w7)
  have k_w7 : Below w6.heap.size w6 w7 := (by repeat (first | exact Below.refl _ _ | assumption | (refine below_drewN ?_ _) | (refine Below.drew ?_) | (refine Below.alloc ?_ (by first | omega | (simp; omega) | simp) _) | (refine Below.setCell ?_ (by first | omega | (simp; omega) | simp) _) | (refine below_trans ?_ (by assumption) (by first | omega | (simp; omega) | simp))))
  have b_w7 : Below w.heap.size w w7 := below_trans b_w6 k_w7 (by first | omega | (simp; omega) | simp)
  clear P4_c P4_f P4_l
  have P4 := (P4.later k_w7 : Bx w7 _ _)
  clear P9_c P9_f P9_l
  have P9 := (P9.later k_w7 : Bx w7 _ _)
  clear P10_c P10_f P10_l
  have P10 := (P10.later k_w7 : Bx w7 _ _)
  clear P12_c P12_f P12_l
  have P12 := (P12.later k_w7 : Bx w7 _ _)
  clear P14_c P14_f P14_l
  have P14 := (P14.later k_w7 : Bx w7 _ _)
  clear P17_c P17_f P17_l
  have P17 := (P17.later k_w7 : Bx w7 _ _)
  have rg := rg.later k_w7
  have ra := ra.later k_w7
  have rb := rb.later k_w7
  have rc := rc.later k_w7
  have rd := rd.later k_w7
  clear hc_w7 hf_w7
  obtain ⟨P4_c, P4_f⟩ := id P4
  have P4_l := P4.lt
  obtain ⟨P9_c, P9_f⟩ := id P9
  have P9_l := P9.lt
  obtain ⟨P10_c, P10_f⟩ := id P10
  have P10_l := P10.lt
  obtain ⟨P12_c, P12_f⟩ := id P12
  have P12_l := P12.lt
  obtain ⟨P14_c, P14_f⟩ := id P14
  have P14_l := P14.lt
  obtain ⟨P17_c, P17_f⟩ := id P17
  have P17_l := P17.lt
  go_wp2_with fail
  go_at_call 16
  refine (HS2.out _ _ _ _ _ (rc.later (by repeat (first | exact Below.refl _ _ | assumption | (refine below_drewN ?_ _) | (refine Below.drew ?_) | (refine Below.alloc ?_ (by first | omega | (simp; omega) | simp) _) | (refine Below.setCell ?_ (by first | omega | (simp; omega) | simp) _) | (refine below_trans ?_ (by assumption) (by first | omega | (simp; omega) | simp))))) (rd.later (by repeat (first | exact Below.refl _ _ | assumption | (refine below_drewN ?_ _) | (refine Below.drew ?_) | (refine Below.alloc ?_ (by first | omega | (simp; omega) | simp) _) | (refine Below.setCell ?_ (by first | omega | (simp; omega) | simp) _) | (refine below_trans ?_ (by assumption) (by first | omega | (simp; omega) | simp)))))).mono ?_
  rintro e w8 ⟨rfl, hb_w8⟩
  obtain ⟨hc_w8, hf_w8⟩ := bcell hb_w8; have hs_w8 := hb_w8.size; (try simp only [World.size_alloc, World.size_setCell, World.size_drew, World.heap_drewN] at hs_w8)
  have k_w8 : Below w7.heap.size w7 w8 := (by repeat (first | exact Below.refl _ _ | assumption | (refine below_drewN ?_ _) | (refine Below.drew ?_) | (refine Below.alloc ?_ (by first | omega | (simp; omega) | simp) _) | (refine Below.setCell ?_ (by first | omega | (simp; omega) | simp) _) | (refine below_trans ?_ (by assumption) (by first | omega | (simp; omega) | simp))))
  have b_w8 : Below w.heap.size w w8 := below_trans b_w7 k_w8 (by first | omega | (simp; omega) | simp)
  clear P4_c P4_f P4_l
  have P4 := (P4.later k_w8 : Bx w8 _ _)
  clear P9_c P9_f P9_l
  have P9 := (P9.later k_w8 : Bx w8 _ _)
  clear P10_c P10_f P10_l
  have P10 := (P10.later k_w8 : Bx w8 _ _)
  clear P12_c P12_f P12_l
  have P12 := (P12.later k_w8 : Bx w8 _ _)
  clear P14_c P14_f P14_l
  have P14 := (P14.later k_w8 : Bx w8 _ _)
  clear P17_c P17_f P17_l
  have P17 := (P17.later k_w8 : Bx w8 _ _)
  have rg := rg.later k_w8
  have ra := ra.later k_w8
  have rb := rb.later k_w8
  have rc := rc.later k_w8
  have rd := rd.later k_w8
  clear hc_w8 hf_w8
  obtain ⟨P4_c, P4_f⟩ := id P4
  have P4_l := P4.lt
  obtain ⟨P9_c, P9_f⟩ := id P9
  have P9_l := P9.lt
  obtain ⟨P10_c, P10_f⟩ := id P10
  have P10_l := P10.lt
  obtain ⟨P12_c, P12_f⟩ := id P12
  have P12_l := P12.lt
  obtain ⟨P14_c, P14_f⟩ := id P14
  have P14_l := P14.lt
  obtain ⟨P17_c, P17_f⟩ := id P17
  have P17_l := P17.lt
  go_wp2_with fail
  go_at_call 16
  refine (HS3.out _ _ _ _ _ (rg.later (by repeat (first | exact Below.refl _ _ | assumption | (refine below_drewN ?_ _) | (refine Below.drew ?_) | (refine Below.alloc ?_ (by first | omega | (simp; omega) | simp) _) | (refine Below.setCell ?_ (by first | omega | (simp; omega) | simp) _) | (refine below_trans ?_ (by assumption) (by first | omega | (simp; omega) | simp))))) ((hr.later b_w8).later (by repeat (first | exact Below.refl _ _ | assumption | (refine below_drewN ?_ _) | (refine Below.drew ?_) | (refine Below.alloc ?_ (by first | omega | (simp; omega) | simp) _) | (refine Below.setCell ?_ (by first | omega | (simp; omega) | simp) _) | (refine below_trans ?_ (by assumption) (by first | omega | (simp; omega) | simp)))))).mono ?_
  rintro e w9 ⟨rfl, hb_w9⟩
  obtain ⟨hc_w9, hf_w9⟩ := bcell hb_w9; have hs_w9 := hb_w9.size; (try simp only [World.size_alloc, World.size_setCell, World.size_drew, World.heap_drewN] at hs_w9)
  have k_w9 : Below w8.heap.size w8 w9 := (by repeat (first | exact Below.refl _ _ | assumption | (refine below_drewN ?_ _) | (refine Below.drew ?_) | (refine Below.alloc ?_ (by first | omega | (simp; omega) | simp) _) | (refine Below.setCell ?_ (by first | omega | (simp; omega) | simp) _) | (refine below_trans ?_ (by assumption) (by first | omega | (simp; omega) | simp))))
  have b_w9 : Below w.heap.size w w9 := below_trans b_w8 k_w9 (by first | omega | (simp; omega) | simp)
  clear P4_c P4_f P4_l
  have P4 := (P4.later k_w9 : Bx w9 _ _)
  clear P9_c P9_f P9_l
  have P9 := (P9.later k_w9 : Bx w9 _ _)
  clear P10_c P10_f P10_l
  have P10 := (P10.later k_w9 : Bx w9 _ _)
  clear P12_c P12_f P12_l
  have P12 := (P12.later k_w9 : Bx w9 _ _)
  clear P14_c P14_f P14_l
  have P14 := (P14.later k_w9 : Bx w9 _ _)
  clear P17_c P17_f P17_l
  have P17 := (P17.later k_w9 : Bx w9 _ _)
  have rg := rg.later k_w9
  have ra := ra.later k_w9
  have rb := rb.later k_w9
  have rc := rc.later k_w9
  have rd := rd.later k_w9
  clear hc_w9 hf_w9
  obtain ⟨P4_c, P4_f⟩ := id P4
  have P4_l := P4.lt
  obtain ⟨P9_c, P9_f⟩ := id P9
  have P9_l := P9.lt
  obtain ⟨P10_c, P10_f⟩ := id P10
  have P10_l := P10.lt
  obtain ⟨P12_c, P12_f⟩ := id P12
  have P12_l := P12.lt
  obtain ⟨P14_c, P14_f⟩ := id P14
  have P14_l := P14.lt
  obtain ⟨P17_c, P17_f⟩ := id P17
  have P17_l := P17.lt
  go_wp2
  go_ret
  exact ⟨rfl, (by repeat (first | exact Below.refl _ _ | assumption | (refine below_drewN ?_ _) | (refine Below.drew ?_) | (refine Below.alloc ?_ (by first | omega | (simp; omega) | simp) _) | (refine Below.setCell ?_ (by first | omega | (simp; omega) | simp) _) | (refine below_trans ?_ (by assumption) (by first | omega | (simp; omega) | simp))))⟩
set_option maxHeartbeats 8000000 in
set_option maxRecDepth 100000 in
theorem ephemBack_walk (A : Option Addr) (cap : Nat) (l : List Es) (key val other : Nat) (w : World) (hT : Tz w) (hr : ERow w w.heap.size A l) (hl : l.length ≤ 5864062014805) (hnil : A = none → cap = 0) (hkey : key < W64) (hval : val < W64) (hoth : other < W64) :
    Calls Tryd.prog 9 #[eph A l.length cap, .int .u64 (key : Nat), .int .u64 (val : Nat), .int .u64 (other : Nat)] w fun e w' => e = .returned (.bool true) ∧ Below w.heap.size w w' := by
  obtain ⟨r1, y1, hE1⟩ := PutT.ex l key val
  have HP := Lib.hid fun (w : World) hT hr => eput_any (w := w) (A := A) (l := l) cap hT hr hl hnil key val hkey hval _ _ hE1
  unfold PutR at HP
  by_cases hy : y1 = 0
  · have hok := hE1.ok hy
    have hr64 := hok.okr.le
    obtain ⟨r2, m2, y2, hE2⟩ := DelT.ex r1 [key]
    obtain ⟨hd, rfl⟩ := hE2.ok hok.okr
    have hhas : Has r1 key val := (hok.has key val).2 (.inl ⟨rfl, rfl⟩)
    obtain ⟨rfl, _⟩ := hd.hit ⟨_, hhas⟩
    have hl2 := hd.okr.le
    obtain ⟨x, y3, hG2⟩ := GetT.ex l other
    have HG1 := Lib.hid fun (w : World) (A : Option Addr) (cap : Nat) hT hr hn => eget_any (w := w) (A := A) (l := r2) cap hT hr (by omega) hn key 0 3 (GetT.of_no hd.okr hok.k0 fun ⟨v, h⟩ => ((hd.has _ _).1 h).1 rfl)
    have HG2 := Lib.hid fun (w : World) hT hr => eget_any (w := w) (A := A) (l := l) cap hT hr hl hnil other _ _ hG2
    obtain ⟨x2, y4, hG3, hne⟩ : ∃ x2 y4, GetT r2 other x2 y4 ∧ (other ≠ key → x2 = x ∧ y4 = y3) := by
      obtain ⟨x2, y4, hG3⟩ := GetT.ex r2 other
      refine ⟨x2, y4, hG3, fun hne => ?_⟩
      have hiff : ∀ v, Has r2 other v ↔ Has l other v := fun v => by
        rw [hd.has, hok.has]
        constructor
        · rintro ⟨_, ⟨h, _⟩ | ⟨_, h⟩⟩
          · exact absurd h hne
          · exact h
        · exact fun h => ⟨hne, .inr ⟨hne, h⟩⟩
      rcases hG2.has hok.okl with ⟨h1, h2⟩ | ⟨h1, h2, h3⟩
      · rcases hG3.has hd.okr with ⟨g1, g2⟩ | ⟨g1, g2, g3⟩
        · exact ⟨hok.okl.one ((hiff _).1 g2) h2, by rw [h1, g1]⟩
        · exact absurd ⟨_, (hiff _).2 h2⟩ g3
      · rcases hG3.has hd.okr with ⟨g1, g2⟩ | ⟨g1, g2, g3⟩
        · exact absurd ⟨_, (hiff _).1 g2⟩ h3
        · refine ⟨by rw [g2, h2], ?_⟩
          rcases h1 with ⟨a, b⟩ | ⟨a, b⟩ <;> rcases g1 with ⟨c, d⟩ | ⟨c, d⟩
          · rw [a, c]
          · exact absurd d b
          · exact absurd b d
          · rw [a, c]
    have HG3 := Lib.hid fun (w : World) (A : Option Addr) (cap : Nat) hT hr hn => eget_any (w := w) (A := A) (l := r2) cap hT hr (by omega) hn other _ _ hG3
    have HC := Lib.hid fun (w : World) (A : Option Addr) (cap : Nat) hT hr hn => echeck_any (w := w) (A := A) (l := r2) cap hT hr (by omega) hn 0 (.inl ⟨hd.okr, rfl⟩)
    have HD := Lib.hid fun (w : World) (A K : Option Addr) (cap : Nat) hT hr hn hq => edel_any (w := w) (A := A) (K := K) (l := r1) (ks := [key]) cap 1 hT hr (by omega) hn hq (by simp) _ _ _ hE2
    unfold DelR at HD
    simp only [List.length_cons, List.length_nil, Nat.zero_add] at HD
    have HN := Lib.hid fun (w : World) (g : Nat) hg => row_oneG w g key hg hkey
    subst hy
    have hcase : ((other : Int) == (key : Int)) = true ∨ (((other : Int) == (key : Int)) = false ∧ (y3 == y4) = true ∧ ((x : Int) == (x2 : Int)) = true) := by
      by_cases e : other = key
      · exact .inl (by simp [e])
      · obtain ⟨e1, e2⟩ := hne e
        refine .inr ⟨by rw [beq_eq_false_iff_ne]; omega, by simp [e2], by simp [e1]⟩
    clear hE1 hE2 hok hd hhas hG2 hG3 hne
    unfold eph at *
    go_enter Tryd.func9, Tryd.ntmps9
    go_wp2_with fail
    go_at_call 15
    refine (elives_any _ (hT.later (by repeat (first | exact Below.refl _ _ | assumption | (refine below_drewN ?_ _) | (refine Below.drew ?_) | (refine Below.alloc ?_ (by first | omega | (simp; omega) | simp) _) | (refine Below.setCell ?_ (by first | omega | (simp; omega) | simp) _) | (refine below_trans ?_ (by assumption) (by first | omega | (simp; omega) | simp)))))).mono ?_
    rintro e w0 ⟨rfl, hb_w0⟩
    obtain ⟨hc_w0, hf_w0⟩ := bcell hb_w0; have hs_w0 := hb_w0.size; (try simp only [World.size_alloc, World.size_setCell, World.size_drew, World.heap_drewN] at hs_w0)
    have k_w0 : Below w.heap.size w w0 := (by repeat (first | exact Below.refl _ _ | assumption | (refine below_drewN ?_ _) | (refine Below.drew ?_) | (refine Below.alloc ?_ (by first | omega | (simp; omega) | simp) _) | (refine Below.setCell ?_ (by first | omega | (simp; omega) | simp) _) | (refine below_trans ?_ (by assumption) (by first | omega | (simp; omega) | simp))))
    have b_w0 := k_w0
    have P4 := ((Bx.new w _ _).later hb_w0 : Bx w0 _ _)
    (try simp only [World.size_alloc] at P4)
    clear hc_w0 hf_w0
    obtain ⟨P4_c, P4_f⟩ := id P4
    have P4_l := P4.lt
    go_wp2_with fail
    go_at_call 11
    refine (HP.out _ (hT.later (by repeat (first | exact Below.refl _ _ | assumption | (refine below_drewN ?_ _) | (refine Below.drew ?_) | (refine Below.alloc ?_ (by first | omega | (simp; omega) | simp) _) | (refine Below.setCell ?_ (by first | omega | (simp; omega) | simp) _) | (refine below_trans ?_ (by assumption) (by first | omega | (simp; omega) | simp))))) ((hr.later b_w0).later (by repeat (first | exact Below.refl _ _ | assumption | (refine below_drewN ?_ _) | (refine Below.drew ?_) | (refine Below.alloc ?_ (by first | omega | (simp; omega) | simp) _) | (refine Below.setCell ?_ (by first | omega | (simp; omega) | simp) _) | (refine below_trans ?_ (by assumption) (by first | omega | (simp; omega) | simp)))))).mono ?_
    rintro e w2 ⟨B2, c2, rfl, o2, hb_w2⟩
    obtain ⟨hc_w2, hf_w2⟩ := bcell hb_w2; have hs_w2 := hb_w2.size; (try simp only [World.size_alloc, World.size_setCell, World.size_drew, World.heap_drewN] at hs_w2)
    have k_w2 : Below w0.heap.size w0 w2 := (by repeat (first | exact Below.refl _ _ | assumption | (refine below_drewN ?_ _) | (refine Below.drew ?_) | (refine Below.alloc ?_ (by first | omega | (simp; omega) | simp) _) | (refine Below.setCell ?_ (by first | omega | (simp; omega) | simp) _) | (refine below_trans ?_ (by assumption) (by first | omega | (simp; omega) | simp))))
    have b_w2 : Below w.heap.size w w2 := below_trans b_w0 k_w2 (by first | omega | (simp; omega) | simp)
    clear P4_c P4_f P4_l
    have P4 := (P4.later k_w2 : Bx w2 _ _)
    clear hc_w2 hf_w2
    obtain ⟨P4_c, P4_f⟩ := id P4
    have P4_l := P4.lt
    have ra := o2.row
    have n2 := Lib.hid o2.nil_
    go_wp2_with fail
    go_at_call 13
    refine (HD.out _ _ _ _ (hT.later (by repeat (first | exact Below.refl _ _ | assumption | (refine below_drewN ?_ _) | (refine Below.drew ?_) | (refine Below.alloc ?_ (by first | omega | (simp; omega) | simp) _) | (refine Below.setCell ?_ (by first | omega | (simp; omega) | simp) _) | (refine below_trans ?_ (by assumption) (by first | omega | (simp; omega) | simp))))) (ra.later (by repeat (first | exact Below.refl _ _ | assumption | (refine below_drewN ?_ _) | (refine Below.drew ?_) | (refine Below.alloc ?_ (by first | omega | (simp; omega) | simp) _) | (refine Below.setCell ?_ (by first | omega | (simp; omega) | simp) _) | (refine below_trans ?_ (by assumption) (by first | omega | (simp; omega) | simp))))) n2.out (by exact HN.out _ _ (by simp))).mono ?_
    rintro e w4 ⟨B4, c4, rfl, o4, hb_w4⟩
    obtain ⟨hc_w4, hf_w4⟩ := bcell hb_w4; have hs_w4 := hb_w4.size; (try simp only [World.size_alloc, World.size_setCell, World.size_drew, World.heap_drewN] at hs_w4)
    have k_w4 : Below w2.heap.size w2 w4 := (by repeat (first | exact Below.refl _ _ | assumption | (refine below_drewN ?_ _) | (refine Below.drew ?_) | (refine Below.alloc ?_ (by first | omega | (simp; omega) | simp) _) | (refine Below.setCell ?_ (by first | omega | (simp; omega) | simp) _) | (refine below_trans ?_ (by assumption) (by first | omega | (simp; omega) | simp))))
    have b_w4 : Below w.heap.size w w4 := below_trans b_w2 k_w4 (by first | omega | (simp; omega) | simp)
    clear P4_c P4_f P4_l
    have P4 := (P4.later k_w4 : Bx w4 _ _)
    have P9 := (((Bx.new w2 _ _).alloc _).later hb_w4 : Bx w4 _ _)
    (try simp only [World.size_alloc] at P9)
    have ra := ra.later k_w4
    clear hc_w4 hf_w4
    obtain ⟨P4_c, P4_f⟩ := id P4
    have P4_l := P4.lt
    obtain ⟨P9_c, P9_f⟩ := id P9
    have P9_l := P9.lt
    have rc := o4.row
    have n4 := Lib.hid o4.nil_
    go_wp2_with fail
    go_at_call 17
    refine (HG1.out _ _ _ (hT.later (by repeat (first | exact Below.refl _ _ | assumption | (refine below_drewN ?_ _) | (refine Below.drew ?_) | (refine Below.alloc ?_ (by first | omega | (simp; omega) | simp) _) | (refine Below.setCell ?_ (by first | omega | (simp; omega) | simp) _) | (refine below_trans ?_ (by assumption) (by first | omega | (simp; omega) | simp))))) (rc.later (by repeat (first | exact Below.refl _ _ | assumption | (refine below_drewN ?_ _) | (refine Below.drew ?_) | (refine Below.alloc ?_ (by first | omega | (simp; omega) | simp) _) | (refine Below.setCell ?_ (by first | omega | (simp; omega) | simp) _) | (refine below_trans ?_ (by assumption) (by first | omega | (simp; omega) | simp))))) n4.out).mono ?_
    rintro e w5 ⟨rfl, hb_w5⟩
    obtain ⟨hc_w5, hf_w5⟩ := bcell hb_w5; have hs_w5 := hb_w5.size; (try simp only [World.size_alloc, World.size_setCell, World.size_drew, World.heap_drewN] at hs_w5)
    have k_w5 : Below w4.heap.size w4 w5 := (by repeat (first | exact Below.refl _ _ | assumption | (refine below_drewN ?_ _) | (refine Below.drew ?_) | (refine Below.alloc ?_ (by first | omega | (simp; omega) | simp) _) | (refine Below.setCell ?_ (by first | omega | (simp; omega) | simp) _) | (refine below_trans ?_ (by assumption) (by first | omega | (simp; omega) | simp))))
    have b_w5 : Below w.heap.size w w5 := below_trans b_w4 k_w5 (by first | omega | (simp; omega) | simp)
    clear P4_c P4_f P4_l
    have P4 := (P4.later k_w5 : Bx w5 _ _)
    clear P9_c P9_f P9_l
    have P9 := (P9.later k_w5 : Bx w5 _ _)
    have P11 := ((Bx.new w4 _ _).later hb_w5 : Bx w5 _ _)
    (try simp only [World.size_alloc] at P11)
    have ra := ra.later k_w5
    have rc := rc.later k_w5
    clear hc_w5 hf_w5
    obtain ⟨P4_c, P4_f⟩ := id P4
    have P4_l := P4.lt
    obtain ⟨P9_c, P9_f⟩ := id P9
    have P9_l := P9.lt
    obtain ⟨P11_c, P11_f⟩ := id P11
    have P11_l := P11.lt
    go_wp2_with fail
    go_at_call 17
    refine (HG2.out _ (hT.later (by repeat (first | exact Below.refl _ _ | assumption | (refine below_drewN ?_ _) | (refine Below.drew ?_) | (refine Below.alloc ?_ (by first | omega | (simp; omega) | simp) _) | (refine Below.setCell ?_ (by first | omega | (simp; omega) | simp) _) | (refine below_trans ?_ (by assumption) (by first | omega | (simp; omega) | simp))))) ((hr.later b_w5).later (by repeat (first | exact Below.refl _ _ | assumption | (refine below_drewN ?_ _) | (refine Below.drew ?_) | (refine Below.alloc ?_ (by first | omega | (simp; omega) | simp) _) | (refine Below.setCell ?_ (by first | omega | (simp; omega) | simp) _) | (refine below_trans ?_ (by assumption) (by first | omega | (simp; omega) | simp)))))).mono ?_
    rintro e w6 ⟨rfl, hb_w6⟩
    obtain ⟨hc_w6, hf_w6⟩ := bcell hb_w6; have hs_w6 := hb_w6.size; (try simp only [World.size_alloc, World.size_setCell, World.size_drew, World.heap_drewN] at hs_w6)
    have k_w6 : Below w5.heap.size w5 w6 := (by repeat (first | exact Below.refl _ _ | assumption | (refine below_drewN ?_ _) | (refine Below.drew ?_) | (refine Below.alloc ?_ (by first | omega | (simp; omega) | simp) _) | (refine Below.setCell ?_ (by first | omega | (simp; omega) | simp) _) | (refine below_trans ?_ (by assumption) (by first | omega | (simp; omega) | simp))))
    have b_w6 : Below w.heap.size w w6 := below_trans b_w5 k_w6 (by first | omega | (simp; omega) | simp)
    clear P4_c P4_f P4_l
    have P4 := (P4.later k_w6 : Bx w6 _ _)
    clear P9_c P9_f P9_l
    have P9 := (P9.later k_w6 : Bx w6 _ _)
    clear P11_c P11_f P11_l
    have P11 := (P11.later k_w6 : Bx w6 _ _)
    have ra := ra.later k_w6
    have rc := rc.later k_w6
    clear hc_w6 hf_w6
    obtain ⟨P4_c, P4_f⟩ := id P4
    have P4_l := P4.lt
    obtain ⟨P9_c, P9_f⟩ := id P9
    have P9_l := P9.lt
    obtain ⟨P11_c, P11_f⟩ := id P11
    have P11_l := P11.lt
    go_wp2_with fail
    go_at_call 17
    refine (HG3.out _ _ _ (hT.later (by repeat (first | exact Below.refl _ _ | assumption | (refine below_drewN ?_ _) | (refine Below.drew ?_) | (refine Below.alloc ?_ (by first | omega | (simp; omega) | simp) _) | (refine Below.setCell ?_ (by first | omega | (simp; omega) | simp) _) | (refine below_trans ?_ (by assumption) (by first | omega | (simp; omega) | simp))))) (rc.later (by repeat (first | exact Below.refl _ _ | assumption | (refine below_drewN ?_ _) | (refine Below.drew ?_) | (refine Below.alloc ?_ (by first | omega | (simp; omega) | simp) _) | (refine Below.setCell ?_ (by first | omega | (simp; omega) | simp) _) | (refine below_trans ?_ (by assumption) (by first | omega | (simp; omega) | simp))))) n4.out).mono ?_
    rintro e w7 ⟨rfl, hb_w7⟩
    obtain ⟨hc_w7, hf_w7⟩ := bcell hb_w7; have hs_w7 := hb_w7.size; (try simp only [World.size_alloc, World.size_setCell, World.size_drew, World.heap_drewN] at hs_w7)
    have k_w7 : Below w6.heap.size w6 w7 := (by repeat (first | exact Below.refl _ _ | assumption | (refine below_drewN ?_ _) | (refine Below.drew ?_) | (refine Below.alloc ?_ (by first | omega | (simp; omega) | simp) _) | (refine Below.setCell ?_ (by first | omega | (simp; omega) | simp) _) | (refine below_trans ?_ (by assumption) (by first | omega | (simp; omega) | simp))))
    have b_w7 : Below w.heap.size w w7 := below_trans b_w6 k_w7 (by first | omega | (simp; omega) | simp)
    clear P4_c P4_f P4_l
    have P4 := (P4.later k_w7 : Bx w7 _ _)
    clear P9_c P9_f P9_l
    have P9 := (P9.later k_w7 : Bx w7 _ _)
    clear P11_c P11_f P11_l
    have P11 := (P11.later k_w7 : Bx w7 _ _)
    have ra := ra.later k_w7
    have rc := rc.later k_w7
    clear hc_w7 hf_w7
    obtain ⟨P4_c, P4_f⟩ := id P4
    have P4_l := P4.lt
    obtain ⟨P9_c, P9_f⟩ := id P9
    have P9_l := P9.lt
    obtain ⟨P11_c, P11_f⟩ := id P11
    have P11_l := P11.lt
    rcases hcase with f1 | ⟨f1, f2, f3⟩
    all_goals
      go_wp2_with fail
      go_at_call 24
      refine (HC.out _ _ _ (hT.later (by repeat (first | exact Below.refl _ _ | assumption | (refine below_drewN ?_ _) | (refine Below.drew ?_) | (refine Below.alloc ?_ (by first | omega | (simp; omega) | simp) _) | (refine Below.setCell ?_ (by first | omega | (simp; omega) | simp) _) | (refine below_trans ?_ (by assumption) (by first | omega | (simp; omega) | simp))))) (rc.later (by repeat (first | exact Below.refl _ _ | assumption | (refine below_drewN ?_ _) | (refine Below.drew ?_) | (refine Below.alloc ?_ (by first | omega | (simp; omega) | simp) _) | (refine Below.setCell ?_ (by first | omega | (simp; omega) | simp) _) | (refine below_trans ?_ (by assumption) (by first | omega | (simp; omega) | simp))))) n4.out).mono ?_
      rintro e w8 ⟨rfl, hb_w8⟩
      obtain ⟨hc_w8, hf_w8⟩ := bcell hb_w8; have hs_w8 := hb_w8.size; (try simp only [World.size_alloc, World.size_setCell, World.size_drew, World.heap_drewN] at hs_w8)
      have k_w8 : Below w7.heap.size w7 w8 := (by repeat (first | exact Below.refl _ _ | assumption | (refine below_drewN ?_ _) | (refine Below.drew ?_) | (refine Below.alloc ?_ (by first | omega | (simp; omega) | simp) _) | (refine Below.setCell ?_ (by first | omega | (simp; omega) | simp) _) | (refine below_trans ?_ (by assumption) (by first | omega | (simp; omega) | simp))))
      have b_w8 : Below w.heap.size w w8 := below_trans b_w7 k_w8 (by first | omega | (simp; omega) | simp)
      clear P4_c P4_f P4_l
      have P4 := (P4.later k_w8 : Bx w8 _ _)
      clear P9_c P9_f P9_l
      have P9 := (P9.later k_w8 : Bx w8 _ _)
      clear P11_c P11_f P11_l
      have P11 := (P11.later k_w8 : Bx w8 _ _)
      have ra := ra.later k_w8
      have rc := rc.later k_w8
      clear hc_w8 hf_w8
      obtain ⟨P4_c, P4_f⟩ := id P4
      have P4_l := P4.lt
      obtain ⟨P9_c, P9_f⟩ := id P9
      have P9_l := P9.lt
      obtain ⟨P11_c, P11_f⟩ := id P11
      have P11_l := P11.lt
      go_wp2
      go_ret
      exact ⟨rfl, (by repeat (first | exact Below.refl _ _ | assumption | (refine below_drewN ?_ _) | (refine Below.drew ?_) | (refine Below.alloc ?_ (by first | omega | (simp; omega) | simp) _) | (refine Below.setCell ?_ (by first | omega | (simp; omega) | simp) _) | (refine below_trans ?_ (by assumption) (by first | omega | (simp; omega) | simp))))⟩
  · have f1 : (y1 != 0) = true := bne_iff_ne.2 hy
    rcases hE1.no hy with ⟨hn, rfl, rfl⟩ | ⟨hok, rfl, hc⟩
    · clear hE1 hn hy
      unfold eph at *
      go_enter Tryd.func9, Tryd.ntmps9
      go_wp2_with fail
      go_at_call 15
      refine (elives_any _ (hT.later (by repeat (first | exact Below.refl _ _ | assumption | (refine below_drewN ?_ _) | (refine Below.drew ?_) | (refine Below.alloc ?_ (by first | omega | (simp; omega) | simp) _) | (refine Below.setCell ?_ (by first | omega | (simp; omega) | simp) _) | (refine below_trans ?_ (by assumption) (by first | omega | (simp; omega) | simp)))))).mono ?_
      rintro e w0 ⟨rfl, hb_w0⟩
      obtain ⟨hc_w0, hf_w0⟩ := bcell hb_w0; have hs_w0 := hb_w0.size; (try simp only [World.size_alloc, World.size_setCell, World.size_drew, World.heap_drewN] at hs_w0)
      have k_w0 : Below w.heap.size w w0 := (by repeat (first | exact Below.refl _ _ | assumption | (refine below_drewN ?_ _) | (refine Below.drew ?_) | (refine Below.alloc ?_ (by first | omega | (simp; omega) | simp) _) | (refine Below.setCell ?_ (by first | omega | (simp; omega) | simp) _) | (refine below_trans ?_ (by assumption) (by first | omega | (simp; omega) | simp))))
      have b_w0 := k_w0
      have P4 := ((Bx.new w _ _).later hb_w0 : Bx w0 _ _)
      (try simp only [World.size_alloc] at P4)
      clear hc_w0 hf_w0
      obtain ⟨P4_c, P4_f⟩ := id P4
      have P4_l := P4.lt
      go_wp2_with fail
      go_at_call 11
      refine (HP.out _ (hT.later (by repeat (first | exact Below.refl _ _ | assumption | (refine below_drewN ?_ _) | (refine Below.drew ?_) | (refine Below.alloc ?_ (by first | omega | (simp; omega) | simp) _) | (refine Below.setCell ?_ (by first | omega | (simp; omega) | simp) _) | (refine below_trans ?_ (by assumption) (by first | omega | (simp; omega) | simp))))) ((hr.later b_w0).later (by repeat (first | exact Below.refl _ _ | assumption | (refine below_drewN ?_ _) | (refine Below.drew ?_) | (refine Below.alloc ?_ (by first | omega | (simp; omega) | simp) _) | (refine Below.setCell ?_ (by first | omega | (simp; omega) | simp) _) | (refine below_trans ?_ (by assumption) (by first | omega | (simp; omega) | simp)))))).mono ?_
      rintro e w2 ⟨B2, c2, rfl, o2, hb_w2⟩
      obtain ⟨hc_w2, hf_w2⟩ := bcell hb_w2; have hs_w2 := hb_w2.size; (try simp only [World.size_alloc, World.size_setCell, World.size_drew, World.heap_drewN] at hs_w2)
      have k_w2 : Below w0.heap.size w0 w2 := (by repeat (first | exact Below.refl _ _ | assumption | (refine below_drewN ?_ _) | (refine Below.drew ?_) | (refine Below.alloc ?_ (by first | omega | (simp; omega) | simp) _) | (refine Below.setCell ?_ (by first | omega | (simp; omega) | simp) _) | (refine below_trans ?_ (by assumption) (by first | omega | (simp; omega) | simp))))
      have b_w2 : Below w.heap.size w w2 := below_trans b_w0 k_w2 (by first | omega | (simp; omega) | simp)
      clear P4_c P4_f P4_l
      have P4 := (P4.later k_w2 : Bx w2 _ _)
      clear hc_w2 hf_w2
      obtain ⟨P4_c, P4_f⟩ := id P4
      have P4_l := P4.lt
      go_wp2
      go_ret
      exact ⟨rfl, (by repeat (first | exact Below.refl _ _ | assumption | (refine below_drewN ?_ _) | (refine Below.drew ?_) | (refine Below.alloc ?_ (by first | omega | (simp; omega) | simp) _) | (refine Below.setCell ?_ (by first | omega | (simp; omega) | simp) _) | (refine below_trans ?_ (by assumption) (by first | omega | (simp; omega) | simp))))⟩
    · have f2 : (y1 == 2) = false := by rw [beq_eq_false_iff_ne]; rcases hc with ⟨_, h⟩ | ⟨h, _⟩ <;> omega
      have HS := Lib.hid fun (w : World) (A C : Option Addr) (ca cc : Nat) hr hq => esame_self (w := w) A C ca cc r1 hl hr hq
      clear hE1 hok hc hy
      unfold eph at *
      go_enter Tryd.func9, Tryd.ntmps9
      go_wp2_with fail
      go_at_call 15
      refine (elives_any _ (hT.later (by repeat (first | exact Below.refl _ _ | assumption | (refine below_drewN ?_ _) | (refine Below.drew ?_) | (refine Below.alloc ?_ (by first | omega | (simp; omega) | simp) _) | (refine Below.setCell ?_ (by first | omega | (simp; omega) | simp) _) | (refine below_trans ?_ (by assumption) (by first | omega | (simp; omega) | simp)))))).mono ?_
      rintro e w0 ⟨rfl, hb_w0⟩
      obtain ⟨hc_w0, hf_w0⟩ := bcell hb_w0; have hs_w0 := hb_w0.size; (try simp only [World.size_alloc, World.size_setCell, World.size_drew, World.heap_drewN] at hs_w0)
      have k_w0 : Below w.heap.size w w0 := (by repeat (first | exact Below.refl _ _ | assumption | (refine below_drewN ?_ _) | (refine Below.drew ?_) | (refine Below.alloc ?_ (by first | omega | (simp; omega) | simp) _) | (refine Below.setCell ?_ (by first | omega | (simp; omega) | simp) _) | (refine below_trans ?_ (by assumption) (by first | omega | (simp; omega) | simp))))
      have b_w0 := k_w0
      have P4 := ((Bx.new w _ _).later hb_w0 : Bx w0 _ _)
      (try simp only [World.size_alloc] at P4)
      clear hc_w0 hf_w0
      obtain ⟨P4_c, P4_f⟩ := id P4
      have P4_l := P4.lt
      go_wp2_with fail
      go_at_call 11
      refine (HP.out _ (hT.later (by repeat (first | exact Below.refl _ _ | assumption | (refine below_drewN ?_ _) | (refine Below.drew ?_) | (refine Below.alloc ?_ (by first | omega | (simp; omega) | simp) _) | (refine Below.setCell ?_ (by first | omega | (simp; omega) | simp) _) | (refine below_trans ?_ (by assumption) (by first | omega | (simp; omega) | simp))))) ((hr.later b_w0).later (by repeat (first | exact Below.refl _ _ | assumption | (refine below_drewN ?_ _) | (refine Below.drew ?_) | (refine Below.alloc ?_ (by first | omega | (simp; omega) | simp) _) | (refine Below.setCell ?_ (by first | omega | (simp; omega) | simp) _) | (refine below_trans ?_ (by assumption) (by first | omega | (simp; omega) | simp)))))).mono ?_
      rintro e w2 ⟨B2, c2, rfl, o2, hb_w2⟩
      obtain ⟨hc_w2, hf_w2⟩ := bcell hb_w2; have hs_w2 := hb_w2.size; (try simp only [World.size_alloc, World.size_setCell, World.size_drew, World.heap_drewN] at hs_w2)
      have k_w2 : Below w0.heap.size w0 w2 := (by repeat (first | exact Below.refl _ _ | assumption | (refine below_drewN ?_ _) | (refine Below.drew ?_) | (refine Below.alloc ?_ (by first | omega | (simp; omega) | simp) _) | (refine Below.setCell ?_ (by first | omega | (simp; omega) | simp) _) | (refine below_trans ?_ (by assumption) (by first | omega | (simp; omega) | simp))))
      have b_w2 : Below w.heap.size w w2 := below_trans b_w0 k_w2 (by first | omega | (simp; omega) | simp)
      clear P4_c P4_f P4_l
      have P4 := (P4.later k_w2 : Bx w2 _ _)
      clear hc_w2 hf_w2
      obtain ⟨P4_c, P4_f⟩ := id P4
      have P4_l := P4.lt
      have ra := o2.row
      go_wp2_with fail
      go_at_call 16
      refine (HS.out _ _ _ _ _ ((hr.later b_w2).later (by repeat (first | exact Below.refl _ _ | assumption | (refine below_drewN ?_ _) | (refine Below.drew ?_) | (refine Below.alloc ?_ (by first | omega | (simp; omega) | simp) _) | (refine Below.setCell ?_ (by first | omega | (simp; omega) | simp) _) | (refine below_trans ?_ (by assumption) (by first | omega | (simp; omega) | simp))))) (ra.later (by repeat (first | exact Below.refl _ _ | assumption | (refine below_drewN ?_ _) | (refine Below.drew ?_) | (refine Below.alloc ?_ (by first | omega | (simp; omega) | simp) _) | (refine Below.setCell ?_ (by first | omega | (simp; omega) | simp) _) | (refine below_trans ?_ (by assumption) (by first | omega | (simp; omega) | simp)))))).mono ?_
      rintro e w3 ⟨rfl, hb_w3⟩
      obtain ⟨hc_w3, hf_w3⟩ := bcell hb_w3; have hs_w3 := hb_w3.size; (try simp only [World.size_alloc, World.size_setCell, World.size_drew, World.heap_drewN] at hs_w3)
      have k_w3 : Below w2.heap.size w2 w3 := (by repeat (first | exact Below.refl _ _ | assumption | (refine below_drewN ?_ _) | (refine Below.drew ?_) | (refine Below.alloc ?_ (by first | omega | (simp; omega) | simp) _) | (refine Below.setCell ?_ (by first | omega | (simp; omega) | simp) _) | (refine below_trans ?_ (by assumption) (by first | omega | (simp; omega) | simp))))
      have b_w3 : Below w.heap.size w w3 := below_trans b_w2 k_w3 (by first | omega | (simp; omega) | simp)
      clear P4_c P4_f P4_l
      have P4 := (P4.later k_w3 : Bx w3 _ _)
      have P9 := ((Bx.new w2 _ _).later hb_w3 : Bx w3 _ _)
      (try simp only [World.size_alloc] at P9)
      have ra := ra.later k_w3
      clear hc_w3 hf_w3
      obtain ⟨P4_c, P4_f⟩ := id P4
      have P4_l := P4.lt
      obtain ⟨P9_c, P9_f⟩ := id P9
      have P9_l := P9.lt
      go_wp2
      go_ret
      exact ⟨rfl, (by repeat (first | exact Below.refl _ _ | assumption | (refine below_drewN ?_ _) | (refine Below.drew ?_) | (refine Below.alloc ?_ (by first | omega | (simp; omega) | simp) _) | (refine Below.setCell ?_ (by first | omega | (simp; omega) | simp) _) | (refine below_trans ?_ (by assumption) (by first | omega | (simp; omega) | simp))))⟩
end Go.Proofs.YtloemeinpknamaaDoor
