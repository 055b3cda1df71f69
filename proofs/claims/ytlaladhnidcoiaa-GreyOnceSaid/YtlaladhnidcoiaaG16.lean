/- The walk of the law GreyDoes. -/
import Derived.Test.YtlaladhnidcoiaaG15
namespace Go.Proofs.Ytlaladhnidcoiaa
open Go.RowKit
set_option linter.unusedVariables false
set_option linter.unusedSimpArgs false

theorem xgsame_self (w : World) (A C : Option Addr) (ca cc : Nat) (qs : List (List Nat)) (hr : GRow w A qs) (hq : GRow w C qs) :
    Calls Try.prog 15 #[gv A qs.length ca, gv C qs.length cc] w fun e w' => e = .returned (.bool true) ∧ Below w.heap.size w w' :=
  xgsame_any (w := w) (A := A) (C := C) (qs := qs) (ps := qs) ca cc hr hq true ⟨fun _ => rfl, fun _ => rfl⟩
set_option maxHeartbeats 8000000 in
theorem greyDoes_walk (A U : Option Addr) (cap cu : Nat) (qs : List (List Nat)) (us : List Nat) (x : Int) (w : World) (hr : GRow w A qs) (hx : -9223372036854775808 ≤ x ∧ x ≤ 9223372036854775807) (hu : Row w w.heap.size U us) (hul : us.length ≤ 17592186044416) :
    Calls Try.prog 3 #[.agg #[.slice A qs.length cap], .int .i64 x, .slice U us.length cu] w fun e w' => e = .returned (.bool true) ∧ Below w.heap.size w w' := by
  obtain ⟨r1, y1, hE1⟩ := PushE.ex qs x us
  obtain ⟨r2, a2, s2, y2, hE2⟩ := PopE.ex qs x
  have HCP := Lib.hid fun (w : World) hr => xgcopy_any (w := w) (A := A) (qs := qs) cap hr
  have HP := Lib.hid fun (w : World) (A : Option Addr) (cap : Nat) hr hu => gpush_any (w := w) (A := A) (U := U) (qs := qs) (us := us) cap cu hr x hx hu hul _ _ hE1
  have HXP := Lib.hid fun (w : World) hr hu => xgpush_any (w := w) (A := A) (U := U) (qs := qs) (us := us) cap cu hr x hx hu hul _ _ hE1
  have HO := Lib.hid fun (w : World) (A : Option Addr) (cap : Nat) hr => gpop_any (w := w) (A := A) (qs := qs) cap hr x hx _ _ _ _ hE2
  have HXO := Lib.hid fun (w : World) hr => xgpop_any (w := w) (A := A) (qs := qs) cap hr x hx _ _ _ _ hE2
  have HS1 := Lib.hid fun (w : World) (A C : Option Addr) (ca cc : Nat) hr hq => xgsame_self w A C ca cc r1 hr hq
  have HS2 := Lib.hid fun (w : World) (A C : Option Addr) (ca cc : Nat) hr hq => xgsame_self w A C ca cc r2 hr hq
  have HS3 := Lib.hid fun (w : World) (A C : Option Addr) (ca cc : Nat) hr hq => xgsame_self w A C ca cc qs hr hq
  unfold TwinG at HCP
  unfold PushG at HP HXP
  unfold PopG at HO HXO
  unfold gv at *
  have n1 : (y1 == y1) = true := by simp
  have n2 : ((a2 : Int) == (a2 : Int)) = true := by simp
  have n3 : (s2 == s2) = true := by simp
  have n4 : (y2 == y2) = true := by simp
  clear hE1 hE2
  go_enter Try.func3, Try.ntmps3
  go_wp2_with fail
  go_at_call 9
  refine (HCP.out _ (hr.later (by repeat (first | exact Below.refl _ _ | assumption | (refine below_drewN ?_ _) | (refine Below.drew ?_) | (refine Below.alloc ?_ (by first | omega | (simp; omega) | simp) _) | (refine Below.setCell ?_ (by first | omega | (simp; omega) | simp) _) | (refine below_trans ?_ (by assumption) (by first | omega | (simp; omega) | simp)))))).mono ?_
  rintro e w1 ⟨B1, c1, vs1, rfl, hv1, o1, hb_w1⟩
  obtain ⟨hc_w1, hf_w1⟩ := bcell hb_w1; have hs_w1 := hb_w1.size; (try simp only [World.size_alloc, World.size_setCell, World.size_drew, World.heap_drewN] at hs_w1)
  have k_w1 : Below w.heap.size w w1 := (by repeat (first | exact Below.refl _ _ | assumption | (refine below_drewN ?_ _) | (refine Below.drew ?_) | (refine Below.alloc ?_ (by first | omega | (simp; omega) | simp) _) | (refine Below.setCell ?_ (by first | omega | (simp; omega) | simp) _) | (refine below_trans ?_ (by assumption) (by first | omega | (simp; omega) | simp))))
  have b_w1 := k_w1
  have P3 := ((Bx.new w _ _).later hb_w1 : Bx w1 _ _)
  (try simp only [World.size_alloc] at P3)
  clear hc_w1 hf_w1
  obtain ⟨P3_c, P3_f⟩ := id P3
  have P3_l := P3.lt
  have rg : GRow w1 B1 qs := by rw [← hv1]; exact (o1.own (by rw [hv1]; exact hr.lim)).row
  clear o1 hv1
  go_wp2_with fail
  go_at_call 10
  refine (HP.out _ _ _ (rg.later (by repeat (first | exact Below.refl _ _ | assumption | (refine below_drewN ?_ _) | (refine Below.drew ?_) | (refine Below.alloc ?_ (by first | omega | (simp; omega) | simp) _) | (refine Below.setCell ?_ (by first | omega | (simp; omega) | simp) _) | (refine below_trans ?_ (by assumption) (by first | omega | (simp; omega) | simp))))) ((hu.later b_w1).later (by repeat (first | exact Below.refl _ _ | assumption | (refine below_drewN ?_ _) | (refine Below.drew ?_) | (refine Below.alloc ?_ (by first | omega | (simp; omega) | simp) _) | (refine Below.setCell ?_ (by first | omega | (simp; omega) | simp) _) | (refine below_trans ?_ (by assumption) (by first | omega | (simp; omega) | simp)))))).mono ?_
  rintro e w2 ⟨B2, c2, rfl, o2, hb_w2⟩
  obtain ⟨hc_w2, hf_w2⟩ := bcell hb_w2; have hs_w2 := hb_w2.size; (try simp only [World.size_alloc, World.size_setCell, World.size_drew, World.heap_drewN] at hs_w2)
  have k_w2 : Below w1.heap.size w1 w2 := (by repeat (first | exact Below.refl _ _ | assumption | (refine below_drewN ?_ _) | (refine Below.drew ?_) | (refine Below.alloc ?_ (by first | omega | (simp; omega) | simp) _) | (refine Below.setCell ?_ (by first | omega | (simp; omega) | simp) _) | (refine below_trans ?_ (by assumption) (by first | omega | (simp; omega) | simp))))
  have b_w2 : Below w.heap.size w w2 := below_trans b_w1 k_w2 (by first | omega | (simp; omega) | simp)
  clear P3_c P3_f P3_l
  have P3 := (P3.later k_w2 : Bx w2 _ _)
  have P7 := ((Bx.new w1 _ _).later hb_w2 : Bx w2 _ _)
  (try simp only [World.size_alloc] at P7)
  have rg := rg.later k_w2
  clear hc_w2 hf_w2
  obtain ⟨P3_c, P3_f⟩ := id P3
  have P3_l := P3.lt
  obtain ⟨P7_c, P7_f⟩ := id P7
  have P7_l := P7.lt
  have ra := o2.row
  clear o2
  go_wp2_with fail
  go_at_call 11
  refine (HXP.out _ ((hr.later b_w2).later (by repeat (first | exact Below.refl _ _ | assumption | (refine below_drewN ?_ _) | (refine Below.drew ?_) | (refine Below.alloc ?_ (by first | omega | (simp; omega) | simp) _) | (refine Below.setCell ?_ (by first | omega | (simp; omega) | simp) _) | (refine below_trans ?_ (by assumption) (by first | omega | (simp; omega) | simp))))) ((hu.later b_w2).later (by repeat (first | exact Below.refl _ _ | assumption | (refine below_drewN ?_ _) | (refine Below.drew ?_) | (refine Below.alloc ?_ (by first | omega | (simp; omega) | simp) _) | (refine Below.setCell ?_ (by first | omega | (simp; omega) | simp) _) | (refine below_trans ?_ (by assumption) (by first | omega | (simp; omega) | simp)))))).mono ?_
  rintro e w3 ⟨B3, c3, rfl, o3, hb_w3⟩
  obtain ⟨hc_w3, hf_w3⟩ := bcell hb_w3; have hs_w3 := hb_w3.size; (try simp only [World.size_alloc, World.size_setCell, World.size_drew, World.heap_drewN] at hs_w3)
  have k_w3 : Below w2.heap.size w2 w3 := (by repeat (first | exact Below.refl _ _ | assumption | (refine below_drewN ?_ _) | (refine Below.drew ?_) | (refine Below.alloc ?_ (by first | omega | (simp; omega) | simp) _) | (refine Below.setCell ?_ (by first | omega | (simp; omega) | simp) _) | (refine below_trans ?_ (by assumption) (by first | omega | (simp; omega) | simp))))
  have b_w3 : Below w.heap.size w w3 := below_trans b_w2 k_w3 (by first | omega | (simp; omega) | simp)
  clear P3_c P3_f P3_l
  have P3 := (P3.later k_w3 : Bx w3 _ _)
  clear P7_c P7_f P7_l
  have P7 := (P7.later k_w3 : Bx w3 _ _)
  have P8 := ((Bx.new w2 _ _).later hb_w3 : Bx w3 _ _)
  (try simp only [World.size_alloc] at P8)
  have rg := rg.later k_w3
  have ra := ra.later k_w3
  clear hc_w3 hf_w3
  obtain ⟨P3_c, P3_f⟩ := id P3
  have P3_l := P3.lt
  obtain ⟨P7_c, P7_f⟩ := id P7
  have P7_l := P7.lt
  obtain ⟨P8_c, P8_f⟩ := id P8
  have P8_l := P8.lt
  have rb := o3.row
  clear o3
  go_wp2_with fail
  go_at_call 12
  refine (HO.out _ _ _ (rg.later (by repeat (first | exact Below.refl _ _ | assumption | (refine below_drewN ?_ _) | (refine Below.drew ?_) | (refine Below.alloc ?_ (by first | omega | (simp; omega) | simp) _) | (refine Below.setCell ?_ (by first | omega | (simp; omega) | simp) _) | (refine below_trans ?_ (by assumption) (by first | omega | (simp; omega) | simp)))))).mono ?_
  rintro e w4 ⟨B4, c4, rfl, o4, hb_w4⟩
  obtain ⟨hc_w4, hf_w4⟩ := bcell hb_w4; have hs_w4 := hb_w4.size; (try simp only [World.size_alloc, World.size_setCell, World.size_drew, World.heap_drewN] at hs_w4)
  have k_w4 : Below w3.heap.size w3 w4 := (by repeat (first | exact Below.refl _ _ | assumption | (refine below_drewN ?_ _) | (refine Below.drew ?_) | (refine Below.alloc ?_ (by first | omega | (simp; omega) | simp) _) | (refine Below.setCell ?_ (by first | omega | (simp; omega) | simp) _) | (refine below_trans ?_ (by assumption) (by first | omega | (simp; omega) | simp))))
  have b_w4 : Below w.heap.size w w4 := below_trans b_w3 k_w4 (by first | omega | (simp; omega) | simp)
  clear P3_c P3_f P3_l
  have P3 := (P3.later k_w4 : Bx w4 _ _)
  clear P7_c P7_f P7_l
  have P7 := (P7.later k_w4 : Bx w4 _ _)
  clear P8_c P8_f P8_l
  have P8 := (P8.later k_w4 : Bx w4 _ _)
  have P10 := ((Bx.new w3 _ _).later hb_w4 : Bx w4 _ _)
  (try simp only [World.size_alloc] at P10)
  have rg := rg.later k_w4
  have ra := ra.later k_w4
  have rb := rb.later k_w4
  clear hc_w4 hf_w4
  obtain ⟨P3_c, P3_f⟩ := id P3
  have P3_l := P3.lt
  obtain ⟨P7_c, P7_f⟩ := id P7
  have P7_l := P7.lt
  obtain ⟨P8_c, P8_f⟩ := id P8
  have P8_l := P8.lt
  obtain ⟨P10_c, P10_f⟩ := id P10
  have P10_l := P10.lt
  have rc := o4.row
  clear o4
  go_wp2_with fail
  go_at_call 13
  refine (HXO.out _ ((hr.later b_w4).later (by repeat (first | exact Below.refl _ _ | assumption | (refine below_drewN ?_ _) | (refine Below.drew ?_) | (refine Below.alloc ?_ (by first | omega | (simp; omega) | simp) _) | (refine Below.setCell ?_ (by first | omega | (simp; omega) | simp) _) | (refine below_trans ?_ (by assumption) (by first | omega | (simp; omega) | simp)))))).mono ?_
  rintro e w5 ⟨B5, c5, rfl, o5, hb_w5⟩
  obtain ⟨hc_w5, hf_w5⟩ := bcell hb_w5; have hs_w5 := hb_w5.size; (try simp only [World.size_alloc, World.size_setCell, World.size_drew, World.heap_drewN] at hs_w5)
  have k_w5 : Below w4.heap.size w4 w5 := (by repeat (first | exact Below.refl _ _ | assumption | (refine below_drewN ?_ _) | (refine Below.drew ?_) | (refine Below.alloc ?_ (by first | omega | (simp; omega) | simp) _) | (refine Below.setCell ?_ (by first | omega | (simp; omega) | simp) _) | (refine below_trans ?_ (by assumption) (by first | omega | (simp; omega) | simp))))
  have b_w5 : Below w.heap.size w w5 := below_trans b_w4 k_w5 (by first | omega | (simp; omega) | simp)
  clear P3_c P3_f P3_l
  have P3 := (P3.later k_w5 : Bx w5 _ _)
  clear P7_c P7_f P7_l
  have P7 := (P7.later k_w5 : Bx w5 _ _)
  clear P8_c P8_f P8_l
  have P8 := (P8.later k_w5 : Bx w5 _ _)
  clear P10_c P10_f P10_l
  have P10 := (P10.later k_w5 : Bx w5 _ _)
  have P12 := ((Bx.new w4 _ _).later hb_w5 : Bx w5 _ _)
  (try simp only [World.size_alloc] at P12)
  have rg := rg.later k_w5
  have ra := ra.later k_w5
  have rb := rb.later k_w5
  have rc := rc.later k_w5
  clear hc_w5 hf_w5
  obtain ⟨P3_c, P3_f⟩ := id P3
  have P3_l := P3.lt
  obtain ⟨P7_c, P7_f⟩ := id P7
  have P7_l := P7.lt
  obtain ⟨P8_c, P8_f⟩ := id P8
  have P8_l := P8.lt
  obtain ⟨P10_c, P10_f⟩ := id P10
  have P10_l := P10.lt
  obtain ⟨P12_c, P12_f⟩ := id P12
  have P12_l := P12.lt
  have rd := o5.row
  clear o5
  go_wp2_with fail
  go_at_call 14
  refine (glives_any _).mono ?_
  rintro e w6 ⟨rfl, hb_w6⟩
  obtain ⟨hc_w6, hf_w6⟩ := bcell hb_w6; have hs_w6 := hb_w6.size; (try simp only [World.size_alloc, World.size_setCell, World.size_drew, World.heap_drewN] at hs_w6)
  have k_w6 : Below w5.heap.size w5 w6 := (by repeat (first | exact Below.refl _ _ | assumption | (refine below_drewN ?_ _) | (refine Below.drew ?_) | (refine Below.alloc ?_ (by first | omega | (simp; omega) | simp) _) | (refine Below.setCell ?_ (by first | omega | (simp; omega) | simp) _) | (refine below_trans ?_ (by assumption) (by first | omega | (simp; omega) | simp))))
  have b_w6 : Below w.heap.size w w6 := below_trans b_w5 k_w6 (by first | omega | (simp; omega) | simp)
  clear P3_c P3_f P3_l
  have P3 := (P3.later k_w6 : Bx w6 _ _)
  clear P7_c P7_f P7_l
  have P7 := (P7.later k_w6 : Bx w6 _ _)
  clear P8_c P8_f P8_l
  have P8 := (P8.later k_w6 : Bx w6 _ _)
  clear P10_c P10_f P10_l
  have P10 := (P10.later k_w6 : Bx w6 _ _)
  clear P12_c P12_f P12_l
  have P12 := (P12.later k_w6 : Bx w6 _ _)
  have P16 := ((Bx.new w5 _ _).later hb_w6 : Bx w6 _ _)
  (try simp only [World.size_alloc] at P16)
  have rg := rg.later k_w6
  have ra := ra.later k_w6
  have rb := rb.later k_w6
  have rc := rc.later k_w6
  have rd := rd.later k_w6
  clear hc_w6 hf_w6
  obtain ⟨P3_c, P3_f⟩ := id P3
  have P3_l := P3.lt
  obtain ⟨P7_c, P7_f⟩ := id P7
  have P7_l := P7.lt
  obtain ⟨P8_c, P8_f⟩ := id P8
  have P8_l := P8.lt
  obtain ⟨P10_c, P10_f⟩ := id P10
  have P10_l := P10.lt
  obtain ⟨P12_c, P12_f⟩ := id P12
  have P12_l := P12.lt
  obtain ⟨P16_c, P16_f⟩ := id P16
  have P16_l := P16.lt
  go_wp2_with fail
  go_at_call 15
  refine (HS1.out _ _ _ _ _ (ra.later (by repeat (first | exact Below.refl _ _ | assumption | (refine below_drewN ?_ _) | (refine Below.drew ?_) | (refine Below.alloc ?_ (by first | omega | (simp; omega) | simp) _) | (refine Below.setCell ?_ (by first | omega | (simp; omega) | simp) _) | (refine below_trans ?_ (by assumption) (by first | omega | (simp; omega) | simp))))) (rb.later (by repeat (first | exact Below.refl _ _ | assumption | (refine below_drewN ?_ _) | (refine Below.drew ?_) | (refine Below.alloc ?_ (by first | omega | (simp; omega) | simp) _) | (refine Below.setCell ?_ (by first | omega | (simp; omega) | simp) _) | (refine below_trans ?_ (by assumption) (by first | omega | (simp; omega) | simp)))))).mono ?_
  rintro e w7 ⟨rfl, hb_w7⟩
  obtain ⟨hc_w7, hf_w7⟩ := bcell hb_w7; have hs_w7 := hb_w7.size; (try simp only [World.size_alloc, World.size_setCell, World.size_drew, World.heap_drewN] at hs_w7)
  have k_w7 : Below w6.heap.size w6 w7 := (by repeat (first | exact Below.refl _ _ | assumption | (refine below_drewN ?_ _) | (refine Below.drew ?_) | (refine Below.alloc ?_ (by first | omega | (simp; omega) | simp) _) | (refine Below.setCell ?_ (by first | omega | (simp; omega) | simp) _) | (refine below_trans ?_ (by assumption) (by first | omega | (simp; omega) | simp))))
  have b_w7 : Below w.heap.size w w7 := below_trans b_w6 k_w7 (by first | omega | (simp; omega) | simp)
  clear P3_c P3_f P3_l
  have P3 := (P3.later k_w7 : Bx w7 _ _)
  clear P7_c P7_f P7_l
  have P7 := (P7.later k_w7 : Bx w7 _ _)
  clear P8_c P8_f P8_l
  have P8 := (P8.later k_w7 : Bx w7 _ _)
  clear P10_c P10_f P10_l
  have P10 := (P10.later k_w7 : Bx w7 _ _)
  clear P12_c P12_f P12_l
  have P12 := (P12.later k_w7 : Bx w7 _ _)
  clear P16_c P16_f P16_l
  have P16 := (P16.later k_w7 : Bx w7 _ _)
  have rg := rg.later k_w7
  have ra := ra.later k_w7
  have rb := rb.later k_w7
  have rc := rc.later k_w7
  have rd := rd.later k_w7
  clear hc_w7 hf_w7
  obtain ⟨P3_c, P3_f⟩ := id P3
  have P3_l := P3.lt
  obtain ⟨P7_c, P7_f⟩ := id P7
  have P7_l := P7.lt
  obtain ⟨P8_c, P8_f⟩ := id P8
  have P8_l := P8.lt
  obtain ⟨P10_c, P10_f⟩ := id P10
  have P10_l := P10.lt
  obtain ⟨P12_c, P12_f⟩ := id P12
  have P12_l := P12.lt
  obtain ⟨P16_c, P16_f⟩ := id P16
  have P16_l := P16.lt
  go_wp2_with fail
  go_at_call 15
  refine (HS2.out _ _ _ _ _ (rc.later (by repeat (first | exact Below.refl _ _ | assumption | (refine below_drewN ?_ _) | (refine Below.drew ?_) | (refine Below.alloc ?_ (by first | omega | (simp; omega) | simp) _) | (refine Below.setCell ?_ (by first | omega | (simp; omega) | simp) _) | (refine below_trans ?_ (by assumption) (by first | omega | (simp; omega) | simp))))) (rd.later (by repeat (first | exact Below.refl _ _ | assumption | (refine below_drewN ?_ _) | (refine Below.drew ?_) | (refine Below.alloc ?_ (by first | omega | (simp; omega) | simp) _) | (refine Below.setCell ?_ (by first | omega | (simp; omega) | simp) _) | (refine below_trans ?_ (by assumption) (by first | omega | (simp; omega) | simp)))))).mono ?_
  rintro e w8 ⟨rfl, hb_w8⟩
  obtain ⟨hc_w8, hf_w8⟩ := bcell hb_w8; have hs_w8 := hb_w8.size; (try simp only [World.size_alloc, World.size_setCell, World.size_drew, World.heap_drewN] at hs_w8)
  have k_w8 : Below w7.heap.size w7 w8 := (by repeat (first | exact Below.refl _ _ | assumption | (refine below_drewN ?_ _) | (refine Below.drew ?_) | (refine Below.alloc ?_ (by first | omega | (simp; omega) | simp) _) | (refine Below.setCell ?_ (by first | omega | (simp; omega) | simp) _) | (refine below_trans ?_ (by assumption) (by first | omega | (simp; omega) | simp))))
  have b_w8 : Below w.heap.size w w8 := below_trans b_w7 k_w8 (by first | omega | (simp; omega) | simp)
  clear P3_c P3_f P3_l
  have P3 := (P3.later k_w8 : Bx w8 _ _)
  clear P7_c P7_f P7_l
  have P7 := (P7.later k_w8 : Bx w8 _ _)
  clear P8_c P8_f P8_l
  have P8 := (P8.later k_w8 : Bx w8 _ _)
  clear P10_c P10_f P10_l
  have P10 := (P10.later k_w8 : Bx w8 _ _)
  clear P12_c P12_f P12_l
  have P12 := (P12.later k_w8 : Bx w8 _ _)
  clear P16_c P16_f P16_l
  have P16 := (P16.later k_w8 : Bx w8 _ _)
  have rg := rg.later k_w8
  have ra := ra.later k_w8
  have rb := rb.later k_w8
  have rc := rc.later k_w8
  have rd := rd.later k_w8
  clear hc_w8 hf_w8
  obtain ⟨P3_c, P3_f⟩ := id P3
  have P3_l := P3.lt
  obtain ⟨P7_c, P7_f⟩ := id P7
  have P7_l := P7.lt
  obtain ⟨P8_c, P8_f⟩ := id P8
  have P8_l := P8.lt
  obtain ⟨P10_c, P10_f⟩ := id P10
  have P10_l := P10.lt
  obtain ⟨P12_c, P12_f⟩ := id P12
  have P12_l := P12.lt
  obtain ⟨P16_c, P16_f⟩ := id P16
  have P16_l := P16.lt
  go_wp2_with fail
  go_at_call 15
  refine (HS3.out _ _ _ _ _ (rg.later (by repeat (first | exact Below.refl _ _ | assumption | (refine below_drewN ?_ _) | (refine Below.drew ?_) | (refine Below.alloc ?_ (by first | omega | (simp; omega) | simp) _) | (refine Below.setCell ?_ (by first | omega | (simp; omega) | simp) _) | (refine below_trans ?_ (by assumption) (by first | omega | (simp; omega) | simp))))) ((hr.later b_w8).later (by repeat (first | exact Below.refl _ _ | assumption | (refine below_drewN ?_ _) | (refine Below.drew ?_) | (refine Below.alloc ?_ (by first | omega | (simp; omega) | simp) _) | (refine Below.setCell ?_ (by first | omega | (simp; omega) | simp) _) | (refine below_trans ?_ (by assumption) (by first | omega | (simp; omega) | simp)))))).mono ?_
  rintro e w9 ⟨rfl, hb_w9⟩
  obtain ⟨hc_w9, hf_w9⟩ := bcell hb_w9; have hs_w9 := hb_w9.size; (try simp only [World.size_alloc, World.size_setCell, World.size_drew, World.heap_drewN] at hs_w9)
  have k_w9 : Below w8.heap.size w8 w9 := (by repeat (first | exact Below.refl _ _ | assumption | (refine below_drewN ?_ _) | (refine Below.drew ?_) | (refine Below.alloc ?_ (by first | omega | (simp; omega) | simp) _) | (refine Below.setCell ?_ (by first | omega | (simp; omega) | simp) _) | (refine below_trans ?_ (by assumption) (by first | omega | (simp; omega) | simp))))
  have b_w9 : Below w.heap.size w w9 := below_trans b_w8 k_w9 (by first | omega | (simp; omega) | simp)
  clear P3_c P3_f P3_l
  have P3 := (P3.later k_w9 : Bx w9 _ _)
  clear P7_c P7_f P7_l
  have P7 := (P7.later k_w9 : Bx w9 _ _)
  clear P8_c P8_f P8_l
  have P8 := (P8.later k_w9 : Bx w9 _ _)
  clear P10_c P10_f P10_l
  have P10 := (P10.later k_w9 : Bx w9 _ _)
  clear P12_c P12_f P12_l
  have P12 := (P12.later k_w9 : Bx w9 _ _)
  clear P16_c P16_f P16_l
  have P16 := (P16.later k_w9 : Bx w9 _ _)
  have rg := rg.later k_w9
  have ra := ra.later k_w9
  have rb := rb.later k_w9
  have rc := rc.later k_w9
  have rd := rd.later k_w9
  clear hc_w9 hf_w9
  obtain ⟨P3_c, P3_f⟩ := id P3
  have P3_l := P3.lt
  obtain ⟨P7_c, P7_f⟩ := id P7
  have P7_l := P7.lt
  obtain ⟨P8_c, P8_f⟩ := id P8
  have P8_l := P8.lt
  obtain ⟨P10_c, P10_f⟩ := id P10
  have P10_l := P10.lt
  obtain ⟨P12_c, P12_f⟩ := id P12
  have P12_l := P12.lt
  obtain ⟨P16_c, P16_f⟩ := id P16
  have P16_l := P16.lt
  go_wp2
  go_ret
  exact ⟨rfl, b_w9⟩
end Go.Proofs.Ytlaladhnidcoiaa
