/- The walk of the law GreyAsks. -/
import Derived.Test.YtlaladhnidcoiaaG16
namespace Go.Proofs.Ytlaladhnidcoiaa
open Go.RowKit
set_option linter.unusedVariables false
set_option linter.unusedSimpArgs false

theorem gmk_both (x : Int) : ∃ r y, (∀ w : World, Calls Try.prog 18 #[.int .i64 x] w fun e w' => PushG w r y e w') ∧ (∀ w : World, Calls Try.prog 19 #[.int .i64 x] w fun e w' => PushG w r y e w') := by
  by_cases h : 1 ≤ x ∧ x ≤ 4
  · obtain ⟨n, rfl⟩ := Int.eq_ofNat_of_zero_le (by omega : 0 ≤ x)
    refine ⟨List.replicate n [], 0, fun w => ?_, fun w => ?_⟩
    · refine (gmake_any (w := w) _).mono ?_
      rintro e w' ⟨h1, hb⟩
      rcases h1 with ⟨h1, _⟩ | ⟨_, _, B, m, hm, he, ho⟩
      · exact absurd h h1
      · obtain rfl : n = m := by omega
        exact ⟨B, n, by rw [List.length_replicate]; exact he, ho, hb⟩
    · refine (xgmake_any (w := w) _).mono ?_
      rintro e w' ⟨h1, hb⟩
      rcases h1 with ⟨h1, _⟩ | ⟨_, _, B, m, hm, he, ho⟩
      · exact absurd h h1
      · obtain rfl : n = m := by omega
        exact ⟨B, n, by rw [List.length_replicate]; exact he, ho, hb⟩
  · refine ⟨[], 1, fun w => ?_, fun w => ?_⟩
    · refine (gmake_any (w := w) _).mono ?_
      rintro e w' ⟨h1, hb⟩
      rcases h1 with ⟨_, he⟩ | ⟨h1, h2, _⟩
      · exact ⟨none, 0, he, GOwn.nil _ _ _, hb⟩
      · exact absurd ⟨h1, h2⟩ h
    · refine (xgmake_any (w := w) _).mono ?_
      rintro e w' ⟨h1, hb⟩
      rcases h1 with ⟨_, he⟩ | ⟨h1, h2, _⟩
      · exact ⟨none, 0, he, GOwn.nil _ _ _, hb⟩
      · exact absurd ⟨h1, h2⟩ h
set_option maxHeartbeats 8000000 in
theorem greyAsks_walk (A : Option Addr) (cap : Nat) (qs : List (List Nat)) (x : Int) (w : World) (hr : GRow w A qs) :
    Calls Try.prog 4 #[.agg #[.slice A qs.length cap], .int .i64 x] w fun e w' => e = .returned (.bool true) ∧ Below w.heap.size w w' := by
  obtain ⟨n1, y1, hE1⟩ := ManE.ex qs
  obtain ⟨y3, hE3⟩ := ChkG.ex qs
  obtain ⟨r, y2, hk1, hk2⟩ := gmk_both x
  have HM := Lib.hid fun (w : World) hr => gmany_any (w := w) (A := A) (qs := qs) cap hr _ _ hE1
  have HXM := Lib.hid fun (w : World) hr => xgman_any (w := w) (A := A) (qs := qs) cap hr _ _ hE1
  have HK := Lib.hid hk1
  have HXK := Lib.hid hk2
  have HC := Lib.hid fun (w : World) hr => gcheck_any (w := w) (A := A) (qs := qs) cap hr _ hE3
  have HXC := Lib.hid fun (w : World) hr => xgcheck_any (w := w) (A := A) (qs := qs) cap hr _ hE3
  have HS := Lib.hid fun (w : World) (A C : Option Addr) (ca cc : Nat) hr hq => xgsame_self w A C ca cc r hr hq
  unfold PushG at HK HXK
  unfold gv at *
  have d1 : ((n1 : Int) == (n1 : Int)) = true := by simp
  have d2 : (y1 == y1) = true := by simp
  have d3 : (y2 == y2) = true := by simp
  have d4 : (y3 == y3) = true := by simp
  clear hE1 hE3 hk1 hk2
  go_enter Try.func4, Try.ntmps4
  go_wp2_with fail
  go_at_call 16
  refine (HM.out _ (hr.later (by repeat (first | exact Below.refl _ _ | assumption | (refine below_drewN ?_ _) | (refine Below.drew ?_) | (refine Below.alloc ?_ (by first | omega | (simp; omega) | simp) _) | (refine Below.setCell ?_ (by first | omega | (simp; omega) | simp) _) | (refine below_trans ?_ (by assumption) (by first | omega | (simp; omega) | simp)))))).mono ?_
  rintro e w1 ⟨rfl, hb_w1⟩
  obtain ⟨hc_w1, hf_w1⟩ := bcell hb_w1; have hs_w1 := hb_w1.size; (try simp only [World.size_alloc, World.size_setCell, World.size_drew, World.heap_drewN] at hs_w1)
  have k_w1 : Below w.heap.size w w1 := (by repeat (first | exact Below.refl _ _ | assumption | (refine below_drewN ?_ _) | (refine Below.drew ?_) | (refine Below.alloc ?_ (by first | omega | (simp; omega) | simp) _) | (refine Below.setCell ?_ (by first | omega | (simp; omega) | simp) _) | (refine below_trans ?_ (by assumption) (by first | omega | (simp; omega) | simp))))
  have b_w1 := k_w1
  have P2 := ((Bx.new w _ _).later hb_w1 : Bx w1 _ _)
  (try simp only [World.size_alloc] at P2)
  clear hc_w1 hf_w1
  obtain ⟨P2_c, P2_f⟩ := id P2
  have P2_l := P2.lt
  go_wp2_with fail
  go_at_call 17
  refine (HXM.out _ ((hr.later b_w1).later (by repeat (first | exact Below.refl _ _ | assumption | (refine below_drewN ?_ _) | (refine Below.drew ?_) | (refine Below.alloc ?_ (by first | omega | (simp; omega) | simp) _) | (refine Below.setCell ?_ (by first | omega | (simp; omega) | simp) _) | (refine below_trans ?_ (by assumption) (by first | omega | (simp; omega) | simp)))))).mono ?_
  rintro e w2 ⟨rfl, hb_w2⟩
  obtain ⟨hc_w2, hf_w2⟩ := bcell hb_w2; have hs_w2 := hb_w2.size; (try simp only [World.size_alloc, World.size_setCell, World.size_drew, World.heap_drewN] at hs_w2)
  have k_w2 : Below w1.heap.size w1 w2 := (by repeat (first | exact Below.refl _ _ | assumption | (refine below_drewN ?_ _) | (refine Below.drew ?_) | (refine Below.alloc ?_ (by first | omega | (simp; omega) | simp) _) | (refine Below.setCell ?_ (by first | omega | (simp; omega) | simp) _) | (refine below_trans ?_ (by assumption) (by first | omega | (simp; omega) | simp))))
  have b_w2 : Below w.heap.size w w2 := below_trans b_w1 k_w2 (by first | omega | (simp; omega) | simp)
  clear P2_c P2_f P2_l
  have P2 := (P2.later k_w2 : Bx w2 _ _)
  clear hc_w2 hf_w2
  obtain ⟨P2_c, P2_f⟩ := id P2
  have P2_l := P2.lt
  go_wp2_with fail
  go_at_call 18
  refine (HK.out _).mono ?_
  rintro e w3 ⟨B3, c3, rfl, o3, hb_w3⟩
  obtain ⟨hc_w3, hf_w3⟩ := bcell hb_w3; have hs_w3 := hb_w3.size; (try simp only [World.size_alloc, World.size_setCell, World.size_drew, World.heap_drewN] at hs_w3)
  have k_w3 : Below w2.heap.size w2 w3 := (by repeat (first | exact Below.refl _ _ | assumption | (refine below_drewN ?_ _) | (refine Below.drew ?_) | (refine Below.alloc ?_ (by first | omega | (simp; omega) | simp) _) | (refine Below.setCell ?_ (by first | omega | (simp; omega) | simp) _) | (refine below_trans ?_ (by assumption) (by first | omega | (simp; omega) | simp))))
  have b_w3 : Below w.heap.size w w3 := below_trans b_w2 k_w3 (by first | omega | (simp; omega) | simp)
  clear P2_c P2_f P2_l
  have P2 := (P2.later k_w3 : Bx w3 _ _)
  clear hc_w3 hf_w3
  obtain ⟨P2_c, P2_f⟩ := id P2
  have P2_l := P2.lt
  have ra := o3.row
  clear o3
  go_wp2_with fail
  go_at_call 19
  refine (HXK.out _).mono ?_
  rintro e w4 ⟨B4, c4, rfl, o4, hb_w4⟩
  obtain ⟨hc_w4, hf_w4⟩ := bcell hb_w4; have hs_w4 := hb_w4.size; (try simp only [World.size_alloc, World.size_setCell, World.size_drew, World.heap_drewN] at hs_w4)
  have k_w4 : Below w3.heap.size w3 w4 := (by repeat (first | exact Below.refl _ _ | assumption | (refine below_drewN ?_ _) | (refine Below.drew ?_) | (refine Below.alloc ?_ (by first | omega | (simp; omega) | simp) _) | (refine Below.setCell ?_ (by first | omega | (simp; omega) | simp) _) | (refine below_trans ?_ (by assumption) (by first | omega | (simp; omega) | simp))))
  have b_w4 : Below w.heap.size w w4 := below_trans b_w3 k_w4 (by first | omega | (simp; omega) | simp)
  clear P2_c P2_f P2_l
  have P2 := (P2.later k_w4 : Bx w4 _ _)
  have P9 := ((Bx.new w3 _ _).later hb_w4 : Bx w4 _ _)
  (try simp only [World.size_alloc] at P9)
  have ra := ra.later k_w4
  clear hc_w4 hf_w4
  obtain ⟨P2_c, P2_f⟩ := id P2
  have P2_l := P2.lt
  obtain ⟨P9_c, P9_f⟩ := id P9
  have P9_l := P9.lt
  have rb := o4.row
  clear o4
  have P11 := Bx.new w4 (.slice B4 r.length c4) 24
  have PA := P2.alloc (.cells #[.slice B4 r.length c4] 24)
  have PB := P9.alloc (.cells #[.slice B4 r.length c4] 24)
  have PC := P11
  have qa := ra.later ((Below.refl _ _).alloc (Nat.le_refl _) (.cells #[.slice B4 r.length c4] 24))
  have qb := rb.later ((Below.refl _ _).alloc (Nat.le_refl _) (.cells #[.slice B4 r.length c4] 24))
  have bF : Below w.heap.size w (w4.alloc (.cells #[.slice B4 r.length c4] 24)) := (by repeat (first | exact Below.refl _ _ | assumption | (refine below_drewN ?_ _) | (refine Below.drew ?_) | (refine Below.alloc ?_ (by first | omega | (simp; omega) | simp) _) | (refine Below.setCell ?_ (by first | omega | (simp; omega) | simp) _) | (refine below_trans ?_ (by assumption) (by first | omega | (simp; omega) | simp))))
  go_wp2_with fail
  generalize (w4.alloc (.cells #[.slice B4 r.length c4] 24)) = wF at *
  obtain ⟨za, _⟩ := id PA
  obtain ⟨zb, _⟩ := id PB
  obtain ⟨zc, _⟩ := id PC
  have hsF := bF.size
  clear P2 P9 P11 P2_c P2_f P9_c P9_f
  go_region_held3 (fun X : World => X.cell? ⟨w.heap.size, 0, none⟩ = some (.slice A qs.length cap) ∧ X.cell? ⟨w3.heap.size, 0, none⟩ = some (.slice B3 r.length c3) ∧ X.cell? ⟨w4.heap.size, 0, none⟩ = some (.slice B4 r.length c4))
    ((refine ⟨?_, ?_, ?_⟩ <;> assumption))
    ((first
      | (go_at_call 14; refine (glives_any _).mono ?_; rintro e w5 ⟨rfl, hb_w5⟩; have k_w5 : Below wF.heap.size wF w5 := (by repeat (first | exact Below.refl _ _ | assumption | (refine below_drewN ?_ _) | (refine Below.drew ?_) | (refine Below.alloc ?_ (by first | omega | (simp; omega) | simp) _) | (refine Below.setCell ?_ (by first | omega | (simp; omega) | simp) _) | (refine below_trans ?_ (by assumption) (by first | omega | (simp; omega) | simp)))); have hz_w5 := k_w5.size; have x2_w5 := (PA.later k_w5).c; have x3_w5 := (PB.later k_w5).c; have x4_w5 := (PC.later k_w5).c)
      | (go_at_call 15; refine (HS.out _ _ _ _ _ (qa.later (by repeat (first | exact Below.refl _ _ | assumption | (refine below_drewN ?_ _) | (refine Below.drew ?_) | (refine Below.alloc ?_ (by first | omega | (simp; omega) | simp) _) | (refine Below.setCell ?_ (by first | omega | (simp; omega) | simp) _) | (refine below_trans ?_ (by assumption) (by first | omega | (simp; omega) | simp))))) (qb.later (by repeat (first | exact Below.refl _ _ | assumption | (refine below_drewN ?_ _) | (refine Below.drew ?_) | (refine Below.alloc ?_ (by first | omega | (simp; omega) | simp) _) | (refine Below.setCell ?_ (by first | omega | (simp; omega) | simp) _) | (refine below_trans ?_ (by assumption) (by first | omega | (simp; omega) | simp)))))).mono ?_; rintro e w6 ⟨rfl, hb_w6⟩; have k_w6 : Below wF.heap.size wF w6 := (by repeat (first | exact Below.refl _ _ | assumption | (refine below_drewN ?_ _) | (refine Below.drew ?_) | (refine Below.alloc ?_ (by first | omega | (simp; omega) | simp) _) | (refine Below.setCell ?_ (by first | omega | (simp; omega) | simp) _) | (refine below_trans ?_ (by assumption) (by first | omega | (simp; omega) | simp)))); have hz_w6 := k_w6.size; have x2_w6 := (PA.later k_w6).c; have x3_w6 := (PB.later k_w6).c; have x4_w6 := (PC.later k_w6).c)
      | (go_at_call 20; refine (HC.out _ ((hr.later bF).later (by repeat (first | exact Below.refl _ _ | assumption | (refine below_drewN ?_ _) | (refine Below.drew ?_) | (refine Below.alloc ?_ (by first | omega | (simp; omega) | simp) _) | (refine Below.setCell ?_ (by first | omega | (simp; omega) | simp) _) | (refine below_trans ?_ (by assumption) (by first | omega | (simp; omega) | simp)))))).mono ?_; rintro e w7 ⟨rfl, hb_w7⟩; have k_w7 : Below wF.heap.size wF w7 := (by repeat (first | exact Below.refl _ _ | assumption | (refine below_drewN ?_ _) | (refine Below.drew ?_) | (refine Below.alloc ?_ (by first | omega | (simp; omega) | simp) _) | (refine Below.setCell ?_ (by first | omega | (simp; omega) | simp) _) | (refine below_trans ?_ (by assumption) (by first | omega | (simp; omega) | simp)))); have hz_w7 := k_w7.size; have x2_w7 := (PA.later k_w7).c; have x3_w7 := (PB.later k_w7).c; have x4_w7 := (PC.later k_w7).c)
      | (go_at_call 21; refine (HXC.out _ ((hr.later bF).later (by repeat (first | exact Below.refl _ _ | assumption | (refine below_drewN ?_ _) | (refine Below.drew ?_) | (refine Below.alloc ?_ (by first | omega | (simp; omega) | simp) _) | (refine Below.setCell ?_ (by first | omega | (simp; omega) | simp) _) | (refine below_trans ?_ (by assumption) (by first | omega | (simp; omega) | simp)))))).mono ?_; rintro e w8 ⟨rfl, hb_w8⟩; have k_w8 : Below wF.heap.size wF w8 := (by repeat (first | exact Below.refl _ _ | assumption | (refine below_drewN ?_ _) | (refine Below.drew ?_) | (refine Below.alloc ?_ (by first | omega | (simp; omega) | simp) _) | (refine Below.setCell ?_ (by first | omega | (simp; omega) | simp) _) | (refine below_trans ?_ (by assumption) (by first | omega | (simp; omega) | simp)))); have hz_w8 := k_w8.size; have x2_w8 := (PA.later k_w8).c; have x3_w8 := (PB.later k_w8).c; have x4_w8 := (PC.later k_w8).c)))
  all_goals
    go_wp2
    go_ret
    exact ⟨rfl, bF.trans (k_w8.mono hsF)⟩
end Go.Proofs.Ytlaladhnidcoiaa
