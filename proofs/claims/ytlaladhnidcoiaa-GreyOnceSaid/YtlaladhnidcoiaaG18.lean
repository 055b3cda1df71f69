/- The walk of the law GreyLast. -/
import Derived.Test.YtlaladhnidcoiaaG17
namespace Go.Proofs.Ytlaladhnidcoiaa
open Go.RowKit
set_option linter.unusedVariables false
set_option linter.unusedSimpArgs false

theorem okG_push {qs : List (List Nat)} {k : Nat} {us : List Nat} (h : OkG qs) (hk : k < qs.length) (he : addsErr qs.flatten us = 0) : OkG (qs.set k (nq qs k ++ us)) ∧ (qs.set k (nq qs k ++ us)).flatten.length = qs.flatten.length + us.length := by
  obtain ⟨g1, g2, g3⟩ := okTo_good h.nz h.nd h.len us.length (adds_zero he) (Nat.le_refl _)
  rw [List.take_length] at g1 g2 g3
  have hp := flat_set_perm hk us
  refine ⟨⟨by rw [List.length_set]; exact h.lo, by rw [List.length_set]; exact h.hi, by rw [hp.length_eq]; exact g3, fun a ha => g1 a (hp.mem_iff.1 ha), hp.nodup_iff.2 g2⟩, by rw [hp.length_eq, List.length_append]⟩
theorem pop_pushed {qs : List (List Nat)} {k a : Nat} (h : OkG qs) (hk : k < qs.length) (he : addsErr qs.flatten [a] = 0) : PopE (qs.set k (nq qs k ++ [a])) (k : Int) qs a false 0 := by
  have hq : nq (qs.set k (nq qs k ++ [a])) (k : Int).toNat = nq qs k ++ [a] := by
    rw [Int.toNat_natCast]
    exact nq_set_self hk _
  refine .inr (.inr (.inl ⟨(okG_push h hk he).1, ⟨by omega, by rw [List.length_set]; omega⟩, by rw [hq]; simp, ?_, ?_, rfl, rfl⟩))
  · rw [hq, Int.toNat_natCast, List.set_set]
    simp only [List.length_append, List.length_singleton, Nat.add_sub_cancel, List.take_left']
    exact (set_same hk).symm
  · rw [hq]
    simp [List.getD_eq_getElem?_getD]
set_option maxHeartbeats 8000000 in
theorem greyLast_walk (A : Option Addr) (cap : Nat) (qs : List (List Nat)) (x : Int) (a : Nat) (w : World) (hr : GRow w A qs) (hx : -9223372036854775808 ≤ x ∧ x ≤ 9223372036854775807) (ha : a < W64) :
    Calls Try.prog 6 #[.agg #[.slice A qs.length cap], .int .i64 x, .int .u64 (a : Nat)] w fun e w' => e = .returned (.bool true) ∧ Below w.heap.size w w' := by
  obtain ⟨r1, y1, hE1⟩ := PushE.ex qs x [a]
  have HP := Lib.hid fun (w : World) (K : Option Addr) hr hu => gpush_any (w := w) (A := A) (U := K) (qs := qs) (us := [a]) cap 1 hr x hx hu (by simp) _ _ hE1
  have HP := Lib.hid fun (w : World) {K : Option Addr} hr hu => HP.out w K hr hu
  have HN := Lib.hid fun (W : World) (g : Nat) hg => row_lit W a ha g hg
  unfold PushG at HP
  by_cases hy2 : y1 = 2
  · subst hy2
    have d1 : ((2 : Int) != 0) = true := by decide
    clear hE1
    unfold gv at *
    go_enter Try.func6, Try.ntmps6
    go_wp2_with fail
    go_at_call 14
    refine (glives_any _).mono ?_
    rintro e w0 ⟨rfl, hb_w0⟩
    obtain ⟨hc_w0, hf_w0⟩ := bcell hb_w0; have hs_w0 := hb_w0.size; (try simp only [World.size_alloc, World.size_setCell, World.size_drew, World.heap_drewN] at hs_w0)
    have k_w0 : Below w.heap.size w w0 := (by repeat (first | exact Below.refl _ _ | assumption | (refine below_drewN ?_ _) | (refine Below.drew ?_) | (refine Below.alloc ?_ (by first | omega | (simp; omega) | simp) _) | (refine Below.setCell ?_ (by first | omega | (simp; omega) | simp) _) | (refine below_trans ?_ (by assumption) (by first | omega | (simp; omega) | simp))))
    have b_w0 := k_w0
    have P3 := ((Bx.new w _ _).later hb_w0 : Bx w0 _ _)
    (try simp only [World.size_alloc] at P3)
    clear hc_w0 hf_w0
    obtain ⟨P3_c, P3_f⟩ := id P3
    have P3_l := P3.lt
    go_wp2_with fail
    go_at_call 10
    refine (HP.out _ ((hr.later b_w0).later (by repeat (first | exact Below.refl _ _ | assumption | (refine below_drewN ?_ _) | (refine Below.drew ?_) | (refine Below.alloc ?_ (by first | omega | (simp; omega) | simp) _) | (refine Below.setCell ?_ (by first | omega | (simp; omega) | simp) _) | (refine below_trans ?_ (by assumption) (by first | omega | (simp; omega) | simp))))) (by exact HN.out _ _ rfl)).mono ?_
    rintro e w2 ⟨B2, c2, rfl, o2, hb_w2⟩
    obtain ⟨hc_w2, hf_w2⟩ := bcell hb_w2; have hs_w2 := hb_w2.size; (try simp only [World.size_alloc, World.size_setCell, World.size_drew, World.heap_drewN] at hs_w2)
    have k_w2 : Below w0.heap.size w0 w2 := (by repeat (first | exact Below.refl _ _ | assumption | (refine below_drewN ?_ _) | (refine Below.drew ?_) | (refine Below.alloc ?_ (by first | omega | (simp; omega) | simp) _) | (refine Below.setCell ?_ (by first | omega | (simp; omega) | simp) _) | (refine below_trans ?_ (by assumption) (by first | omega | (simp; omega) | simp))))
    have b_w2 : Below w.heap.size w w2 := below_trans b_w0 k_w2 (by first | omega | (simp; omega) | simp)
    clear P3_c P3_f P3_l
    have P3 := (P3.later k_w2 : Bx w2 _ _)
    clear hc_w2 hf_w2
    obtain ⟨P3_c, P3_f⟩ := id P3
    have P3_l := P3.lt
    have ra := o2.row
    clear o2
    go_wp2
    go_ret
    exact ⟨rfl, (by repeat (first | exact Below.refl _ _ | assumption | (refine below_drewN ?_ _) | (refine Below.drew ?_) | (refine Below.alloc ?_ (by first | omega | (simp; omega) | simp) _) | (refine Below.setCell ?_ (by first | omega | (simp; omega) | simp) _) | (refine below_trans ?_ (by assumption) (by first | omega | (simp; omega) | simp))))⟩
  by_cases hy0 : y1 = 0
  rotate_left
  · have hr1 : r1 = qs := by
      rcases hE1 with ⟨_, _, h⟩ | ⟨_, _, h, _⟩ | ⟨_, _, _, _, h⟩ | ⟨_, _, _, h, _⟩
      · exact absurd h hy2
      · exact h
      · exact h
      · exact absurd h hy0
    subst hr1
    have HS1 := Lib.hid fun (w : World) (A C : Option Addr) (ca cc : Nat) hr hq => xgsame_self w A C ca cc r1 hr hq
    have d1 : (y1 != 0) = true := by simpa using hy0
    have d2 : (y1 == 2) = false := by simpa using hy2
    clear hE1 hy0 hy2
    unfold gv at *
    go_enter Try.func6, Try.ntmps6
    go_wp2_with fail
    go_at_call 14
    refine (glives_any _).mono ?_
    rintro e w0 ⟨rfl, hb_w0⟩
    obtain ⟨hc_w0, hf_w0⟩ := bcell hb_w0; have hs_w0 := hb_w0.size; (try simp only [World.size_alloc, World.size_setCell, World.size_drew, World.heap_drewN] at hs_w0)
    have k_w0 : Below w.heap.size w w0 := (by repeat (first | exact Below.refl _ _ | assumption | (refine below_drewN ?_ _) | (refine Below.drew ?_) | (refine Below.alloc ?_ (by first | omega | (simp; omega) | simp) _) | (refine Below.setCell ?_ (by first | omega | (simp; omega) | simp) _) | (refine below_trans ?_ (by assumption) (by first | omega | (simp; omega) | simp))))
    have b_w0 := k_w0
    have P3 := ((Bx.new w _ _).later hb_w0 : Bx w0 _ _)
    (try simp only [World.size_alloc] at P3)
    clear hc_w0 hf_w0
    obtain ⟨P3_c, P3_f⟩ := id P3
    have P3_l := P3.lt
    go_wp2_with fail
    go_at_call 10
    refine (HP.out _ ((hr.later b_w0).later (by repeat (first | exact Below.refl _ _ | assumption | (refine below_drewN ?_ _) | (refine Below.drew ?_) | (refine Below.alloc ?_ (by first | omega | (simp; omega) | simp) _) | (refine Below.setCell ?_ (by first | omega | (simp; omega) | simp) _) | (refine below_trans ?_ (by assumption) (by first | omega | (simp; omega) | simp))))) (by exact HN.out _ _ rfl)).mono ?_
    rintro e w2 ⟨B2, c2, rfl, o2, hb_w2⟩
    obtain ⟨hc_w2, hf_w2⟩ := bcell hb_w2; have hs_w2 := hb_w2.size; (try simp only [World.size_alloc, World.size_setCell, World.size_drew, World.heap_drewN] at hs_w2)
    have k_w2 : Below w0.heap.size w0 w2 := (by repeat (first | exact Below.refl _ _ | assumption | (refine below_drewN ?_ _) | (refine Below.drew ?_) | (refine Below.alloc ?_ (by first | omega | (simp; omega) | simp) _) | (refine Below.setCell ?_ (by first | omega | (simp; omega) | simp) _) | (refine below_trans ?_ (by assumption) (by first | omega | (simp; omega) | simp))))
    have b_w2 : Below w.heap.size w w2 := below_trans b_w0 k_w2 (by first | omega | (simp; omega) | simp)
    clear P3_c P3_f P3_l
    have P3 := (P3.later k_w2 : Bx w2 _ _)
    clear hc_w2 hf_w2
    obtain ⟨P3_c, P3_f⟩ := id P3
    have P3_l := P3.lt
    have ra := o2.row
    clear o2
    go_wp2_with fail
    go_at_call 15
    refine (HS1.out _ _ _ _ _ ((hr.later b_w2).later (by repeat (first | exact Below.refl _ _ | assumption | (refine below_drewN ?_ _) | (refine Below.drew ?_) | (refine Below.alloc ?_ (by first | omega | (simp; omega) | simp) _) | (refine Below.setCell ?_ (by first | omega | (simp; omega) | simp) _) | (refine below_trans ?_ (by assumption) (by first | omega | (simp; omega) | simp))))) (ra.later (by repeat (first | exact Below.refl _ _ | assumption | (refine below_drewN ?_ _) | (refine Below.drew ?_) | (refine Below.alloc ?_ (by first | omega | (simp; omega) | simp) _) | (refine Below.setCell ?_ (by first | omega | (simp; omega) | simp) _) | (refine below_trans ?_ (by assumption) (by first | omega | (simp; omega) | simp)))))).mono ?_
    rintro e w3 ⟨rfl, hb_w3⟩
    obtain ⟨hc_w3, hf_w3⟩ := bcell hb_w3; have hs_w3 := hb_w3.size; (try simp only [World.size_alloc, World.size_setCell, World.size_drew, World.heap_drewN] at hs_w3)
    have k_w3 : Below w2.heap.size w2 w3 := (by repeat (first | exact Below.refl _ _ | assumption | (refine below_drewN ?_ _) | (refine Below.drew ?_) | (refine Below.alloc ?_ (by first | omega | (simp; omega) | simp) _) | (refine Below.setCell ?_ (by first | omega | (simp; omega) | simp) _) | (refine below_trans ?_ (by assumption) (by first | omega | (simp; omega) | simp))))
    have b_w3 : Below w.heap.size w w3 := below_trans b_w2 k_w3 (by first | omega | (simp; omega) | simp)
    clear P3_c P3_f P3_l
    have P3 := (P3.later k_w3 : Bx w3 _ _)
    have P7 := ((Bx.new w2 _ _).later hb_w3 : Bx w3 _ _)
    (try simp only [World.size_alloc] at P7)
    have ra := ra.later k_w3
    clear hc_w3 hf_w3
    obtain ⟨P3_c, P3_f⟩ := id P3
    have P3_l := P3.lt
    obtain ⟨P7_c, P7_f⟩ := id P7
    have P7_l := P7.lt
    go_wp2
    go_ret
    exact ⟨rfl, b_w3⟩
  subst hy0
  have hh : OkG qs ∧ hasG qs x ∧ addsErr qs.flatten [a] = 0 ∧ r1 = qs.set x.toNat (nq qs x.toNat ++ [a]) := by
    rcases hE1 with ⟨_, _, h⟩ | ⟨_, _, _, h⟩ | ⟨_, _, _, h, _⟩ | ⟨h1, h2, h3, _, h4⟩
    · exact absurd h (by decide)
    · exact absurd h (by decide)
    · exact absurd rfl h
    · exact ⟨h1, h2, h3, h4⟩
  obtain ⟨hok, hhas, hadd, hr1⟩ := hh
  obtain ⟨k, rfl⟩ := Int.eq_ofNat_of_zero_le hhas.1
  rw [Int.toNat_natCast] at hr1
  have hkn : k < qs.length := by have := hhas.2; omega
  have hp := pop_pushed hok hkn hadd
  obtain ⟨ho1, hl1⟩ := okG_push hok hkn hadd
  rw [← hr1] at hp ho1 hl1
  have hl16 := hok.len
  obtain ⟨n, hn⟩ : ∃ n, qs.flatten.length = n := ⟨_, rfl⟩
  rw [hn] at hl1 hl16
  have HO := Lib.hid fun (w : World) (A : Option Addr) (cap : Nat) hr => gpop_any (w := w) (A := A) (qs := r1) cap hr (k : Int) hx _ _ _ _ hp
  have HM1 := Lib.hid fun (w : World) hr => gmany_any (w := w) (A := A) (qs := qs) cap hr n 0 (.inr ⟨hok, hn.symm, rfl⟩)
  have HM2 := Lib.hid fun (w : World) (A : Option Addr) (cap : Nat) hr => gmany_any (w := w) (A := A) (qs := r1) cap hr (n + 1) 0 (.inr ⟨ho1, hl1.symm, rfl⟩)
  have HS2 := Lib.hid fun (w : World) (A C : Option Addr) (ca cc : Nat) hr hq => xgsame_self w A C ca cc qs hr hq
  unfold PopG at HO
  unfold gv at *
  have d1 : ((a : Int) == (a : Int)) = true := by simp
  have e1 : IntKind.i64.wrap ((n : Int) + 1 - (n : Int)) = 1 := by rw [IntWalk.i64_in _ (by omega)]; omega
  have e2 : IntKind.i64.wrap 1 = 1 := by decide
  have e3 : (n : Int) + 1 - (n : Int) = 1 := by omega
  clear hE1 hok hhas hadd hr1 hp ho1 hl1 hn hy2
  go_enter Try.func6, Try.ntmps6
  go_wp2_with fail
  go_at_call 14
  refine (glives_any _).mono ?_
  rintro e w0 ⟨rfl, hb_w0⟩
  obtain ⟨hc_w0, hf_w0⟩ := bcell hb_w0; have hs_w0 := hb_w0.size; (try simp only [World.size_alloc, World.size_setCell, World.size_drew, World.heap_drewN] at hs_w0)
  have k_w0 : Below w.heap.size w w0 := (by repeat (first | exact Below.refl _ _ | assumption | (refine below_drewN ?_ _) | (refine Below.drew ?_) | (refine Below.alloc ?_ (by first | omega | (simp; omega) | simp) _) | (refine Below.setCell ?_ (by first | omega | (simp; omega) | simp) _) | (refine below_trans ?_ (by assumption) (by first | omega | (simp; omega) | simp))))
  have b_w0 := k_w0
  have P3 := ((Bx.new w _ _).later hb_w0 : Bx w0 _ _)
  (try simp only [World.size_alloc] at P3)
  clear hc_w0 hf_w0
  obtain ⟨P3_c, P3_f⟩ := id P3
  have P3_l := P3.lt
  go_wp2_with fail
  go_at_call 10
  refine (HP.out _ ((hr.later b_w0).later (by repeat (first | exact Below.refl _ _ | assumption | (refine below_drewN ?_ _) | (refine Below.drew ?_) | (refine Below.alloc ?_ (by first | omega | (simp; omega) | simp) _) | (refine Below.setCell ?_ (by first | omega | (simp; omega) | simp) _) | (refine below_trans ?_ (by assumption) (by first | omega | (simp; omega) | simp))))) (by exact HN.out _ _ rfl)).mono ?_
  rintro e w2 ⟨B2, c2, rfl, o2, hb_w2⟩
  obtain ⟨hc_w2, hf_w2⟩ := bcell hb_w2; have hs_w2 := hb_w2.size; (try simp only [World.size_alloc, World.size_setCell, World.size_drew, World.heap_drewN] at hs_w2)
  have k_w2 : Below w0.heap.size w0 w2 := (by repeat (first | exact Below.refl _ _ | assumption | (refine below_drewN ?_ _) | (refine Below.drew ?_) | (refine Below.alloc ?_ (by first | omega | (simp; omega) | simp) _) | (refine Below.setCell ?_ (by first | omega | (simp; omega) | simp) _) | (refine below_trans ?_ (by assumption) (by first | omega | (simp; omega) | simp))))
  have b_w2 : Below w.heap.size w w2 := below_trans b_w0 k_w2 (by first | omega | (simp; omega) | simp)
  clear P3_c P3_f P3_l
  have P3 := (P3.later k_w2 : Bx w2 _ _)
  clear hc_w2 hf_w2
  obtain ⟨P3_c, P3_f⟩ := id P3
  have P3_l := P3.lt
  have ra := o2.row
  clear o2
  go_wp2_with fail
  go_at_call 12
  refine (HO.out _ _ _ (ra.later (by repeat (first | exact Below.refl _ _ | assumption | (refine below_drewN ?_ _) | (refine Below.drew ?_) | (refine Below.alloc ?_ (by first | omega | (simp; omega) | simp) _) | (refine Below.setCell ?_ (by first | omega | (simp; omega) | simp) _) | (refine below_trans ?_ (by assumption) (by first | omega | (simp; omega) | simp)))))).mono ?_
  rintro e w3 ⟨B3, c3, rfl, o3, hb_w3⟩
  obtain ⟨hc_w3, hf_w3⟩ := bcell hb_w3; have hs_w3 := hb_w3.size; (try simp only [World.size_alloc, World.size_setCell, World.size_drew, World.heap_drewN] at hs_w3)
  have k_w3 : Below w2.heap.size w2 w3 := (by repeat (first | exact Below.refl _ _ | assumption | (refine below_drewN ?_ _) | (refine Below.drew ?_) | (refine Below.alloc ?_ (by first | omega | (simp; omega) | simp) _) | (refine Below.setCell ?_ (by first | omega | (simp; omega) | simp) _) | (refine below_trans ?_ (by assumption) (by first | omega | (simp; omega) | simp))))
  have b_w3 : Below w.heap.size w w3 := below_trans b_w2 k_w3 (by first | omega | (simp; omega) | simp)
  clear P3_c P3_f P3_l
  have P3 := (P3.later k_w3 : Bx w3 _ _)
  have P7 := ((Bx.new w2 _ _).later hb_w3 : Bx w3 _ _)
  (try simp only [World.size_alloc] at P7)
  have ra := ra.later k_w3
  clear hc_w3 hf_w3
  obtain ⟨P3_c, P3_f⟩ := id P3
  have P3_l := P3.lt
  obtain ⟨P7_c, P7_f⟩ := id P7
  have P7_l := P7.lt
  have rc := o3.row
  clear o3
  go_wp2_with fail
  go_at_call 16
  refine (HM1.out _ ((hr.later b_w3).later (by repeat (first | exact Below.refl _ _ | assumption | (refine below_drewN ?_ _) | (refine Below.drew ?_) | (refine Below.alloc ?_ (by first | omega | (simp; omega) | simp) _) | (refine Below.setCell ?_ (by first | omega | (simp; omega) | simp) _) | (refine below_trans ?_ (by assumption) (by first | omega | (simp; omega) | simp)))))).mono ?_
  rintro e w4 ⟨rfl, hb_w4⟩
  obtain ⟨hc_w4, hf_w4⟩ := bcell hb_w4; have hs_w4 := hb_w4.size; (try simp only [World.size_alloc, World.size_setCell, World.size_drew, World.heap_drewN] at hs_w4)
  have k_w4 : Below w3.heap.size w3 w4 := (by repeat (first | exact Below.refl _ _ | assumption | (refine below_drewN ?_ _) | (refine Below.drew ?_) | (refine Below.alloc ?_ (by first | omega | (simp; omega) | simp) _) | (refine Below.setCell ?_ (by first | omega | (simp; omega) | simp) _) | (refine below_trans ?_ (by assumption) (by first | omega | (simp; omega) | simp))))
  have b_w4 : Below w.heap.size w w4 := below_trans b_w3 k_w4 (by first | omega | (simp; omega) | simp)
  clear P3_c P3_f P3_l
  have P3 := (P3.later k_w4 : Bx w4 _ _)
  clear P7_c P7_f P7_l
  have P7 := (P7.later k_w4 : Bx w4 _ _)
  have P9 := ((Bx.new w3 _ _).later hb_w4 : Bx w4 _ _)
  (try simp only [World.size_alloc] at P9)
  have ra := ra.later k_w4
  have rc := rc.later k_w4
  clear hc_w4 hf_w4
  obtain ⟨P3_c, P3_f⟩ := id P3
  have P3_l := P3.lt
  obtain ⟨P7_c, P7_f⟩ := id P7
  have P7_l := P7.lt
  obtain ⟨P9_c, P9_f⟩ := id P9
  have P9_l := P9.lt
  go_wp2_with fail
  go_at_call 16
  refine (HM2.out _ _ _ (ra.later (by repeat (first | exact Below.refl _ _ | assumption | (refine below_drewN ?_ _) | (refine Below.drew ?_) | (refine Below.alloc ?_ (by first | omega | (simp; omega) | simp) _) | (refine Below.setCell ?_ (by first | omega | (simp; omega) | simp) _) | (refine below_trans ?_ (by assumption) (by first | omega | (simp; omega) | simp)))))).mono ?_
  rintro e w5 ⟨rfl, hb_w5⟩
  obtain ⟨hc_w5, hf_w5⟩ := bcell hb_w5; have hs_w5 := hb_w5.size; (try simp only [World.size_alloc, World.size_setCell, World.size_drew, World.heap_drewN] at hs_w5)
  have k_w5 : Below w4.heap.size w4 w5 := (by repeat (first | exact Below.refl _ _ | assumption | (refine below_drewN ?_ _) | (refine Below.drew ?_) | (refine Below.alloc ?_ (by first | omega | (simp; omega) | simp) _) | (refine Below.setCell ?_ (by first | omega | (simp; omega) | simp) _) | (refine below_trans ?_ (by assumption) (by first | omega | (simp; omega) | simp))))
  have b_w5 : Below w.heap.size w w5 := below_trans b_w4 k_w5 (by first | omega | (simp; omega) | simp)
  clear P3_c P3_f P3_l
  have P3 := (P3.later k_w5 : Bx w5 _ _)
  clear P7_c P7_f P7_l
  have P7 := (P7.later k_w5 : Bx w5 _ _)
  clear P9_c P9_f P9_l
  have P9 := (P9.later k_w5 : Bx w5 _ _)
  have ra := ra.later k_w5
  have rc := rc.later k_w5
  clear hc_w5 hf_w5
  obtain ⟨P3_c, P3_f⟩ := id P3
  have P3_l := P3.lt
  obtain ⟨P7_c, P7_f⟩ := id P7
  have P7_l := P7.lt
  obtain ⟨P9_c, P9_f⟩ := id P9
  have P9_l := P9.lt
  go_wp2_with fail
  go_at_call 15
  refine (HS2.out _ _ _ _ _ ((hr.later b_w5).later (by repeat (first | exact Below.refl _ _ | assumption | (refine below_drewN ?_ _) | (refine Below.drew ?_) | (refine Below.alloc ?_ (by first | omega | (simp; omega) | simp) _) | (refine Below.setCell ?_ (by first | omega | (simp; omega) | simp) _) | (refine below_trans ?_ (by assumption) (by first | omega | (simp; omega) | simp))))) (rc.later (by repeat (first | exact Below.refl _ _ | assumption | (refine below_drewN ?_ _) | (refine Below.drew ?_) | (refine Below.alloc ?_ (by first | omega | (simp; omega) | simp) _) | (refine Below.setCell ?_ (by first | omega | (simp; omega) | simp) _) | (refine below_trans ?_ (by assumption) (by first | omega | (simp; omega) | simp)))))).mono ?_
  rintro e w6 ⟨rfl, hb_w6⟩
  obtain ⟨hc_w6, hf_w6⟩ := bcell hb_w6; have hs_w6 := hb_w6.size; (try simp only [World.size_alloc, World.size_setCell, World.size_drew, World.heap_drewN] at hs_w6)
  have k_w6 : Below w5.heap.size w5 w6 := (by repeat (first | exact Below.refl _ _ | assumption | (refine below_drewN ?_ _) | (refine Below.drew ?_) | (refine Below.alloc ?_ (by first | omega | (simp; omega) | simp) _) | (refine Below.setCell ?_ (by first | omega | (simp; omega) | simp) _) | (refine below_trans ?_ (by assumption) (by first | omega | (simp; omega) | simp))))
  have b_w6 : Below w.heap.size w w6 := below_trans b_w5 k_w6 (by first | omega | (simp; omega) | simp)
  clear P3_c P3_f P3_l
  have P3 := (P3.later k_w6 : Bx w6 _ _)
  clear P7_c P7_f P7_l
  have P7 := (P7.later k_w6 : Bx w6 _ _)
  clear P9_c P9_f P9_l
  have P9 := (P9.later k_w6 : Bx w6 _ _)
  have ra := ra.later k_w6
  have rc := rc.later k_w6
  clear hc_w6 hf_w6
  obtain ⟨P3_c, P3_f⟩ := id P3
  have P3_l := P3.lt
  obtain ⟨P7_c, P7_f⟩ := id P7
  have P7_l := P7.lt
  obtain ⟨P9_c, P9_f⟩ := id P9
  have P9_l := P9.lt
  go_wp2
  go_ret
  exact ⟨rfl, b_w6⟩
end Go.Proofs.Ytlaladhnidcoiaa
