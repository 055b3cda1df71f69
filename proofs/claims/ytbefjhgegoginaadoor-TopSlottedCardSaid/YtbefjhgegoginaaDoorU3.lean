/- The walk of the law TopSlotted. -/
import Derived.Test.YtbefjhgegoginaaDoorU2
namespace Go.Proofs.YtbefjhgegoginaaDoor
open Go.RowKit
set_option linter.unusedVariables false
set_option linter.unusedSimpArgs false

theorem Row.aside {w : World} {B : Nat} {A : Option Addr} {ws : List Nat} (h : Row w B A ws) {p : Addr} (hp : B ≤ p.block) (u : Value) : Row (w.setCell p u) B A ws :=
  h.keep fun b o hb => World.cell?_setCell_other _ _ _ _ (by rintro rfl; simp at hp; omega)
set_option maxRecDepth 100000 in
set_option maxHeartbeats 4000000 in
theorem topSlotted_main (n : Int) (m : Nat) (first slot : Int) (hm : m < W64) (hf : -9223372036854775808 ≤ first ∧ first ≤ 9223372036854775807) (hsl : -9223372036854775808 ≤ slot ∧ slot ≤ 9223372036854775807) (w : World) (hs : Sizes w) (S : Sh n m) :
    Calls Tryd.prog 3 #[.agg #[.int .i64 n, .int .u64 (m : Nat)], .int .i64 first, .int .i64 slot] w fun e w' => e = .returned (.bool true) ∧ Below w.heap.size w w' := by
  have n0 := S.1
  have n1 := S.2.1
  obtain ⟨c, z, p, y2, hc, hp, hZ, hY, hX⟩ := class_span (n + 1) (by omega) (by omega)
  have hzs := hZ.slots
  have HP := Lib.hid fun (w : World) => hpack_ok (w := w) S
  have HU := Lib.hid fun (w : World) => hunpack_any (w := w) (pk n m) (pk_lt n m S)
  obtain ⟨u1, u2, u3⟩ := un_pk S
  rw [show unN (pk n m) = n by unfold unN; rw [if_pos u3, u1], show unM (pk n m) = m by unfold unM; rw [if_pos u3, u2], show unY (pk n m) = 0 by unfold unY; rw [if_pos u3]] at HU
  clear u1 u2 u3
  generalize pk n m = q at HP HU
  have HO : Hid (∀ w, Sizes w → Calls Tryd.prog 6 #[.int .i64 (n + 1)] w fun e w' => e = .returned (.tuple #[.int .i64 c, .int .i64 0]) ∧ w = w') := Lib.hid fun w hs => by
    have := cof_in hs (n + 1) (by omega) (by omega)
    rwa [hc.out] at this
  have HG : Hid (∀ w, Sizes w → Calls Tryd.prog 8 #[.int .i64 (n + 1)] w fun e w' => e = .returned (.tuple #[.int .i64 p, .int .i64 0]) ∧ w = w') := Lib.hid fun w hs => by
    have := cpages_in hs (n + 1) (by omega) (by omega)
    rwa [hp.out] at this
  have HS : Hid (∀ w, Sizes w → Calls Tryd.prog 7 #[.int .i64 c] w fun e w' => e = .returned (.tuple #[.int .i64 z, .int .i64 y2]) ∧ w = w') := Lib.hid fun w hs => by
    rcases hY with ⟨c0, c1, h, rfl⟩ | ⟨h, rfl, rfl⟩
    · have := csize_in hs c c0 c1
      rwa [h.out] at this
    · exact csize_out c h
  have HZ : Hid (y2 = 0 ∨ (y2 = 1 ∧ z = 0)) := Lib.hid (by
    rcases hY with ⟨_, _, _, h⟩ | ⟨_, h1, h2⟩
    · exact .inl h
    · exact .inr ⟨h2, h1⟩)
  clear hY hc hp S
  by_cases hPl : Placed first p
  · obtain ⟨N, ws, hN, hW, N0, N1, hR, hK⟩ := ts_calls first p z slot (n + 1) hZ hPl hX
    have HM : Hid (∀ w, Calls Tryd.prog 9 #[.int .i64 first, .int .i64 p, .int .i64 z] w fun e w' => ∃ A1 ca1 M1 cm1, e = .returned (.tuple #[.agg #[.int .i64 first, .int .i64 p, .int .i64 z, .int .i64 N, .slice A1 ws.length ca1, .int .i64 N, .slice M1 ws.length cm1, .bool true], .int .i64 0]) ∧ Own w' w.heap.size A1 ws ∧ Own w' w.heap.size M1 ws ∧ Below w.heap.size w w') := Lib.hid fun w => by
      have := sMake_ok (w := w) first p z hZ hPl
      unfold FreshS newSd spv at this
      simp only at this
      rw [hN.out, hW.out] at this
      exact this
    unfold Placed at hPl
    obtain ⟨f0, f1⟩ := hPl
    clear hN hW hZ hX
    rcases hK with ⟨hk, FA⟩ | ⟨k0, k1, a, us, r, y, hU, ha, hy, FA, FF, FG, FN⟩
    · have FA := Lib.hid FA
      clear hk hR hzs
      rcases HZ.out with rfl | ⟨rfl, rfl⟩
      all_goals
        go_enter Tryd.func3, Tryd.ntmps3
        go_wp2_with fail
        go_at_call 4
        refine (begins2_any _).mono ?_
        rintro e w1 ⟨rfl, hb_w1⟩
        obtain ⟨hc_w1, hf_w1⟩ := bcell hb_w1; have hz_w1_w_0 : w.heap.size < w1.heap.size := (by have hzz := hb_w1.size; (try simp only [World.size_alloc, World.size_setCell, World.size_drew, World.heap_drewN] at hzz); omega); have hs_w1 := hb_w1.size; (try simp only [World.size_alloc, World.size_setCell, World.size_drew, World.heap_drewN] at hs_w1)
        go_wp2_with fail
        go_at_call 5
        refine (HP.out _).mono ?_
        rintro e w2 ⟨rfl, hb_w2⟩
        obtain ⟨hc_w2, hf_w2⟩ := bcell hb_w2; have hz_w2_w_0 : w.heap.size < w2.heap.size := (by have hzz := hb_w2.size; (try simp only [World.size_alloc, World.size_setCell, World.size_drew, World.heap_drewN] at hzz); omega); have hs_w2 := hb_w2.size; (try simp only [World.size_alloc, World.size_setCell, World.size_drew, World.heap_drewN] at hs_w2)
        have Z2 := hs.later (show Below w.heap.size w w2 from (by repeat (first | exact Below.refl _ _ | assumption | (refine below_drewN ?_ _) | (refine Below.drew ?_) | (refine Below.alloc ?_ (by first | omega | (simp; omega) | simp) _) | (refine Below.setCell ?_ (by first | omega | (simp; omega) | simp) _) | (refine below_trans ?_ (by assumption) (by first | omega | (simp; omega) | simp)))))
        go_wp2_with fail
        go_at_call 6
        refine (HO.out _ Z2).mono ?_
        rintro e w0 ⟨rfl, rfl⟩
        go_wp2_with fail
        go_at_call 7
        refine (HS.out _ Z2).mono ?_
        rintro e w0 ⟨rfl, rfl⟩
        go_wp2_with fail
        go_at_call 8
        refine (HG.out _ Z2).mono ?_
        rintro e w0 ⟨rfl, rfl⟩

        go_wp2_with fail
        go_at_call 9
        refine (HM.out _).mono ?_
        rintro e w4 ⟨A1, ca1, M1, cm1, rfl, hoA, hoM, hb_w4⟩
        obtain ⟨hc_w4, hf_w4⟩ := bcell hb_w4; have hz_w4_w_0 : w.heap.size < w4.heap.size := (by have hzz := hb_w4.size; (try simp only [World.size_alloc, World.size_setCell, World.size_drew, World.heap_drewN] at hzz); omega); have hs_w4 := hb_w4.size; (try simp only [World.size_alloc, World.size_setCell, World.size_drew, World.heap_drewN] at hs_w4)
        go_wp2_with fail
        go_at_call 10
        refine (FA.out _ _ _ _ _ (hoA.row.later (by repeat (first | exact Below.refl _ _ | assumption | (refine below_drewN ?_ _) | (refine Below.drew ?_) | (refine Below.alloc ?_ (by first | omega | (simp; omega) | simp) _) | (refine Below.setCell ?_ (by first | omega | (simp; omega) | simp) _) | (refine below_trans ?_ (by assumption) (by first | omega | (simp; omega) | simp))))) (hoM.row.later (by repeat (first | exact Below.refl _ _ | assumption | (refine below_drewN ?_ _) | (refine Below.drew ?_) | (refine Below.alloc ?_ (by first | omega | (simp; omega) | simp) _) | (refine Below.setCell ?_ (by first | omega | (simp; omega) | simp) _) | (refine below_trans ?_ (by assumption) (by first | omega | (simp; omega) | simp)))))).mono ?_
        rintro e w5 ⟨rfl, hb_w5⟩
        obtain ⟨hc_w5, hf_w5⟩ := bcell hb_w5; have hz_w5_w_0 : w.heap.size < w5.heap.size := (by have hzz := hb_w5.size; (try simp only [World.size_alloc, World.size_setCell, World.size_drew, World.heap_drewN] at hzz); omega); have hz_w5_w4_0 : w4.heap.size < w5.heap.size := (by have hzz := hb_w5.size; (try simp only [World.size_alloc, World.size_setCell, World.size_drew, World.heap_drewN] at hzz); omega); have hs_w5 := hb_w5.size; (try simp only [World.size_alloc, World.size_setCell, World.size_drew, World.heap_drewN] at hs_w5)
        go_wp2
        go_ret
        exact ⟨rfl, (by repeat (first | exact Below.refl _ _ | assumption | (refine below_drewN ?_ _) | (refine Below.drew ?_) | (refine Below.alloc ?_ (by first | omega | (simp; omega) | simp) _) | (refine Below.setCell ?_ (by first | omega | (simp; omega) | simp) _) | (refine below_trans ?_ (by assumption) (by first | omega | (simp; omega) | simp))))⟩
    · have hX := Lib.hid hR
      have HPut : Hid (∀ (w : World) A cap, Row w w.heap.size A ws → Calls Tryd.prog 12 #[.agg #[.int .i64 N, .slice A ws.length cap], .int .i64 slot, .bool true] w fun e w' => ∃ A7 cap7, e = .returned (.tuple #[.agg #[.int .i64 N, .slice A7 us.length cap7], .int .i64 0]) ∧ Own w' w.heap.size A7 us ∧ Below w.heap.size w w') := Lib.hid fun w A cap hr => by
        have := put_in (w := w) (A := A) (ws := ws) cap true slot hr hX.out k0 k1
        unfold Fresh at this
        rw [hU.out] at this
        exact this
      have FA := Lib.hid FA
      have FF := Lib.hid FF
      have FG := Lib.hid FG
      have FN := Lib.hid FN
      have hw1 : IntKind.u64.wrap n = n := by rw [IntKind.wrap_u64]; omega
      have hw2 : IntKind.u64.wrap ((a : Int) + n) = (a : Int) + n := by rw [IntKind.wrap_u64]; omega
      have hw3 : IntKind.u64.wrap ((a : Int) + n + 1) = (a : Int) + n + 1 := by rw [IntKind.wrap_u64]; omega
      have hw4 : IntKind.u64.wrap ((first + p) * 16) = (first + p) * 16 := by rw [IntKind.wrap_u64]; omega
      clear hR hU
      rcases hy with ⟨rfl, y1, y2', y3⟩ | ⟨rfl, rfl, y1⟩
      · have d5 : decide ((a : Int) + n + 1 ≤ r) = true := decide_eq_true (by omega)
        clear hzs N0
        rcases HZ.out with rfl | ⟨rfl, rfl⟩
        all_goals
          go_enter Tryd.func3, Tryd.ntmps3
          go_wp2_with fail
          go_at_call 4
          refine (begins2_any _).mono ?_
          rintro e w1 ⟨rfl, hb_w1⟩
          obtain ⟨hc_w1, hf_w1⟩ := bcell hb_w1; have hz_w1_w_0 : w.heap.size < w1.heap.size := (by have hzz := hb_w1.size; (try simp only [World.size_alloc, World.size_setCell, World.size_drew, World.heap_drewN] at hzz); omega); have hs_w1 := hb_w1.size; (try simp only [World.size_alloc, World.size_setCell, World.size_drew, World.heap_drewN] at hs_w1)
          go_wp2_with fail
          go_at_call 5
          refine (HP.out _).mono ?_
          rintro e w2 ⟨rfl, hb_w2⟩
          obtain ⟨hc_w2, hf_w2⟩ := bcell hb_w2; have hz_w2_w_0 : w.heap.size < w2.heap.size := (by have hzz := hb_w2.size; (try simp only [World.size_alloc, World.size_setCell, World.size_drew, World.heap_drewN] at hzz); omega); have hs_w2 := hb_w2.size; (try simp only [World.size_alloc, World.size_setCell, World.size_drew, World.heap_drewN] at hs_w2)
          have Z2 := hs.later (show Below w.heap.size w w2 from (by repeat (first | exact Below.refl _ _ | assumption | (refine below_drewN ?_ _) | (refine Below.drew ?_) | (refine Below.alloc ?_ (by first | omega | (simp; omega) | simp) _) | (refine Below.setCell ?_ (by first | omega | (simp; omega) | simp) _) | (refine below_trans ?_ (by assumption) (by first | omega | (simp; omega) | simp)))))
          go_wp2_with fail
          go_at_call 6
          refine (HO.out _ Z2).mono ?_
          rintro e w0 ⟨rfl, rfl⟩
          go_wp2_with fail
          go_at_call 7
          refine (HS.out _ Z2).mono ?_
          rintro e w0 ⟨rfl, rfl⟩
          go_wp2_with fail
          go_at_call 8
          refine (HG.out _ Z2).mono ?_
          rintro e w0 ⟨rfl, rfl⟩

          go_wp2_with fail
          go_at_call 9
          refine (HM.out _).mono ?_
          rintro e w4 ⟨A1, ca1, M1, cm1, rfl, hoA, hoM, hb_w4⟩
          obtain ⟨hc_w4, hf_w4⟩ := bcell hb_w4; have hz_w4_w_0 : w.heap.size < w4.heap.size := (by have hzz := hb_w4.size; (try simp only [World.size_alloc, World.size_setCell, World.size_drew, World.heap_drewN] at hzz); omega); have hs_w4 := hb_w4.size; (try simp only [World.size_alloc, World.size_setCell, World.size_drew, World.heap_drewN] at hs_w4)
          go_wp2_with fail
          go_at_call 10
          refine (FA.out _ _ _ _ _ (hoA.row.later (by repeat (first | exact Below.refl _ _ | assumption | (refine below_drewN ?_ _) | (refine Below.drew ?_) | (refine Below.alloc ?_ (by first | omega | (simp; omega) | simp) _) | (refine Below.setCell ?_ (by first | omega | (simp; omega) | simp) _) | (refine below_trans ?_ (by assumption) (by first | omega | (simp; omega) | simp))))) (hoM.row.later (by repeat (first | exact Below.refl _ _ | assumption | (refine below_drewN ?_ _) | (refine Below.drew ?_) | (refine Below.alloc ?_ (by first | omega | (simp; omega) | simp) _) | (refine Below.setCell ?_ (by first | omega | (simp; omega) | simp) _) | (refine below_trans ?_ (by assumption) (by first | omega | (simp; omega) | simp)))))).mono ?_
          rintro e w5 ⟨rfl, hb_w5⟩
          obtain ⟨hc_w5, hf_w5⟩ := bcell hb_w5; have hz_w5_w_0 : w.heap.size < w5.heap.size := (by have hzz := hb_w5.size; (try simp only [World.size_alloc, World.size_setCell, World.size_drew, World.heap_drewN] at hzz); omega); have hz_w5_w4_0 : w4.heap.size < w5.heap.size := (by have hzz := hb_w5.size; (try simp only [World.size_alloc, World.size_setCell, World.size_drew, World.heap_drewN] at hzz); omega); have hs_w5 := hb_w5.size; (try simp only [World.size_alloc, World.size_setCell, World.size_drew, World.heap_drewN] at hs_w5)
          go_wp2_with fail
          go_at_call 11
          refine (FF.out _ _ _ _ _ _ _ rfl (hoA.row.later (by repeat (first | exact Below.refl _ _ | assumption | (refine below_drewN ?_ _) | (refine Below.drew ?_) | (refine Below.alloc ?_ (by first | omega | (simp; omega) | simp) _) | (refine Below.setCell ?_ (by first | omega | (simp; omega) | simp) _) | (refine below_trans ?_ (by assumption) (by first | omega | (simp; omega) | simp))))) (hoM.row.later (by repeat (first | exact Below.refl _ _ | assumption | (refine below_drewN ?_ _) | (refine Below.drew ?_) | (refine Below.alloc ?_ (by first | omega | (simp; omega) | simp) _) | (refine Below.setCell ?_ (by first | omega | (simp; omega) | simp) _) | (refine below_trans ?_ (by assumption) (by first | omega | (simp; omega) | simp)))))).mono ?_
          rintro e w6 ⟨rfl, hb_w6⟩
          obtain ⟨hc_w6, hf_w6⟩ := bcell hb_w6; have hz_w6_w_0 : w.heap.size < w6.heap.size := (by have hzz := hb_w6.size; (try simp only [World.size_alloc, World.size_setCell, World.size_drew, World.heap_drewN] at hzz); omega); have hz_w6_w4_0 : w4.heap.size < w6.heap.size := (by have hzz := hb_w6.size; (try simp only [World.size_alloc, World.size_setCell, World.size_drew, World.heap_drewN] at hzz); omega); have hs_w6 := hb_w6.size; (try simp only [World.size_alloc, World.size_setCell, World.size_drew, World.heap_drewN] at hs_w6)
          go_wp2_with fail
          go_at_call 12
          refine (HPut.out _ _ _ (hoA.row.later (by repeat (first | exact Below.refl _ _ | assumption | (refine below_drewN ?_ _) | (refine Below.drew ?_) | (refine Below.alloc ?_ (by first | omega | (simp; omega) | simp) _) | (refine Below.setCell ?_ (by first | omega | (simp; omega) | simp) _) | (refine below_trans ?_ (by assumption) (by first | omega | (simp; omega) | simp)))))).mono ?_
          rintro e w7 ⟨A7, cap7, rfl, hoU, hb_w7⟩
          obtain ⟨hc_w7, hf_w7⟩ := bcell hb_w7; have hz_w7_w_0 : w.heap.size < w7.heap.size := (by have hzz := hb_w7.size; (try simp only [World.size_alloc, World.size_setCell, World.size_drew, World.heap_drewN] at hzz); omega); have hz_w7_w4_0 : w4.heap.size < w7.heap.size := (by have hzz := hb_w7.size; (try simp only [World.size_alloc, World.size_setCell, World.size_drew, World.heap_drewN] at hzz); omega); have hs_w7 := hb_w7.size; (try simp only [World.size_alloc, World.size_setCell, World.size_drew, World.heap_drewN] at hs_w7)
          have q3 : w7.cell? ⟨w4.heap.size, 3, none⟩ = some (.int .i64 N) := (hc_w7 _ _ (by first | omega | (simp; omega) | simp)).trans ((hc_w6 _ _ (by first | omega | (simp; omega) | simp)).trans ((World.cell?_alloc_lt _ _ ⟨_, _, _⟩ (by first | omega | (simp; omega) | simp)).trans ((hc_w5 _ _ (by first | omega | (simp; omega) | simp)).trans (by simp [go_sem]))))
          have q4 : w7.cell? ⟨w4.heap.size, 4, none⟩ = some (.slice A1 ws.length ca1) := (hc_w7 _ _ (by first | omega | (simp; omega) | simp)).trans ((hc_w6 _ _ (by first | omega | (simp; omega) | simp)).trans ((World.cell?_alloc_lt _ _ ⟨_, _, _⟩ (by first | omega | (simp; omega) | simp)).trans ((hc_w5 _ _ (by first | omega | (simp; omega) | simp)).trans (by simp [go_sem]))))
          have s0 : ∀ V, (w7.setCell ⟨w4.heap.size, 3, none⟩ V).cell? ⟨w4.heap.size, 3, none⟩ = some V := fun V => World.cell?_setCell_same _ _ _ q3
          have s1 : ∀ V V', ((w7.setCell ⟨w4.heap.size, 3, none⟩ V).setCell ⟨w4.heap.size, 4, none⟩ V').cell? ⟨w4.heap.size, 4, none⟩ = some V' := fun V V' => World.cell?_setCell_same _ _ _ ((World.cell?_setCell_other _ _ _ _ (by simp)).trans q4)
          have s2 : ∀ V V', ((w7.setCell ⟨w4.heap.size, 3, none⟩ V).setCell ⟨w4.heap.size, 4, none⟩ V').cell? ⟨w4.heap.size, 3, none⟩ = some V := fun V V' => (World.cell?_setCell_other _ _ _ _ (by simp)).trans (World.cell?_setCell_same _ _ _ q3)
          have rM7 : Row w7 w4.heap.size M1 ws := hoM.row.below (by repeat (first | exact Below.refl _ _ | assumption | (refine below_drewN ?_ _) | (refine Below.drew ?_) | (refine Below.alloc ?_ (by first | omega | (simp; omega) | simp) _) | (refine Below.setCell ?_ (by first | omega | (simp; omega) | simp) _) | (refine below_trans ?_ (by assumption) (by first | omega | (simp; omega) | simp))))
          go_wp2_with fail
          go_at_call 11
          refine (FG.out _ _ _ _ _ _ _ (by simp only [World.size_setCell]) ((hoU.far (p := ⟨w4.heap.size, 3, none⟩) (.inl (by first | omega | (simp; omega) | simp)) _).far (p := ⟨w4.heap.size, 4, none⟩) (.inl (by first | omega | (simp; omega) | simp)) _).row (((rM7.aside (p := ⟨w4.heap.size, 3, none⟩) (by first | omega | (simp; omega) | simp) _).aside (p := ⟨w4.heap.size, 4, none⟩) (by first | omega | (simp; omega) | simp) _).more (by first | omega | (simp; omega) | simp))).mono ?_
          rintro e w8 ⟨rfl, hb_w8⟩
          obtain ⟨hc_w8, hf_w8⟩ := bcell hb_w8; have hz_w8_w_0 : w.heap.size < w8.heap.size := (by have hzz := hb_w8.size; (try simp only [World.size_alloc, World.size_setCell, World.size_drew, World.heap_drewN] at hzz); omega); have hz_w8_w4_0 : w4.heap.size < w8.heap.size := (by have hzz := hb_w8.size; (try simp only [World.size_alloc, World.size_setCell, World.size_drew, World.heap_drewN] at hzz); omega); have hs_w8 := hb_w8.size; (try simp only [World.size_alloc, World.size_setCell, World.size_drew, World.heap_drewN] at hs_w8)
          go_wp2_with fail
          go_at_call 10
          refine (FN.out _ _ _ _ _ (((hoU.far (p := ⟨w4.heap.size, 3, none⟩) (.inl (by first | omega | (simp; omega) | simp)) _).far (p := ⟨w4.heap.size, 4, none⟩) (.inl (by first | omega | (simp; omega) | simp)) _).row.later (by repeat (first | exact Below.refl _ _ | assumption | (refine below_drewN ?_ _) | (refine Below.drew ?_) | (refine Below.alloc ?_ (by first | omega | (simp; omega) | simp) _) | (refine Below.setCell ?_ (by first | omega | (simp; omega) | simp) _) | (refine below_trans ?_ (by assumption) (by first | omega | (simp; omega) | simp))))) ((((rM7.aside (p := ⟨w4.heap.size, 3, none⟩) (by first | omega | (simp; omega) | simp) _).aside (p := ⟨w4.heap.size, 4, none⟩) (by first | omega | (simp; omega) | simp) _).more (by first | omega | (simp; omega) | simp)).later (by repeat (first | exact Below.refl _ _ | assumption | (refine below_drewN ?_ _) | (refine Below.drew ?_) | (refine Below.alloc ?_ (by first | omega | (simp; omega) | simp) _) | (refine Below.setCell ?_ (by first | omega | (simp; omega) | simp) _) | (refine below_trans ?_ (by assumption) (by first | omega | (simp; omega) | simp)))))).mono ?_
          rintro e w9 ⟨rfl, hb_w9⟩
          obtain ⟨hc_w9, hf_w9⟩ := bcell hb_w9; have hz_w9_w_0 : w.heap.size < w9.heap.size := (by have hzz := hb_w9.size; (try simp only [World.size_alloc, World.size_setCell, World.size_drew, World.heap_drewN] at hzz); omega); have hz_w9_w4_0 : w4.heap.size < w9.heap.size := (by have hzz := hb_w9.size; (try simp only [World.size_alloc, World.size_setCell, World.size_drew, World.heap_drewN] at hzz); omega); have hs_w9 := hb_w9.size; (try simp only [World.size_alloc, World.size_setCell, World.size_drew, World.heap_drewN] at hs_w9)
          go_wp2_with fail
          go_at_call 13
          refine (HU.out _).mono ?_
          rintro e w10 ⟨rfl, hb_w10⟩
          obtain ⟨hc_w10, hf_w10⟩ := bcell hb_w10; have hz_w10_w_0 : w.heap.size < w10.heap.size := (by have hzz := hb_w10.size; (try simp only [World.size_alloc, World.size_setCell, World.size_drew, World.heap_drewN] at hzz); omega); have hz_w10_w4_0 : w4.heap.size < w10.heap.size := (by have hzz := hb_w10.size; (try simp only [World.size_alloc, World.size_setCell, World.size_drew, World.heap_drewN] at hzz); omega); have hs_w10 := hb_w10.size; (try simp only [World.size_alloc, World.size_setCell, World.size_drew, World.heap_drewN] at hs_w10)
          go_wp2
          go_ret
          exact ⟨rfl, (by repeat (first | exact Below.refl _ _ | assumption | (refine below_drewN ?_ _) | (refine Below.drew ?_) | (refine Below.alloc ?_ (by first | omega | (simp; omega) | simp) _) | (refine Below.setCell ?_ (by first | omega | (simp; omega) | simp) _) | (refine below_trans ?_ (by assumption) (by first | omega | (simp; omega) | simp))))⟩
      · have d5 : decide ((a : Int) + n + 1 ≤ (first + p) * 16) = true := decide_eq_true (by omega)
        clear hzs N0
        rcases HZ.out with rfl | ⟨rfl, rfl⟩
        all_goals
          go_enter Tryd.func3, Tryd.ntmps3
          go_wp2_with fail
          go_at_call 4
          refine (begins2_any _).mono ?_
          rintro e w1 ⟨rfl, hb_w1⟩
          obtain ⟨hc_w1, hf_w1⟩ := bcell hb_w1; have hz_w1_w_0 : w.heap.size < w1.heap.size := (by have hzz := hb_w1.size; (try simp only [World.size_alloc, World.size_setCell, World.size_drew, World.heap_drewN] at hzz); omega); have hs_w1 := hb_w1.size; (try simp only [World.size_alloc, World.size_setCell, World.size_drew, World.heap_drewN] at hs_w1)
          go_wp2_with fail
          go_at_call 5
          refine (HP.out _).mono ?_
          rintro e w2 ⟨rfl, hb_w2⟩
          obtain ⟨hc_w2, hf_w2⟩ := bcell hb_w2; have hz_w2_w_0 : w.heap.size < w2.heap.size := (by have hzz := hb_w2.size; (try simp only [World.size_alloc, World.size_setCell, World.size_drew, World.heap_drewN] at hzz); omega); have hs_w2 := hb_w2.size; (try simp only [World.size_alloc, World.size_setCell, World.size_drew, World.heap_drewN] at hs_w2)
          have Z2 := hs.later (show Below w.heap.size w w2 from (by repeat (first | exact Below.refl _ _ | assumption | (refine below_drewN ?_ _) | (refine Below.drew ?_) | (refine Below.alloc ?_ (by first | omega | (simp; omega) | simp) _) | (refine Below.setCell ?_ (by first | omega | (simp; omega) | simp) _) | (refine below_trans ?_ (by assumption) (by first | omega | (simp; omega) | simp)))))
          go_wp2_with fail
          go_at_call 6
          refine (HO.out _ Z2).mono ?_
          rintro e w0 ⟨rfl, rfl⟩
          go_wp2_with fail
          go_at_call 7
          refine (HS.out _ Z2).mono ?_
          rintro e w0 ⟨rfl, rfl⟩
          go_wp2_with fail
          go_at_call 8
          refine (HG.out _ Z2).mono ?_
          rintro e w0 ⟨rfl, rfl⟩

          go_wp2_with fail
          go_at_call 9
          refine (HM.out _).mono ?_
          rintro e w4 ⟨A1, ca1, M1, cm1, rfl, hoA, hoM, hb_w4⟩
          obtain ⟨hc_w4, hf_w4⟩ := bcell hb_w4; have hz_w4_w_0 : w.heap.size < w4.heap.size := (by have hzz := hb_w4.size; (try simp only [World.size_alloc, World.size_setCell, World.size_drew, World.heap_drewN] at hzz); omega); have hs_w4 := hb_w4.size; (try simp only [World.size_alloc, World.size_setCell, World.size_drew, World.heap_drewN] at hs_w4)
          go_wp2_with fail
          go_at_call 10
          refine (FA.out _ _ _ _ _ (hoA.row.later (by repeat (first | exact Below.refl _ _ | assumption | (refine below_drewN ?_ _) | (refine Below.drew ?_) | (refine Below.alloc ?_ (by first | omega | (simp; omega) | simp) _) | (refine Below.setCell ?_ (by first | omega | (simp; omega) | simp) _) | (refine below_trans ?_ (by assumption) (by first | omega | (simp; omega) | simp))))) (hoM.row.later (by repeat (first | exact Below.refl _ _ | assumption | (refine below_drewN ?_ _) | (refine Below.drew ?_) | (refine Below.alloc ?_ (by first | omega | (simp; omega) | simp) _) | (refine Below.setCell ?_ (by first | omega | (simp; omega) | simp) _) | (refine below_trans ?_ (by assumption) (by first | omega | (simp; omega) | simp)))))).mono ?_
          rintro e w5 ⟨rfl, hb_w5⟩
          obtain ⟨hc_w5, hf_w5⟩ := bcell hb_w5; have hz_w5_w_0 : w.heap.size < w5.heap.size := (by have hzz := hb_w5.size; (try simp only [World.size_alloc, World.size_setCell, World.size_drew, World.heap_drewN] at hzz); omega); have hz_w5_w4_0 : w4.heap.size < w5.heap.size := (by have hzz := hb_w5.size; (try simp only [World.size_alloc, World.size_setCell, World.size_drew, World.heap_drewN] at hzz); omega); have hs_w5 := hb_w5.size; (try simp only [World.size_alloc, World.size_setCell, World.size_drew, World.heap_drewN] at hs_w5)
          go_wp2_with fail
          go_at_call 11
          refine (FF.out _ _ _ _ _ _ _ rfl (hoA.row.later (by repeat (first | exact Below.refl _ _ | assumption | (refine below_drewN ?_ _) | (refine Below.drew ?_) | (refine Below.alloc ?_ (by first | omega | (simp; omega) | simp) _) | (refine Below.setCell ?_ (by first | omega | (simp; omega) | simp) _) | (refine below_trans ?_ (by assumption) (by first | omega | (simp; omega) | simp))))) (hoM.row.later (by repeat (first | exact Below.refl _ _ | assumption | (refine below_drewN ?_ _) | (refine Below.drew ?_) | (refine Below.alloc ?_ (by first | omega | (simp; omega) | simp) _) | (refine Below.setCell ?_ (by first | omega | (simp; omega) | simp) _) | (refine below_trans ?_ (by assumption) (by first | omega | (simp; omega) | simp)))))).mono ?_
          rintro e w6 ⟨rfl, hb_w6⟩
          obtain ⟨hc_w6, hf_w6⟩ := bcell hb_w6; have hz_w6_w_0 : w.heap.size < w6.heap.size := (by have hzz := hb_w6.size; (try simp only [World.size_alloc, World.size_setCell, World.size_drew, World.heap_drewN] at hzz); omega); have hz_w6_w4_0 : w4.heap.size < w6.heap.size := (by have hzz := hb_w6.size; (try simp only [World.size_alloc, World.size_setCell, World.size_drew, World.heap_drewN] at hzz); omega); have hs_w6 := hb_w6.size; (try simp only [World.size_alloc, World.size_setCell, World.size_drew, World.heap_drewN] at hs_w6)
          go_wp2_with fail
          go_at_call 12
          refine (HPut.out _ _ _ (hoA.row.later (by repeat (first | exact Below.refl _ _ | assumption | (refine below_drewN ?_ _) | (refine Below.drew ?_) | (refine Below.alloc ?_ (by first | omega | (simp; omega) | simp) _) | (refine Below.setCell ?_ (by first | omega | (simp; omega) | simp) _) | (refine below_trans ?_ (by assumption) (by first | omega | (simp; omega) | simp)))))).mono ?_
          rintro e w7 ⟨A7, cap7, rfl, hoU, hb_w7⟩
          obtain ⟨hc_w7, hf_w7⟩ := bcell hb_w7; have hz_w7_w_0 : w.heap.size < w7.heap.size := (by have hzz := hb_w7.size; (try simp only [World.size_alloc, World.size_setCell, World.size_drew, World.heap_drewN] at hzz); omega); have hz_w7_w4_0 : w4.heap.size < w7.heap.size := (by have hzz := hb_w7.size; (try simp only [World.size_alloc, World.size_setCell, World.size_drew, World.heap_drewN] at hzz); omega); have hs_w7 := hb_w7.size; (try simp only [World.size_alloc, World.size_setCell, World.size_drew, World.heap_drewN] at hs_w7)
          have q3 : w7.cell? ⟨w4.heap.size, 3, none⟩ = some (.int .i64 N) := (hc_w7 _ _ (by first | omega | (simp; omega) | simp)).trans ((hc_w6 _ _ (by first | omega | (simp; omega) | simp)).trans ((World.cell?_alloc_lt _ _ ⟨_, _, _⟩ (by first | omega | (simp; omega) | simp)).trans ((hc_w5 _ _ (by first | omega | (simp; omega) | simp)).trans (by simp [go_sem]))))
          have q4 : w7.cell? ⟨w4.heap.size, 4, none⟩ = some (.slice A1 ws.length ca1) := (hc_w7 _ _ (by first | omega | (simp; omega) | simp)).trans ((hc_w6 _ _ (by first | omega | (simp; omega) | simp)).trans ((World.cell?_alloc_lt _ _ ⟨_, _, _⟩ (by first | omega | (simp; omega) | simp)).trans ((hc_w5 _ _ (by first | omega | (simp; omega) | simp)).trans (by simp [go_sem]))))
          have s0 : ∀ V, (w7.setCell ⟨w4.heap.size, 3, none⟩ V).cell? ⟨w4.heap.size, 3, none⟩ = some V := fun V => World.cell?_setCell_same _ _ _ q3
          have s1 : ∀ V V', ((w7.setCell ⟨w4.heap.size, 3, none⟩ V).setCell ⟨w4.heap.size, 4, none⟩ V').cell? ⟨w4.heap.size, 4, none⟩ = some V' := fun V V' => World.cell?_setCell_same _ _ _ ((World.cell?_setCell_other _ _ _ _ (by simp)).trans q4)
          have s2 : ∀ V V', ((w7.setCell ⟨w4.heap.size, 3, none⟩ V).setCell ⟨w4.heap.size, 4, none⟩ V').cell? ⟨w4.heap.size, 3, none⟩ = some V := fun V V' => (World.cell?_setCell_other _ _ _ _ (by simp)).trans (World.cell?_setCell_same _ _ _ q3)
          have rM7 : Row w7 w4.heap.size M1 ws := hoM.row.below (by repeat (first | exact Below.refl _ _ | assumption | (refine below_drewN ?_ _) | (refine Below.drew ?_) | (refine Below.alloc ?_ (by first | omega | (simp; omega) | simp) _) | (refine Below.setCell ?_ (by first | omega | (simp; omega) | simp) _) | (refine below_trans ?_ (by assumption) (by first | omega | (simp; omega) | simp))))
          go_wp2_with fail
          go_at_call 11
          refine (FG.out _ _ _ _ _ _ _ (by simp only [World.size_setCell]) ((hoU.far (p := ⟨w4.heap.size, 3, none⟩) (.inl (by first | omega | (simp; omega) | simp)) _).far (p := ⟨w4.heap.size, 4, none⟩) (.inl (by first | omega | (simp; omega) | simp)) _).row (((rM7.aside (p := ⟨w4.heap.size, 3, none⟩) (by first | omega | (simp; omega) | simp) _).aside (p := ⟨w4.heap.size, 4, none⟩) (by first | omega | (simp; omega) | simp) _).more (by first | omega | (simp; omega) | simp))).mono ?_
          rintro e w8 ⟨rfl, hb_w8⟩
          obtain ⟨hc_w8, hf_w8⟩ := bcell hb_w8; have hz_w8_w_0 : w.heap.size < w8.heap.size := (by have hzz := hb_w8.size; (try simp only [World.size_alloc, World.size_setCell, World.size_drew, World.heap_drewN] at hzz); omega); have hz_w8_w4_0 : w4.heap.size < w8.heap.size := (by have hzz := hb_w8.size; (try simp only [World.size_alloc, World.size_setCell, World.size_drew, World.heap_drewN] at hzz); omega); have hs_w8 := hb_w8.size; (try simp only [World.size_alloc, World.size_setCell, World.size_drew, World.heap_drewN] at hs_w8)
          go_wp2_with fail
          go_at_call 10
          refine (FN.out _ _ _ _ _ (((hoU.far (p := ⟨w4.heap.size, 3, none⟩) (.inl (by first | omega | (simp; omega) | simp)) _).far (p := ⟨w4.heap.size, 4, none⟩) (.inl (by first | omega | (simp; omega) | simp)) _).row.later (by repeat (first | exact Below.refl _ _ | assumption | (refine below_drewN ?_ _) | (refine Below.drew ?_) | (refine Below.alloc ?_ (by first | omega | (simp; omega) | simp) _) | (refine Below.setCell ?_ (by first | omega | (simp; omega) | simp) _) | (refine below_trans ?_ (by assumption) (by first | omega | (simp; omega) | simp))))) ((((rM7.aside (p := ⟨w4.heap.size, 3, none⟩) (by first | omega | (simp; omega) | simp) _).aside (p := ⟨w4.heap.size, 4, none⟩) (by first | omega | (simp; omega) | simp) _).more (by first | omega | (simp; omega) | simp)).later (by repeat (first | exact Below.refl _ _ | assumption | (refine below_drewN ?_ _) | (refine Below.drew ?_) | (refine Below.alloc ?_ (by first | omega | (simp; omega) | simp) _) | (refine Below.setCell ?_ (by first | omega | (simp; omega) | simp) _) | (refine below_trans ?_ (by assumption) (by first | omega | (simp; omega) | simp)))))).mono ?_
          rintro e w9 ⟨rfl, hb_w9⟩
          obtain ⟨hc_w9, hf_w9⟩ := bcell hb_w9; have hz_w9_w_0 : w.heap.size < w9.heap.size := (by have hzz := hb_w9.size; (try simp only [World.size_alloc, World.size_setCell, World.size_drew, World.heap_drewN] at hzz); omega); have hz_w9_w4_0 : w4.heap.size < w9.heap.size := (by have hzz := hb_w9.size; (try simp only [World.size_alloc, World.size_setCell, World.size_drew, World.heap_drewN] at hzz); omega); have hs_w9 := hb_w9.size; (try simp only [World.size_alloc, World.size_setCell, World.size_drew, World.heap_drewN] at hs_w9)
          go_wp2_with fail
          go_at_call 13
          refine (HU.out _).mono ?_
          rintro e w10 ⟨rfl, hb_w10⟩
          obtain ⟨hc_w10, hf_w10⟩ := bcell hb_w10; have hz_w10_w_0 : w.heap.size < w10.heap.size := (by have hzz := hb_w10.size; (try simp only [World.size_alloc, World.size_setCell, World.size_drew, World.heap_drewN] at hzz); omega); have hz_w10_w4_0 : w4.heap.size < w10.heap.size := (by have hzz := hb_w10.size; (try simp only [World.size_alloc, World.size_setCell, World.size_drew, World.heap_drewN] at hzz); omega); have hs_w10 := hb_w10.size; (try simp only [World.size_alloc, World.size_setCell, World.size_drew, World.heap_drewN] at hs_w10)
          go_wp2
          go_ret
          exact ⟨rfl, (by repeat (first | exact Below.refl _ _ | assumption | (refine below_drewN ?_ _) | (refine Below.drew ?_) | (refine Below.alloc ?_ (by first | omega | (simp; omega) | simp) _) | (refine Below.setCell ?_ (by first | omega | (simp; omega) | simp) _) | (refine below_trans ?_ (by assumption) (by first | omega | (simp; omega) | simp))))⟩
  · have HM : Hid (∀ w, Calls Tryd.prog 9 #[.int .i64 first, .int .i64 p, .int .i64 z] w fun e w' => ∃ A1 ca1 M1 cm1, e = .returned (.tuple #[.agg #[.int .i64 0, .int .i64 0, .int .i64 0, .int .i64 0, .slice A1 0 ca1, .int .i64 0, .slice M1 0 cm1, .bool false], .int .i64 2]) ∧ Below w.heap.size w w') := Lib.hid fun w => by
      have := sMake_bad (w := w) first p z (fun h => hPl h.2)
      unfold FreshS sd0 spv at this
      simp only [List.length_nil] at this
      exact this.mono fun e w' ⟨A1, ca1, M1, cm1, h1, _, _, h2⟩ => ⟨A1, ca1, M1, cm1, h1, h2⟩
    have hw1 : IntKind.i64.wrap (1024 - p) = 1024 - p := by rw [IntWalk.i64_in _ (by omega)]
    by_cases q0 : first < 0
    · have d0 : decide (first < 0) = true := decide_eq_true q0
      clear hPl
      rcases HZ.out with rfl | ⟨rfl, rfl⟩
      all_goals
        go_enter Tryd.func3, Tryd.ntmps3
        go_wp2_with fail
        go_at_call 4
        refine (begins2_any _).mono ?_
        rintro e w1 ⟨rfl, hb_w1⟩
        obtain ⟨hc_w1, hf_w1⟩ := bcell hb_w1; have hz_w1_w_0 : w.heap.size < w1.heap.size := (by have hzz := hb_w1.size; (try simp only [World.size_alloc, World.size_setCell, World.size_drew, World.heap_drewN] at hzz); omega); have hs_w1 := hb_w1.size; (try simp only [World.size_alloc, World.size_setCell, World.size_drew, World.heap_drewN] at hs_w1)
        go_wp2_with fail
        go_at_call 5
        refine (HP.out _).mono ?_
        rintro e w2 ⟨rfl, hb_w2⟩
        obtain ⟨hc_w2, hf_w2⟩ := bcell hb_w2; have hz_w2_w_0 : w.heap.size < w2.heap.size := (by have hzz := hb_w2.size; (try simp only [World.size_alloc, World.size_setCell, World.size_drew, World.heap_drewN] at hzz); omega); have hs_w2 := hb_w2.size; (try simp only [World.size_alloc, World.size_setCell, World.size_drew, World.heap_drewN] at hs_w2)
        have Z2 := hs.later (show Below w.heap.size w w2 from (by repeat (first | exact Below.refl _ _ | assumption | (refine below_drewN ?_ _) | (refine Below.drew ?_) | (refine Below.alloc ?_ (by first | omega | (simp; omega) | simp) _) | (refine Below.setCell ?_ (by first | omega | (simp; omega) | simp) _) | (refine below_trans ?_ (by assumption) (by first | omega | (simp; omega) | simp)))))
        go_wp2_with fail
        go_at_call 6
        refine (HO.out _ Z2).mono ?_
        rintro e w0 ⟨rfl, rfl⟩
        go_wp2_with fail
        go_at_call 7
        refine (HS.out _ Z2).mono ?_
        rintro e w0 ⟨rfl, rfl⟩
        go_wp2_with fail
        go_at_call 8
        refine (HG.out _ Z2).mono ?_
        rintro e w0 ⟨rfl, rfl⟩

        go_wp2_with fail
        go_at_call 9
        refine (HM.out _).mono ?_
        rintro e w4 ⟨A1, ca1, M1, cm1, rfl, hb_w4⟩
        obtain ⟨hc_w4, hf_w4⟩ := bcell hb_w4; have hz_w4_w_0 : w.heap.size < w4.heap.size := (by have hzz := hb_w4.size; (try simp only [World.size_alloc, World.size_setCell, World.size_drew, World.heap_drewN] at hzz); omega); have hs_w4 := hb_w4.size; (try simp only [World.size_alloc, World.size_setCell, World.size_drew, World.heap_drewN] at hs_w4)
        go_wp2
        go_ret
        exact ⟨rfl, (by repeat (first | exact Below.refl _ _ | assumption | (refine below_drewN ?_ _) | (refine Below.drew ?_) | (refine Below.alloc ?_ (by first | omega | (simp; omega) | simp) _) | (refine Below.setCell ?_ (by first | omega | (simp; omega) | simp) _) | (refine below_trans ?_ (by assumption) (by first | omega | (simp; omega) | simp))))⟩
    · have d0 : decide (first < 0) = false := decide_eq_false q0
      have d1 : decide (1024 - p < first) = true := decide_eq_true (by unfold Placed at hPl; omega)
      clear hPl
      rcases HZ.out with rfl | ⟨rfl, rfl⟩
      all_goals
        go_enter Tryd.func3, Tryd.ntmps3
        go_wp2_with fail
        go_at_call 4
        refine (begins2_any _).mono ?_
        rintro e w1 ⟨rfl, hb_w1⟩
        obtain ⟨hc_w1, hf_w1⟩ := bcell hb_w1; have hz_w1_w_0 : w.heap.size < w1.heap.size := (by have hzz := hb_w1.size; (try simp only [World.size_alloc, World.size_setCell, World.size_drew, World.heap_drewN] at hzz); omega); have hs_w1 := hb_w1.size; (try simp only [World.size_alloc, World.size_setCell, World.size_drew, World.heap_drewN] at hs_w1)
        go_wp2_with fail
        go_at_call 5
        refine (HP.out _).mono ?_
        rintro e w2 ⟨rfl, hb_w2⟩
        obtain ⟨hc_w2, hf_w2⟩ := bcell hb_w2; have hz_w2_w_0 : w.heap.size < w2.heap.size := (by have hzz := hb_w2.size; (try simp only [World.size_alloc, World.size_setCell, World.size_drew, World.heap_drewN] at hzz); omega); have hs_w2 := hb_w2.size; (try simp only [World.size_alloc, World.size_setCell, World.size_drew, World.heap_drewN] at hs_w2)
        have Z2 := hs.later (show Below w.heap.size w w2 from (by repeat (first | exact Below.refl _ _ | assumption | (refine below_drewN ?_ _) | (refine Below.drew ?_) | (refine Below.alloc ?_ (by first | omega | (simp; omega) | simp) _) | (refine Below.setCell ?_ (by first | omega | (simp; omega) | simp) _) | (refine below_trans ?_ (by assumption) (by first | omega | (simp; omega) | simp)))))
        go_wp2_with fail
        go_at_call 6
        refine (HO.out _ Z2).mono ?_
        rintro e w0 ⟨rfl, rfl⟩
        go_wp2_with fail
        go_at_call 7
        refine (HS.out _ Z2).mono ?_
        rintro e w0 ⟨rfl, rfl⟩
        go_wp2_with fail
        go_at_call 8
        refine (HG.out _ Z2).mono ?_
        rintro e w0 ⟨rfl, rfl⟩

        go_wp2_with fail
        go_at_call 9
        refine (HM.out _).mono ?_
        rintro e w4 ⟨A1, ca1, M1, cm1, rfl, hb_w4⟩
        obtain ⟨hc_w4, hf_w4⟩ := bcell hb_w4; have hz_w4_w_0 : w.heap.size < w4.heap.size := (by have hzz := hb_w4.size; (try simp only [World.size_alloc, World.size_setCell, World.size_drew, World.heap_drewN] at hzz); omega); have hs_w4 := hb_w4.size; (try simp only [World.size_alloc, World.size_setCell, World.size_drew, World.heap_drewN] at hs_w4)
        go_wp2
        go_ret
        exact ⟨rfl, (by repeat (first | exact Below.refl _ _ | assumption | (refine below_drewN ?_ _) | (refine Below.drew ?_) | (refine Below.alloc ?_ (by first | omega | (simp; omega) | simp) _) | (refine Below.setCell ?_ (by first | omega | (simp; omega) | simp) _) | (refine below_trans ?_ (by assumption) (by first | omega | (simp; omega) | simp))))⟩
set_option maxRecDepth 100000 in
theorem topSlotted_walk (n : Int) (m : Nat) (first slot : Int) (hm : m < W64) (hf : -9223372036854775808 ≤ first ∧ first ≤ 9223372036854775807) (hsl : -9223372036854775808 ≤ slot ∧ slot ≤ 9223372036854775807) (w : World) (hs : Sizes w) :
    Calls Tryd.prog 3 #[.agg #[.int .i64 n, .int .u64 (m : Nat)], .int .i64 first, .int .i64 slot] w fun e w' => e = .returned (.bool true) ∧ Below w.heap.size w w' := by
  by_cases S : Sh n m
  · exact topSlotted_main n m first slot hm hf hsl w hs S
  · have HP := Lib.hid fun (w : World) => hpack_bad (w := w) hm S
    clear S
    go_enter Tryd.func3, Tryd.ntmps3
    go_wp2_with fail
    go_at_call 4
    refine (begins2_any _).mono ?_
    rintro e w1 ⟨rfl, hb_w1⟩
    obtain ⟨hc_w1, hf_w1⟩ := bcell hb_w1; have hz_w1_w_0 : w.heap.size < w1.heap.size := (by have hzz := hb_w1.size; (try simp only [World.size_alloc, World.size_setCell, World.size_drew, World.heap_drewN] at hzz); omega); have hs_w1 := hb_w1.size; (try simp only [World.size_alloc, World.size_setCell, World.size_drew, World.heap_drewN] at hs_w1)
    go_wp2_with fail
    go_at_call 5
    refine (HP.out _).mono ?_
    rintro e w2 ⟨rfl, hb_w2⟩
    obtain ⟨hc_w2, hf_w2⟩ := bcell hb_w2; have hz_w2_w_0 : w.heap.size < w2.heap.size := (by have hzz := hb_w2.size; (try simp only [World.size_alloc, World.size_setCell, World.size_drew, World.heap_drewN] at hzz); omega); have hs_w2 := hb_w2.size; (try simp only [World.size_alloc, World.size_setCell, World.size_drew, World.heap_drewN] at hs_w2)
    go_wp2
    go_ret
    exact ⟨rfl, (by repeat (first | exact Below.refl _ _ | assumption | (refine below_drewN ?_ _) | (refine Below.drew ?_) | (refine Below.alloc ?_ (by first | omega | (simp; omega) | simp) _) | (refine Below.setCell ?_ (by first | omega | (simp; omega) | simp) _) | (refine below_trans ?_ (by assumption) (by first | omega | (simp; omega) | simp))))⟩
end Go.Proofs.YtbefjhgegoginaaDoor
