/- Parts of the proof. -/
import Derived.Test.YtfhiibohgjbmbaaGreatDoorMM15
import Derived.Deep.RegionHeld3
set_option maxRecDepth 100000
set_option linter.unusedVariables false
set_option linter.unusedSimpArgs false
namespace Go.Proofs.YtfhiibohgjbmbaaGreatDoor
open Go.RowKit
section
variable {w : World} {A M : Option Addr} (ca cm : Nat)
set_option maxHeartbeats 16000000 in
theorem xright_zN (z : Int) (N : Nat) (hz : (z = 2 ∧ N = 8) ∨ (z = 4 ∧ N = 4) ∨ (z = 8 ∧ N = 2) ∨ (z = 16 ∧ N = 1)) (f an : Int) (aw : List Nat) (mn : Int) (mw : List Nat) (s : Bool) (hpl : Placed f 1) (hA : Row w w.heap.size A aw) (hM : Row w w.heap.size M mw) (b : Bool) (hb : b = true ↔ Rec ⟨f, 1, z, an, aw, mn, mw, s⟩) :
    Calls Tryz.prog 134 #[.agg #[.int .i64 f, .int .i64 1, .int .i64 z, .int .i64 an, .slice A aw.length ca, .int .i64 mn, .slice M mw.length cm, .bool s]] w fun e w' => e = .returned (.bool b) ∧ Below w.heap.size w w' := by
  unfold Placed at hpl
  obtain ⟨p0, p1⟩ := hpl
  have d1 : decide (f < 0) = false := decide_eq_false (by omega)
  have d2 : decide ((1024 : Int) - 1 < f) = false := decide_eq_false (by omega)
  have d5 : decide ((1023 : Int) < f) = false := decide_eq_false (by omega)
  have hslots : slotsOf z = (N : Int) := by rcases hz with ⟨rfl, rfl⟩ | ⟨rfl, rfl⟩ | ⟨rfl, rfl⟩ | ⟨rfl, rfl⟩ <;> decide
  have hN1 : 1 ≤ N := by omega
  have hN8 : N ≤ 8 := by omega
  unfold Rec at hb
  simp only [hslots, Int.toNat_natCast] at hb
  have HB := Lib.hid hb
  have HMY := Lib.hid fun (w : World) => xmany_any (w := w) (p := 1) (z := z) (by unfold Sized; omega)
  rw [hslots] at HMY
  clear hb
  have g0 : (z == (0 : Int)) = false := by rcases hz with ⟨rfl, _⟩ | ⟨rfl, _⟩ | ⟨rfl, _⟩ | ⟨rfl, _⟩ <;> rfl
  have key : ((z == (2 : Int)) = true) ∨ ((z == (2 : Int)) = false ∧ (z == (4 : Int)) = true) ∨ ((z == (2 : Int)) = false ∧ (z == (4 : Int)) = false ∧ (z == (8 : Int)) = true) ∨ ((z == (2 : Int)) = false ∧ (z == (4 : Int)) = false ∧ (z == (8 : Int)) = false ∧ (z == (16 : Int)) = true) := by
    rcases hz with ⟨rfl, _⟩ | ⟨rfl, _⟩ | ⟨rfl, _⟩ | ⟨rfl, _⟩ <;> decide
  clear hz hslots
  rcases key with g2 | ⟨g2, g4⟩ | ⟨g2, g4, g8⟩ | ⟨g2, g4, g8, g16⟩
  all_goals
    by_cases hra : Right an aw
    · have HRA := Lib.hid hra
      clear hra
      by_cases hrm : Right mn mw
      · have HRM := Lib.hid hrm
        clear hrm
        by_cases ha : an = N
        · subst ha
          by_cases hm : mn = N
          · subst hm
            have HSUB : Hid (b = true ↔ ∀ i, i < N → tb mw i = true → tb aw i = true) := Lib.hid ⟨fun h => (HB.out.1 h).2.2.2.2, fun h => HB.out.2 ⟨rfl, rfl, HRA.out, HRM.out, h⟩⟩
            have la : aw.length = 1 := by have := HRA.out.2.2.1; omega
            have lm : mw.length = 1 := by have := HRM.out.2.2.1; omega
            have HLA := Lib.hid la
            have HLM := Lib.hid lm
            clear la lm
            have HCA := Lib.hid fun (w : World) hr => rcheck_ok (n := N) (A := A) (ws := aw) (w := w) ca hr HRA.out
            have HCM := Lib.hid fun (w : World) hr => rcheck_ok (n := N) (A := M) (ws := mw) (w := w) cm hr HRM.out
            go_enter Tryz.func134, Tryz.ntmps134
            go_wp2_with fail
            refine wp_region_held_drew (S := (fun X : World => X.cell? ⟨w.heap.size, 0, none⟩ = some (.int .i64 f) ∧ X.cell? ⟨w.heap.size, 1, none⟩ = some (.int .i64 1) ∧ X.cell? ⟨w.heap.size, 2, none⟩ = some (.int .i64 z) ∧ X.cell? ⟨w.heap.size, 3, none⟩ = some (.int .i64 N) ∧ X.cell? ⟨w.heap.size, 4, none⟩ = some (.slice A aw.length ca) ∧ X.cell? ⟨w.heap.size, 5, none⟩ = some (.int .i64 N) ∧ X.cell? ⟨w.heap.size, 6, none⟩ = some (.slice M mw.length cm) ∧ X.cell? ⟨w.heap.size, 7, none⟩ = some (.bool s))) (by kernel_rfl) ?_ fun _ => ?_
            · exact kS
            refine tY 0 ?_
            try simp only [Act.put, qZ]
            refine tY 1 ?_
            try simp only [Act.put, qZ]
            refine tR 2 fun K hK => ?_
            try simp only [qZ]
            go_simp
            go_at_call 147
            refine (HCA.out _ (hA.later bX)).mono ?_
            rintro e w1 ⟨rfl, hb_w1⟩
            have hs_w1 := hb_w1.size
            (try simp only [zZ] at hs_w1)
            have mw10 : w1.cell? ⟨w.heap.size, 0, none⟩ = some (.int .i64 f) := cX hb_w1
            have mw11 : w1.cell? ⟨w.heap.size, 1, none⟩ = some (.int .i64 1) := cX hb_w1
            have mw12 : w1.cell? ⟨w.heap.size, 2, none⟩ = some (.int .i64 z) := cX hb_w1
            have mw13 : w1.cell? ⟨w.heap.size, 3, none⟩ = some (.int .i64 N) := cX hb_w1
            have mw14 : w1.cell? ⟨w.heap.size, 4, none⟩ = some (.slice A aw.length ca) := cX hb_w1
            have mw15 : w1.cell? ⟨w.heap.size, 5, none⟩ = some (.int .i64 N) := cX hb_w1
            have mw16 : w1.cell? ⟨w.heap.size, 6, none⟩ = some (.slice M mw.length cm) := cX hb_w1
            have mw17 : w1.cell? ⟨w.heap.size, 7, none⟩ = some (.bool s) := cX hb_w1
            try go_wp2_with fail
            refine hK.out _ _ ?_ fun _ => ?_
            · exact kS
            clear hK K
            try simp only [Act.put, qZ]
            refine tY 3 ?_
            try simp only [Act.put, qZ]
            refine tY 4 ?_
            try simp only [Act.put, qZ]
            refine tY 5 ?_
            try simp only [Act.put, qZ]
            refine tY 6 ?_
            try simp only [Act.put, qZ]
            refine tR 7 fun K hK => ?_
            try simp only [qZ]
            go_simp
            go_at_call 147
            refine (HCM.out _ (hM.later bX)).mono ?_
            rintro e w2 ⟨rfl, hb_w2⟩
            have hs_w2 := hb_w2.size
            (try simp only [zZ] at hs_w2)
            have mw20 : w2.cell? ⟨w.heap.size, 0, none⟩ = some (.int .i64 f) := cX hb_w2
            have mw21 : w2.cell? ⟨w.heap.size, 1, none⟩ = some (.int .i64 1) := cX hb_w2
            have mw22 : w2.cell? ⟨w.heap.size, 2, none⟩ = some (.int .i64 z) := cX hb_w2
            have mw23 : w2.cell? ⟨w.heap.size, 3, none⟩ = some (.int .i64 N) := cX hb_w2
            have mw24 : w2.cell? ⟨w.heap.size, 4, none⟩ = some (.slice A aw.length ca) := cX hb_w2
            have mw25 : w2.cell? ⟨w.heap.size, 5, none⟩ = some (.int .i64 N) := cX hb_w2
            have mw26 : w2.cell? ⟨w.heap.size, 6, none⟩ = some (.slice M mw.length cm) := cX hb_w2
            have mw27 : w2.cell? ⟨w.heap.size, 7, none⟩ = some (.bool s) := cX hb_w2
            try go_wp2_with fail
            refine hK.out _ _ ?_ fun _ => ?_
            · exact kS
            clear hK K
            try simp only [Act.put, qZ]
            refine tY 8 ?_
            try simp only [Act.put, qZ]
            refine tR 9 fun K hK => ?_
            try simp only [qZ]
            go_simp
            refine hK.out _ _ ?_ fun _ => ?_
            · exact kS
            clear hK K
            try simp only [Act.put, qZ]
            refine tY 10 ?_
            try simp only [Act.put, qZ]
            refine tY 11 ?_
            try simp only [Act.put, qZ]
            refine tY 12 ?_
            try simp only [Act.put, qZ]
            refine tY 13 ?_
            try simp only [Act.put, qZ]
            refine tY 14 ?_
            try simp only [Act.put, qZ]
            refine tY 15 ?_
            try simp only [Act.put, qZ]
            refine tR 16 fun K hK => ?_
            try simp only [qZ]
            go_simp
            go_at_call 128
            refine (HMY.out _).mono ?_
            rintro e w0 ⟨rfl, rfl⟩
            try go_wp2_with fail
            refine hK.out _ _ ?_ fun _ => ?_
            · exact kS
            clear hK K
            try simp only [Act.put, qZ]
            refine tY 17 ?_
            try simp only [Act.put, qZ]
            refine tR 18 fun K hK => ?_
            try simp only [qZ]
            go_simp
            refine hK.out _ _ ?_ fun _ => ?_
            · exact kS
            clear hK K
            try simp only [Act.put, qZ]
            refine tY 19 ?_
            try simp only [Act.put, qZ]
            refine tY 20 ?_
            try simp only [Act.put, qZ]
            refine tY 21 ?_
            try simp only [Act.put, qZ]
            refine tY 22 ?_
            try simp only [Act.put, qZ]
            refine tY 23 ?_
            try simp only [Act.put, qZ]
            refine tY 24 ?_
            try simp only [Act.put, qZ]
            refine tR 25 fun K hK => ?_
            try simp only [qZ]
            go_simp
            go_at_call 128
            refine (HMY.out _).mono ?_
            rintro e w0 ⟨rfl, rfl⟩
            try go_wp2_with fail
            refine hK.out _ _ ?_ fun _ => ?_
            · exact kS
            clear hK K
            try simp only [Act.put, qZ]
            refine tY 26 ?_
            try simp only [Act.put, qZ]
            refine tR 27 fun K hK => ?_
            try simp only [qZ]
            go_simp
            refine hK.out _ _ ?_ fun _ => ?_
            · exact kS
            clear hK K
            try simp only [Act.put, qZ]
            refine wpAnyH_done (by kernel_rfl) ?_ _
            go_wp2_with fail
            go_loopw [5] (fun ii wr => ∃ k : Nat, ii = .int .i64 (k : Nat) ∧ k ≤ N ∧ Hid (∀ i, i < k → tb mw i = true → tb aw i = true) ∧ wr.cell? ⟨w.heap.size, 3, none⟩ = some (.int .i64 N) ∧ wr.cell? ⟨w.heap.size, 4, none⟩ = some (.slice A aw.length ca) ∧ wr.cell? ⟨w.heap.size, 5, none⟩ = some (.int .i64 N) ∧ wr.cell? ⟨w.heap.size, 6, none⟩ = some (.slice M mw.length cm) ∧ w.heap.size + 1 ≤ wr.heap.size ∧ Below w.heap.size w wr) (fun ii _ => N - (intOf ii).toNat)
            case atStart => exact ⟨0, rfl, by omega, Lib.hid (fun i hi => by omega), by first | assumption | (simp; assumption), by first | assumption | (simp; assumption), by first | assumption | (simp; assumption), by first | assumption | (simp; assumption), lX, bX⟩
            case round =>
              obtain ⟨k, rfl, hk, hS, q3, q4, q5, q6, hsz, hb_wr⟩ := hrel
              have hsr := hb_wr.size
              have rA := hA.later hb_wr
              have rM := hM.later hb_wr
              by_cases hlt : k < N
              · have i1 : (k : Int) < N := by omega
                obtain ⟨bm, hbm⟩ : ∃ x, Hid (tb mw k = x) := ⟨_, rfl⟩
                obtain ⟨ba, hba⟩ : ∃ x, Hid (tb aw k = x) := ⟨_, rfl⟩
                have HIM := Lib.hid fun (w : World) hr => is_any (A := M) (ws := mw) (w := w) (k : Nat) N cm hr (by omega) (by rw [HLM.out]; omega) (by rw [HLM.out]; omega)
                have HIA := Lib.hid fun (w : World) hr => is_any (A := A) (ws := aw) (w := w) (k : Nat) N ca hr (by omega) (by rw [HLA.out]; omega) (by rw [HLA.out]; omega)
                simp only [Int.toNat_natCast] at HIM HIA
                rw [hbm.out] at HIM
                rw [hba.out] at HIA
                cases bm
                · go_wp2_with (go_at_call 86; refine (HIM.out _ (rM.later bX)).mono ?_; rintro e w5 ⟨rfl, hb_w5⟩; have hs5 := hb_w5.size)
                  go_roundw
                  case rel => exact ⟨k + 1, by go_num, by omega, Lib.hid (fun i hi h => by
                      by_cases e : i = k
                      · subst e; rw [hbm.out] at h; cases h
                      · exact hS.out i (by omega) h), (hb_w5.cell lX).trans q3, (hb_w5.cell lX).trans q4, (hb_w5.cell lX).trans q5, (hb_w5.cell lX).trans q6, lX, bX⟩
                  case measure => simp [intOf]; omega
                · cases ba
                  · obtain rfl : b = false := by
                      cases b
                      · rfl
                      · have := HSUB.out.1 rfl k hlt hbm.out
                        rw [hba.out] at this
                        cases this
                    go_wp2_with fail
                    go_at_call 86
                    refine (HIM.out _ (rM.later bX)).mono ?_
                    rintro e w5 ⟨rfl, hb_w5⟩
                    have hs5 := hb_w5.size
                    have x3 := (hb_w5.cell lX).trans q3
                    have x4 := (hb_w5.cell lX).trans q4
                    go_wp2_with fail
                    go_at_call 86
                    refine (HIA.out _ ((rA.later hb_w5).later bX)).mono ?_
                    rintro e w6 ⟨rfl, hb_w6⟩
                    have hs6 := hb_w6.size
                    go_wp2
                    go_ret
                    exact ⟨rfl, bX⟩
                  · go_wp2_with fail
                    go_at_call 86
                    refine (HIM.out _ (rM.later bX)).mono ?_
                    rintro e w5 ⟨rfl, hb_w5⟩
                    have hs5 := hb_w5.size
                    have x3 := (hb_w5.cell lX).trans q3
                    have x4 := (hb_w5.cell lX).trans q4
                    have x5 := (hb_w5.cell lX).trans q5
                    have x6 := (hb_w5.cell lX).trans q6
                    go_wp2_with fail
                    go_at_call 86
                    refine (HIA.out _ ((rA.later hb_w5).later bX)).mono ?_
                    rintro e w6 ⟨rfl, hb_w6⟩
                    have hs6 := hb_w6.size
                    go_wp2
                    go_roundw
                    case rel => exact ⟨k + 1, by go_num, by omega, Lib.hid (fun i hi h => by
                        by_cases e : i = k
                        · subst e; exact hba.out
                        · exact hS.out i (by omega) h), (hb_w6.cell lX).trans x3, (hb_w6.cell lX).trans x4, (hb_w6.cell lX).trans x5, (hb_w6.cell lX).trans x6, lX, bX⟩
                    case measure => simp [intOf]; omega
              · obtain rfl : k = N := by omega
                obtain rfl : b = true := HSUB.out.2 hS.out
                go_wp2
                go_ret
                exact ⟨rfl, bX⟩
          · have HNE := Lib.hid hm
            have nm : (mn != N) = true := by simpa using hm
            clear hm
            obtain rfl : b = false := by
              cases b
              · rfl
              · exact absurd (HB.out.1 rfl).2.1 HNE.out
            have HCA := Lib.hid fun (w : World) hr => rcheck_ok (n := N) (A := A) (ws := aw) (w := w) ca hr HRA.out
            have HCM := Lib.hid fun (w : World) hr => rcheck_ok (n := mn) (A := M) (ws := mw) (w := w) cm hr HRM.out
            go_enter Tryz.func134, Tryz.ntmps134
            go_wp2_with fail
            refine wp_region_held_drew (S := (fun X : World => X.cell? ⟨w.heap.size, 0, none⟩ = some (.int .i64 f) ∧ X.cell? ⟨w.heap.size, 1, none⟩ = some (.int .i64 1) ∧ X.cell? ⟨w.heap.size, 2, none⟩ = some (.int .i64 z) ∧ X.cell? ⟨w.heap.size, 3, none⟩ = some (.int .i64 N) ∧ X.cell? ⟨w.heap.size, 4, none⟩ = some (.slice A aw.length ca) ∧ X.cell? ⟨w.heap.size, 5, none⟩ = some (.int .i64 mn) ∧ X.cell? ⟨w.heap.size, 6, none⟩ = some (.slice M mw.length cm) ∧ X.cell? ⟨w.heap.size, 7, none⟩ = some (.bool s))) (by kernel_rfl) ?_ fun _ => ?_
            · exact kS
            refine tY 0 ?_
            try simp only [Act.put, qZ]
            refine tY 1 ?_
            try simp only [Act.put, qZ]
            refine tR 2 fun K hK => ?_
            try simp only [qZ]
            go_simp
            go_at_call 147
            refine (HCA.out _ (hA.later bX)).mono ?_
            rintro e w1 ⟨rfl, hb_w1⟩
            have hs_w1 := hb_w1.size
            (try simp only [zZ] at hs_w1)
            have mw10 : w1.cell? ⟨w.heap.size, 0, none⟩ = some (.int .i64 f) := cX hb_w1
            have mw11 : w1.cell? ⟨w.heap.size, 1, none⟩ = some (.int .i64 1) := cX hb_w1
            have mw12 : w1.cell? ⟨w.heap.size, 2, none⟩ = some (.int .i64 z) := cX hb_w1
            have mw13 : w1.cell? ⟨w.heap.size, 3, none⟩ = some (.int .i64 N) := cX hb_w1
            have mw14 : w1.cell? ⟨w.heap.size, 4, none⟩ = some (.slice A aw.length ca) := cX hb_w1
            have mw15 : w1.cell? ⟨w.heap.size, 5, none⟩ = some (.int .i64 mn) := cX hb_w1
            have mw16 : w1.cell? ⟨w.heap.size, 6, none⟩ = some (.slice M mw.length cm) := cX hb_w1
            have mw17 : w1.cell? ⟨w.heap.size, 7, none⟩ = some (.bool s) := cX hb_w1
            try go_wp2_with fail
            refine hK.out _ _ ?_ fun _ => ?_
            · exact kS
            clear hK K
            try simp only [Act.put, qZ]
            refine tY 3 ?_
            try simp only [Act.put, qZ]
            refine tY 4 ?_
            try simp only [Act.put, qZ]
            refine tY 5 ?_
            try simp only [Act.put, qZ]
            refine tY 6 ?_
            try simp only [Act.put, qZ]
            refine tR 7 fun K hK => ?_
            try simp only [qZ]
            go_simp
            go_at_call 147
            refine (HCM.out _ (hM.later bX)).mono ?_
            rintro e w2 ⟨rfl, hb_w2⟩
            have hs_w2 := hb_w2.size
            (try simp only [zZ] at hs_w2)
            have mw20 : w2.cell? ⟨w.heap.size, 0, none⟩ = some (.int .i64 f) := cX hb_w2
            have mw21 : w2.cell? ⟨w.heap.size, 1, none⟩ = some (.int .i64 1) := cX hb_w2
            have mw22 : w2.cell? ⟨w.heap.size, 2, none⟩ = some (.int .i64 z) := cX hb_w2
            have mw23 : w2.cell? ⟨w.heap.size, 3, none⟩ = some (.int .i64 N) := cX hb_w2
            have mw24 : w2.cell? ⟨w.heap.size, 4, none⟩ = some (.slice A aw.length ca) := cX hb_w2
            have mw25 : w2.cell? ⟨w.heap.size, 5, none⟩ = some (.int .i64 mn) := cX hb_w2
            have mw26 : w2.cell? ⟨w.heap.size, 6, none⟩ = some (.slice M mw.length cm) := cX hb_w2
            have mw27 : w2.cell? ⟨w.heap.size, 7, none⟩ = some (.bool s) := cX hb_w2
            try go_wp2_with fail
            refine hK.out _ _ ?_ fun _ => ?_
            · exact kS
            clear hK K
            try simp only [Act.put, qZ]
            refine tY 8 ?_
            try simp only [Act.put, qZ]
            refine tR 9 fun K hK => ?_
            try simp only [qZ]
            go_simp
            refine hK.out _ _ ?_ fun _ => ?_
            · exact kS
            clear hK K
            try simp only [Act.put, qZ]
            refine tY 10 ?_
            try simp only [Act.put, qZ]
            refine tY 11 ?_
            try simp only [Act.put, qZ]
            refine tY 12 ?_
            try simp only [Act.put, qZ]
            refine tY 13 ?_
            try simp only [Act.put, qZ]
            refine tY 14 ?_
            try simp only [Act.put, qZ]
            refine tY 15 ?_
            try simp only [Act.put, qZ]
            refine tR 16 fun K hK => ?_
            try simp only [qZ]
            go_simp
            go_at_call 128
            refine (HMY.out _).mono ?_
            rintro e w0 ⟨rfl, rfl⟩
            try go_wp2_with fail
            refine hK.out _ _ ?_ fun _ => ?_
            · exact kS
            clear hK K
            try simp only [Act.put, qZ]
            refine tY 17 ?_
            try simp only [Act.put, qZ]
            refine tR 18 fun K hK => ?_
            try simp only [qZ]
            go_simp
            refine hK.out _ _ ?_ fun _ => ?_
            · exact kS
            clear hK K
            try simp only [Act.put, qZ]
            refine tY 19 ?_
            try simp only [Act.put, qZ]
            refine tY 20 ?_
            try simp only [Act.put, qZ]
            refine tY 21 ?_
            try simp only [Act.put, qZ]
            refine tY 22 ?_
            try simp only [Act.put, qZ]
            refine tY 23 ?_
            try simp only [Act.put, qZ]
            refine tY 24 ?_
            try simp only [Act.put, qZ]
            refine tR 25 fun K hK => ?_
            try simp only [qZ]
            go_simp
            go_at_call 128
            refine (HMY.out _).mono ?_
            rintro e w0 ⟨rfl, rfl⟩
            try go_wp2_with fail
            refine hK.out _ _ ?_ fun _ => ?_
            · exact kS
            clear hK K
            try simp only [Act.put, qZ]
            refine tY 26 ?_
            try simp only [Act.put, qZ]
            refine tR 27 fun K hK => ?_
            try simp only [qZ]
            go_simp
            refine hK.out _ _ ?_ fun _ => ?_
            · exact kS
            clear hK K
            try simp only [Act.put, qZ]
            refine wpAnyH_done (by kernel_rfl) ?_ _
            go_wp2
            go_ret
            exact ⟨rfl, bX⟩
        · have HNE := Lib.hid ha
          have nm : (an != N) = true := by simpa using ha
          clear ha
          obtain rfl : b = false := by
            cases b
            · rfl
            · exact absurd (HB.out.1 rfl).1 HNE.out
          have HCA := Lib.hid fun (w : World) hr => rcheck_ok (n := an) (A := A) (ws := aw) (w := w) ca hr HRA.out
          have HCM := Lib.hid fun (w : World) hr => rcheck_ok (n := mn) (A := M) (ws := mw) (w := w) cm hr HRM.out
          go_enter Tryz.func134, Tryz.ntmps134
          go_wp2_with fail
          refine wp_region_held_drew (S := (fun X : World => X.cell? ⟨w.heap.size, 0, none⟩ = some (.int .i64 f) ∧ X.cell? ⟨w.heap.size, 1, none⟩ = some (.int .i64 1) ∧ X.cell? ⟨w.heap.size, 2, none⟩ = some (.int .i64 z) ∧ X.cell? ⟨w.heap.size, 3, none⟩ = some (.int .i64 an) ∧ X.cell? ⟨w.heap.size, 4, none⟩ = some (.slice A aw.length ca) ∧ X.cell? ⟨w.heap.size, 5, none⟩ = some (.int .i64 mn) ∧ X.cell? ⟨w.heap.size, 6, none⟩ = some (.slice M mw.length cm) ∧ X.cell? ⟨w.heap.size, 7, none⟩ = some (.bool s))) (by kernel_rfl) ?_ fun _ => ?_
          · exact kS
          refine tY 0 ?_
          try simp only [Act.put, qZ]
          refine tY 1 ?_
          try simp only [Act.put, qZ]
          refine tR 2 fun K hK => ?_
          try simp only [qZ]
          go_simp
          go_at_call 147
          refine (HCA.out _ (hA.later bX)).mono ?_
          rintro e w1 ⟨rfl, hb_w1⟩
          have hs_w1 := hb_w1.size
          (try simp only [zZ] at hs_w1)
          have mw10 : w1.cell? ⟨w.heap.size, 0, none⟩ = some (.int .i64 f) := cX hb_w1
          have mw11 : w1.cell? ⟨w.heap.size, 1, none⟩ = some (.int .i64 1) := cX hb_w1
          have mw12 : w1.cell? ⟨w.heap.size, 2, none⟩ = some (.int .i64 z) := cX hb_w1
          have mw13 : w1.cell? ⟨w.heap.size, 3, none⟩ = some (.int .i64 an) := cX hb_w1
          have mw14 : w1.cell? ⟨w.heap.size, 4, none⟩ = some (.slice A aw.length ca) := cX hb_w1
          have mw15 : w1.cell? ⟨w.heap.size, 5, none⟩ = some (.int .i64 mn) := cX hb_w1
          have mw16 : w1.cell? ⟨w.heap.size, 6, none⟩ = some (.slice M mw.length cm) := cX hb_w1
          have mw17 : w1.cell? ⟨w.heap.size, 7, none⟩ = some (.bool s) := cX hb_w1
          try go_wp2_with fail
          refine hK.out _ _ ?_ fun _ => ?_
          · exact kS
          clear hK K
          try simp only [Act.put, qZ]
          refine tY 3 ?_
          try simp only [Act.put, qZ]
          refine tY 4 ?_
          try simp only [Act.put, qZ]
          refine tY 5 ?_
          try simp only [Act.put, qZ]
          refine tY 6 ?_
          try simp only [Act.put, qZ]
          refine tR 7 fun K hK => ?_
          try simp only [qZ]
          go_simp
          go_at_call 147
          refine (HCM.out _ (hM.later bX)).mono ?_
          rintro e w2 ⟨rfl, hb_w2⟩
          have hs_w2 := hb_w2.size
          (try simp only [zZ] at hs_w2)
          have mw20 : w2.cell? ⟨w.heap.size, 0, none⟩ = some (.int .i64 f) := cX hb_w2
          have mw21 : w2.cell? ⟨w.heap.size, 1, none⟩ = some (.int .i64 1) := cX hb_w2
          have mw22 : w2.cell? ⟨w.heap.size, 2, none⟩ = some (.int .i64 z) := cX hb_w2
          have mw23 : w2.cell? ⟨w.heap.size, 3, none⟩ = some (.int .i64 an) := cX hb_w2
          have mw24 : w2.cell? ⟨w.heap.size, 4, none⟩ = some (.slice A aw.length ca) := cX hb_w2
          have mw25 : w2.cell? ⟨w.heap.size, 5, none⟩ = some (.int .i64 mn) := cX hb_w2
          have mw26 : w2.cell? ⟨w.heap.size, 6, none⟩ = some (.slice M mw.length cm) := cX hb_w2
          have mw27 : w2.cell? ⟨w.heap.size, 7, none⟩ = some (.bool s) := cX hb_w2
          try go_wp2_with fail
          refine hK.out _ _ ?_ fun _ => ?_
          · exact kS
          clear hK K
          try simp only [Act.put, qZ]
          refine tY 8 ?_
          try simp only [Act.put, qZ]
          refine tR 9 fun K hK => ?_
          try simp only [qZ]
          go_simp
          refine hK.out _ _ ?_ fun _ => ?_
          · exact kS
          clear hK K
          try simp only [Act.put, qZ]
          refine tY 10 ?_
          try simp only [Act.put, qZ]
          refine tY 11 ?_
          try simp only [Act.put, qZ]
          refine tY 12 ?_
          try simp only [Act.put, qZ]
          refine tY 13 ?_
          try simp only [Act.put, qZ]
          refine tY 14 ?_
          try simp only [Act.put, qZ]
          refine tY 15 ?_
          try simp only [Act.put, qZ]
          refine tR 16 fun K hK => ?_
          try simp only [qZ]
          go_simp
          go_at_call 128
          refine (HMY.out _).mono ?_
          rintro e w0 ⟨rfl, rfl⟩
          try go_wp2_with fail
          refine hK.out _ _ ?_ fun _ => ?_
          · exact kS
          clear hK K
          try simp only [Act.put, qZ]
          refine tY 17 ?_
          try simp only [Act.put, qZ]
          refine tR 18 fun K hK => ?_
          try simp only [qZ]
          go_simp
          refine hK.out _ _ ?_ fun _ => ?_
          · exact kS
          clear hK K
          try simp only [Act.put, qZ]
          refine tY 19 ?_
          try simp only [Act.put, qZ]
          refine tN 20 ?_
          try simp only [Act.put, qZ]
          refine tN 21 ?_
          try simp only [Act.put, qZ]
          refine tN 22 ?_
          try simp only [Act.put, qZ]
          refine tN 23 ?_
          try simp only [Act.put, qZ]
          refine tN 24 ?_
          try simp only [Act.put, qZ]
          refine tN 25 ?_
          try simp only [Act.put, qZ]
          refine tN 26 ?_
          try simp only [Act.put, qZ]
          refine tR 27 fun K hK => ?_
          try simp only [qZ]
          go_simp
          refine hK.out _ _ ?_ fun _ => ?_
          · exact kS
          clear hK K
          try simp only [Act.put, qZ]
          refine wpAnyH_done (by kernel_rfl) ?_ _
          go_wp2
          go_ret
          exact ⟨rfl, bX⟩
      · have HRM := Lib.hid hrm
        clear hrm
        obtain rfl : b = false := by
          cases b
          · rfl
          · exact absurd (HB.out.1 rfl).2.2.2.1 HRM.out
        have HCA := Lib.hid fun (w : World) hr => rcheck_ok (n := an) (A := A) (ws := aw) (w := w) ca hr HRA.out
        have HCM := Lib.hid fun (w : World) hr => rcheck_bad (n := mn) (A := M) (ws := mw) (w := w) cm hr HRM.out
        go_enter Tryz.func134, Tryz.ntmps134
        go_wp2_with fail
        refine wp_region_held_drew (S := (fun X : World => X.cell? ⟨w.heap.size, 0, none⟩ = some (.int .i64 f) ∧ X.cell? ⟨w.heap.size, 1, none⟩ = some (.int .i64 1) ∧ X.cell? ⟨w.heap.size, 2, none⟩ = some (.int .i64 z) ∧ X.cell? ⟨w.heap.size, 3, none⟩ = some (.int .i64 an) ∧ X.cell? ⟨w.heap.size, 4, none⟩ = some (.slice A aw.length ca) ∧ X.cell? ⟨w.heap.size, 5, none⟩ = some (.int .i64 mn) ∧ X.cell? ⟨w.heap.size, 6, none⟩ = some (.slice M mw.length cm) ∧ X.cell? ⟨w.heap.size, 7, none⟩ = some (.bool s))) (by kernel_rfl) ?_ fun _ => ?_
        · exact kS
        refine tY 0 ?_
        try simp only [Act.put, qZ]
        refine tY 1 ?_
        try simp only [Act.put, qZ]
        refine tR 2 fun K hK => ?_
        try simp only [qZ]
        go_simp
        go_at_call 147
        refine (HCA.out _ (hA.later bX)).mono ?_
        rintro e w1 ⟨rfl, hb_w1⟩
        have hs_w1 := hb_w1.size
        (try simp only [zZ] at hs_w1)
        have mw10 : w1.cell? ⟨w.heap.size, 0, none⟩ = some (.int .i64 f) := cX hb_w1
        have mw11 : w1.cell? ⟨w.heap.size, 1, none⟩ = some (.int .i64 1) := cX hb_w1
        have mw12 : w1.cell? ⟨w.heap.size, 2, none⟩ = some (.int .i64 z) := cX hb_w1
        have mw13 : w1.cell? ⟨w.heap.size, 3, none⟩ = some (.int .i64 an) := cX hb_w1
        have mw14 : w1.cell? ⟨w.heap.size, 4, none⟩ = some (.slice A aw.length ca) := cX hb_w1
        have mw15 : w1.cell? ⟨w.heap.size, 5, none⟩ = some (.int .i64 mn) := cX hb_w1
        have mw16 : w1.cell? ⟨w.heap.size, 6, none⟩ = some (.slice M mw.length cm) := cX hb_w1
        have mw17 : w1.cell? ⟨w.heap.size, 7, none⟩ = some (.bool s) := cX hb_w1
        try go_wp2_with fail
        refine hK.out _ _ ?_ fun _ => ?_
        · exact kS
        clear hK K
        try simp only [Act.put, qZ]
        refine tY 3 ?_
        try simp only [Act.put, qZ]
        refine tY 4 ?_
        try simp only [Act.put, qZ]
        refine tY 5 ?_
        try simp only [Act.put, qZ]
        refine tY 6 ?_
        try simp only [Act.put, qZ]
        refine tR 7 fun K hK => ?_
        try simp only [qZ]
        go_simp
        go_at_call 147
        refine (HCM.out _ (hM.later bX)).mono ?_
        rintro e w2 ⟨rfl, hb_w2⟩
        have hs_w2 := hb_w2.size
        (try simp only [zZ] at hs_w2)
        have mw20 : w2.cell? ⟨w.heap.size, 0, none⟩ = some (.int .i64 f) := cX hb_w2
        have mw21 : w2.cell? ⟨w.heap.size, 1, none⟩ = some (.int .i64 1) := cX hb_w2
        have mw22 : w2.cell? ⟨w.heap.size, 2, none⟩ = some (.int .i64 z) := cX hb_w2
        have mw23 : w2.cell? ⟨w.heap.size, 3, none⟩ = some (.int .i64 an) := cX hb_w2
        have mw24 : w2.cell? ⟨w.heap.size, 4, none⟩ = some (.slice A aw.length ca) := cX hb_w2
        have mw25 : w2.cell? ⟨w.heap.size, 5, none⟩ = some (.int .i64 mn) := cX hb_w2
        have mw26 : w2.cell? ⟨w.heap.size, 6, none⟩ = some (.slice M mw.length cm) := cX hb_w2
        have mw27 : w2.cell? ⟨w.heap.size, 7, none⟩ = some (.bool s) := cX hb_w2
        try go_wp2_with fail
        refine hK.out _ _ ?_ fun _ => ?_
        · exact kS
        clear hK K
        try simp only [Act.put, qZ]
        refine tY 8 ?_
        try simp only [Act.put, qZ]
        refine tR 9 fun K hK => ?_
        try simp only [qZ]
        go_simp
        refine hK.out _ _ ?_ fun _ => ?_
        · exact kS
        clear hK K
        try simp only [Act.put, qZ]
        refine tY 10 ?_
        try simp only [Act.put, qZ]
        refine tN 11 ?_
        try simp only [Act.put, qZ]
        refine tN 12 ?_
        try simp only [Act.put, qZ]
        refine tN 13 ?_
        try simp only [Act.put, qZ]
        refine tN 14 ?_
        try simp only [Act.put, qZ]
        refine tN 15 ?_
        try simp only [Act.put, qZ]
        refine tN 16 ?_
        try simp only [Act.put, qZ]
        refine tN 17 ?_
        try simp only [Act.put, qZ]
        refine tR 18 fun K hK => ?_
        try simp only [qZ]
        go_simp
        refine hK.out _ _ ?_ fun _ => ?_
        · exact kS
        clear hK K
        try simp only [Act.put, qZ]
        refine tY 19 ?_
        try simp only [Act.put, qZ]
        refine tN 20 ?_
        try simp only [Act.put, qZ]
        refine tN 21 ?_
        try simp only [Act.put, qZ]
        refine tN 22 ?_
        try simp only [Act.put, qZ]
        refine tN 23 ?_
        try simp only [Act.put, qZ]
        refine tN 24 ?_
        try simp only [Act.put, qZ]
        refine tN 25 ?_
        try simp only [Act.put, qZ]
        refine tN 26 ?_
        try simp only [Act.put, qZ]
        refine tR 27 fun K hK => ?_
        try simp only [qZ]
        go_simp
        refine hK.out _ _ ?_ fun _ => ?_
        · exact kS
        clear hK K
        try simp only [Act.put, qZ]
        refine wpAnyH_done (by kernel_rfl) ?_ _
        go_wp2
        go_ret
        exact ⟨rfl, bX⟩
    · have HRA := Lib.hid hra
      clear hra
      obtain rfl : b = false := by
        cases b
        · rfl
        · exact absurd (HB.out.1 rfl).2.2.1 HRA.out
      have HCA := Lib.hid fun (w : World) hr => rcheck_bad (n := an) (A := A) (ws := aw) (w := w) ca hr HRA.out
      go_enter Tryz.func134, Tryz.ntmps134
      go_wp2_with fail
      refine wp_region_held_drew (S := (fun X : World => X.cell? ⟨w.heap.size, 0, none⟩ = some (.int .i64 f) ∧ X.cell? ⟨w.heap.size, 1, none⟩ = some (.int .i64 1) ∧ X.cell? ⟨w.heap.size, 2, none⟩ = some (.int .i64 z) ∧ X.cell? ⟨w.heap.size, 3, none⟩ = some (.int .i64 an) ∧ X.cell? ⟨w.heap.size, 4, none⟩ = some (.slice A aw.length ca) ∧ X.cell? ⟨w.heap.size, 5, none⟩ = some (.int .i64 mn) ∧ X.cell? ⟨w.heap.size, 6, none⟩ = some (.slice M mw.length cm) ∧ X.cell? ⟨w.heap.size, 7, none⟩ = some (.bool s))) (by kernel_rfl) ?_ fun _ => ?_
      · exact kS
      refine tY 0 ?_
      try simp only [Act.put, qZ]
      refine tY 1 ?_
      try simp only [Act.put, qZ]
      refine tR 2 fun K hK => ?_
      try simp only [qZ]
      go_simp
      go_at_call 147
      refine (HCA.out _ (hA.later bX)).mono ?_
      rintro e w1 ⟨rfl, hb_w1⟩
      have hs_w1 := hb_w1.size
      (try simp only [zZ] at hs_w1)
      have mw10 : w1.cell? ⟨w.heap.size, 0, none⟩ = some (.int .i64 f) := cX hb_w1
      have mw11 : w1.cell? ⟨w.heap.size, 1, none⟩ = some (.int .i64 1) := cX hb_w1
      have mw12 : w1.cell? ⟨w.heap.size, 2, none⟩ = some (.int .i64 z) := cX hb_w1
      have mw13 : w1.cell? ⟨w.heap.size, 3, none⟩ = some (.int .i64 an) := cX hb_w1
      have mw14 : w1.cell? ⟨w.heap.size, 4, none⟩ = some (.slice A aw.length ca) := cX hb_w1
      have mw15 : w1.cell? ⟨w.heap.size, 5, none⟩ = some (.int .i64 mn) := cX hb_w1
      have mw16 : w1.cell? ⟨w.heap.size, 6, none⟩ = some (.slice M mw.length cm) := cX hb_w1
      have mw17 : w1.cell? ⟨w.heap.size, 7, none⟩ = some (.bool s) := cX hb_w1
      try go_wp2_with fail
      refine hK.out _ _ ?_ fun _ => ?_
      · exact kS
      clear hK K
      try simp only [Act.put, qZ]
      refine tY 3 ?_
      try simp only [Act.put, qZ]
      refine tY 4 ?_
      try simp only [Act.put, qZ]
      refine tN 5 ?_
      try simp only [Act.put, qZ]
      refine tN 6 ?_
      try simp only [Act.put, qZ]
      refine tN 7 ?_
      try simp only [Act.put, qZ]
      refine tN 8 ?_
      try simp only [Act.put, qZ]
      refine tR 9 fun K hK => ?_
      try simp only [qZ]
      go_simp
      refine hK.out _ _ ?_ fun _ => ?_
      · exact kS
      clear hK K
      try simp only [Act.put, qZ]
      refine tY 10 ?_
      try simp only [Act.put, qZ]
      refine tN 11 ?_
      try simp only [Act.put, qZ]
      refine tN 12 ?_
      try simp only [Act.put, qZ]
      refine tN 13 ?_
      try simp only [Act.put, qZ]
      refine tN 14 ?_
      try simp only [Act.put, qZ]
      refine tN 15 ?_
      try simp only [Act.put, qZ]
      refine tN 16 ?_
      try simp only [Act.put, qZ]
      refine tN 17 ?_
      try simp only [Act.put, qZ]
      refine tR 18 fun K hK => ?_
      try simp only [qZ]
      go_simp
      refine hK.out _ _ ?_ fun _ => ?_
      · exact kS
      clear hK K
      try simp only [Act.put, qZ]
      refine tY 19 ?_
      try simp only [Act.put, qZ]
      refine tN 20 ?_
      try simp only [Act.put, qZ]
      refine tN 21 ?_
      try simp only [Act.put, qZ]
      refine tN 22 ?_
      try simp only [Act.put, qZ]
      refine tN 23 ?_
      try simp only [Act.put, qZ]
      refine tN 24 ?_
      try simp only [Act.put, qZ]
      refine tN 25 ?_
      try simp only [Act.put, qZ]
      refine tN 26 ?_
      try simp only [Act.put, qZ]
      refine tR 27 fun K hK => ?_
      try simp only [qZ]
      go_simp
      refine hK.out _ _ ?_ fun _ => ?_
      · exact kS
      clear hK K
      try simp only [Act.put, qZ]
      refine wpAnyH_done (by kernel_rfl) ?_ _
      go_wp2
      go_ret
      exact ⟨rfl, bX⟩
end
end Go.Proofs.YtfhiibohgjbmbaaGreatDoor
