/- Parts of the proof. -/
import Derived.Test.YtfhiibohgjbmbaaGreatDoorMM16
import Derived.Test.YtfhiibohgjbmbaaGreatDoorMM21
import Derived.Deep.RegionHeld3
import Derived.Deep.AppendSrc
import Derived.Lib.AppendZerosOnto
set_option maxRecDepth 100000
set_option linter.unusedVariables false
set_option linter.unusedSimpArgs false
namespace Go.Proofs.YtfhiibohgjbmbaaGreatDoor
open Go.RowKit
section
variable {w : World} {A M : Option Addr} (ca cm : Nat)
theorem xright_unsized (f p z an : Int) (aw : List Nat) (mn : Int) (mw : List Nat) (s : Bool) (h : ¬ Sized p z) : Calls Tryz.prog 134 #[.agg #[.int .i64 f, .int .i64 p, .int .i64 z, .int .i64 an, .slice A aw.length ca, .int .i64 mn, .slice M mw.length cm, .bool s]] w fun e w' => e = .returned (.bool false) ∧ Below w.heap.size w w' := by
  by_cases h0 : z = 0
  · subst h0
    by_cases h2 : 2 ≤ p
    · have d2 : decide (2 ≤ p) = true := decide_eq_true h2
      have d4 : decide (p ≤ 4) = false := decide_eq_false (fun h4 => h (.inr ⟨rfl, h2, h4⟩))
      clear h
      go_enter Tryz.func134, Tryz.ntmps134
      go_wp2
      go_ret
      exact ⟨rfl, bX⟩
    · have d2 : decide (2 ≤ p) = false := decide_eq_false h2
      clear h
      go_enter Tryz.func134, Tryz.ntmps134
      go_wp2
      go_ret
      exact ⟨rfl, bX⟩
  · have e0 : (z == 0) = false := by simpa using h0
    by_cases hz : z = 2 ∨ z = 4 ∨ z = 8 ∨ z = 16
    · have hp : (p == 1) = false := by simp; intro e; exact h (.inl ⟨hz, e⟩)
      clear h e0 h0
      rcases hz with rfl | rfl | rfl | rfl
      all_goals
        go_enter Tryz.func134, Tryz.ntmps134
        go_wp2
        go_ret
        exact ⟨rfl, bX⟩
    · have e2 : (z == 2) = false := by simp; omega
      have e4 : (z == 4) = false := by simp; omega
      have e8 : (z == 8) = false := by simp; omega
      have e16 : (z == 16) = false := by simp; omega
      clear hz h h0
      go_enter Tryz.func134, Tryz.ntmps134
      go_wp2
      go_ret
      exact ⟨rfl, bX⟩
theorem xright_unplaced (f p z an : Int) (aw : List Nat) (mn : Int) (mw : List Nat) (s : Bool) (h : Sized p z) (hp : ¬ Placed f p) : Calls Tryz.prog 134 #[.agg #[.int .i64 f, .int .i64 p, .int .i64 z, .int .i64 an, .slice A aw.length ca, .int .i64 mn, .slice M mw.length cm, .bool s]] w fun e w' => e = .returned (.bool false) ∧ Below w.heap.size w w' := by
  unfold Placed at hp
  by_cases hf : f < 0
  · have d1 : decide (f < 0) = true := decide_eq_true hf
    clear hp
    rcases h with ⟨rfl | rfl | rfl | rfl, rfl⟩ | ⟨rfl, h1, h2⟩
    rotate_right
    · have d3 : decide (2 ≤ p) = true := decide_eq_true h1
      have d4 : decide (p ≤ 4) = true := decide_eq_true h2
      go_enter Tryz.func134, Tryz.ntmps134
      go_wp2
      go_ret
      exact ⟨rfl, bX⟩
    all_goals
      go_enter Tryz.func134, Tryz.ntmps134
      go_wp2
      go_ret
      exact ⟨rfl, bX⟩
  · have d1 : decide (f < 0) = false := decide_eq_false hf
    rcases h with ⟨rfl | rfl | rfl | rfl, rfl⟩ | ⟨rfl, h1, h2⟩
    rotate_right
    · have d3 : decide (2 ≤ p) = true := decide_eq_true h1
      have d4 : decide (p ≤ 4) = true := decide_eq_true h2
      have d5 : decide (1024 - p < f) = true := decide_eq_true (by omega)
      have d6 : IntKind.i64.wrap (1024 - p) = 1024 - p := by rw [IntWalk.i64_in _ (by omega)]
      clear hp
      go_enter Tryz.func134, Tryz.ntmps134
      go_wp2
      go_ret
      exact ⟨rfl, bX⟩
    all_goals
      have d5 : decide ((1023 : Int) < f) = true := decide_eq_true (by omega)
      clear hp
      go_enter Tryz.func134, Tryz.ntmps134
      go_wp2
      go_ret
      exact ⟨rfl, bX⟩
theorem xright_any (d : Sd) (hA : Row w w.heap.size A d.aw) (hM : Row w w.heap.size M d.mw) (b : Bool) (hb : b = true ↔ Ok1 d) :
    Calls Tryz.prog 134 #[spv d A ca M cm] w fun e w' => e = .returned (.bool b) ∧ Below w.heap.size w w' := by
  rw [ok1_iff] at hb
  obtain ⟨f, p, z, an, aw, mn, mw, s⟩ := d
  unfold spv
  simp only at *
  by_cases h1 : Sized p z
  · by_cases h2 : Placed f p
    · have hb' : b = true ↔ Rec ⟨f, p, z, an, aw, mn, mw, s⟩ := ⟨fun h => (hb.1 h).2.2, fun h => hb.2 ⟨h1, h2, h⟩⟩
      rcases h1 with ⟨rfl | rfl | rfl | rfl, rfl⟩ | ⟨rfl, g1, g2⟩
      · exact xright_zN ca cm 2 8 (.inl ⟨rfl, rfl⟩) f an aw mn mw s h2 hA hM b hb'
      · exact xright_zN ca cm 4 4 (.inr (.inl ⟨rfl, rfl⟩)) f an aw mn mw s h2 hA hM b hb'
      · exact xright_zN ca cm 8 2 (.inr (.inr (.inl ⟨rfl, rfl⟩))) f an aw mn mw s h2 hA hM b hb'
      · exact xright_zN ca cm 16 1 (.inr (.inr (.inr ⟨rfl, rfl⟩))) f an aw mn mw s h2 hA hM b hb'
      · exact xright_z0 ca cm f p an aw mn mw s g1 g2 h2 hA hM b hb'
    · obtain rfl : b = false := by
        cases b
        · rfl
        · exact absurd (hb.1 rfl).2.1 h2
      exact xright_unplaced ca cm f p z an aw mn mw s h1 h2
  · obtain rfl : b = false := by
      cases b
      · rfl
      · exact absurd (hb.1 rfl).1 h1
    exact xright_unsized ca cm f p z an aw mn mw s h1
end
section
variable {w : World} {A : Option Addr} {l : List Sd} (cap : Nat)
set_option maxHeartbeats 8000000 in
theorem xcheckL_any (hr : SRow w w.heap.size A l) (hl : l.length ≤ 17592186044416) (y : Int) (hy : (OkL l ∧ y = 0) ∨ (¬ OkL l ∧ y = 2)) :
    Calls Tryz.prog 127 #[.slice A l.length cap] w fun e w' => e = .returned (.int .i64 y) ∧ Below w.heap.size w w' := by
  by_cases hlen : 256 < l.length
  · obtain rfl : y = 2 := by
      rcases hy with ⟨h, _⟩ | ⟨_, h⟩
      · exact absurd h.1 (by omega)
      · exact h
    have d1 : decide (256 < (l.length : Int)) = true := decide_eq_true (by omega)
    clear hy
    go_enter Tryz.func127, Tryz.ntmps127
    go_wp2
    go_ret
    exact ⟨rfl, bX⟩
  · have d1 : decide (256 < (l.length : Int)) = false := decide_eq_false (by omega)
    have hY := Lib.hid hy
    clear hy
    go_enter Tryz.func127, Tryz.ntmps127
    go_wp2_with fail
    go_loopw [10] (fun ii wr => ∃ k : Nat, ii = .int .i64 (k : Nat) ∧ k ≤ l.length ∧ Hid (OkP l k) ∧ w.heap.size ≤ wr.heap.size ∧ Below w.heap.size w wr) (fun ii _ => l.length - (intOf ii).toNat)
    case atStart => exact ⟨0, rfl, Nat.zero_le _, Lib.hid ⟨fun i hi => by omega, fun i hi => by omega⟩, lX, bX⟩
    case round =>
      obtain ⟨k, rfl, hk, hA, hsz, hb_wr⟩ := hrel
      have hsr := hb_wr.size
      by_cases hlt : k < l.length
      · have hrr := hr.later hb_wr
        obtain ⟨b, off, hAe, hbb, hc⟩ := hrr.at_ (by omega)
        obtain ⟨Aa, ca, Am, cm, c8, ra, rm⟩ := hc k hlt
        obtain ⟨d, hd⟩ : ∃ d, Hid (nth l k = d) := ⟨_, rfl⟩
        rw [hd.out] at c8 ra rm
        have i1 : (k : Int) < (l.length : Int) := by omega
        have i2 : (0 : Int) ≤ (k : Int) := by omega
        by_cases h1 : Ok1 d
        · have HRT := Lib.hid fun (w : World) ha hm => xright_any (w := w) (A := Aa) (M := Am) ca cm d ha hm true ⟨fun _ => h1, fun _ => rfl⟩
          have hpl := h1.placed
          unfold Placed at hpl
          have H1 := Lib.hid h1
          clear h1
          cases k with
          | zero =>
            have HN : Hid (OkP l 1) := Lib.hid (hA.out.next (by rw [hd.out]; exact H1.out) (by rw [hd.out]; exact hpl.1))
            obtain ⟨x0, x1, x2, x3, x4, x5, x6, x7⟩ := c8
            clear hc
            subst hAe
            simp only [Nat.zero_mul, Nat.add_zero] at x0 x1 x2 x3 x4 x5 x6 x7
            obtain ⟨f, p, z, an, aw, mn, mw, s⟩ := d
            unfold spv at HRT
            simp only at *
            go_wp2_with fail
            refine wp_region_held_drew (S := (fun X : World => X.cell? ⟨wr.heap.size, 0, none⟩ = some (.int .i64 f) ∧ X.cell? ⟨wr.heap.size, 1, none⟩ = some (.int .i64 p) ∧ X.cell? ⟨wr.heap.size, 2, none⟩ = some (.int .i64 z) ∧ X.cell? ⟨wr.heap.size, 3, none⟩ = some (.int .i64 an) ∧ X.cell? ⟨wr.heap.size, 4, none⟩ = some (.slice Aa aw.length ca) ∧ X.cell? ⟨wr.heap.size, 5, none⟩ = some (.int .i64 mn) ∧ X.cell? ⟨wr.heap.size, 6, none⟩ = some (.slice Am mw.length cm) ∧ X.cell? ⟨wr.heap.size, 7, none⟩ = some (.bool s))) (by kernel_rfl) ?_ fun _ => ?_
            · exact kS
            refine tY 0 ?_
            try simp only [Act.put, qZ]
            refine tR 1 fun K hK => ?_
            try simp only [qZ]
            go_simp
            go_at_call 134
            refine (HRT.out _ (ra.later bX) (rm.later bX)).mono ?_
            rintro e w5 ⟨rfl, hb_w5⟩
            have hs_w5 := hb_w5.size
            (try simp only [zZ] at hs_w5)
            have mw50 : w5.cell? ⟨wr.heap.size, 0, none⟩ = some (.int .i64 f) := cX hb_w5
            have mw51 : w5.cell? ⟨wr.heap.size, 1, none⟩ = some (.int .i64 p) := cX hb_w5
            have mw52 : w5.cell? ⟨wr.heap.size, 2, none⟩ = some (.int .i64 z) := cX hb_w5
            have mw53 : w5.cell? ⟨wr.heap.size, 3, none⟩ = some (.int .i64 an) := cX hb_w5
            have mw54 : w5.cell? ⟨wr.heap.size, 4, none⟩ = some (.slice Aa aw.length ca) := cX hb_w5
            have mw55 : w5.cell? ⟨wr.heap.size, 5, none⟩ = some (.int .i64 mn) := cX hb_w5
            have mw56 : w5.cell? ⟨wr.heap.size, 6, none⟩ = some (.slice Am mw.length cm) := cX hb_w5
            have mw57 : w5.cell? ⟨wr.heap.size, 7, none⟩ = some (.bool s) := cX hb_w5
            try go_wp2_with fail
            refine hK.out _ _ ?_ fun _ => ?_
            · exact kS
            clear hK K
            try simp only [Act.put, qZ]
            refine tY 2 ?_
            try simp only [Act.put, qZ]
            refine tY 3 ?_
            try simp only [Act.put, qZ]
            refine tY 4 ?_
            try simp only [Act.put, qZ]
            refine tY 5 ?_
            try simp only [Act.put, qZ]
            refine tY 6 ?_
            try simp only [Act.put, qZ]
            refine tN 7 ?_
            try simp only [Act.put, qZ]
            refine tN 8 ?_
            try simp only [Act.put, qZ]
            refine tN 9 ?_
            try simp only [Act.put, qZ]
            refine tN 10 ?_
            try simp only [Act.put, qZ]
            refine tN 11 ?_
            try simp only [Act.put, qZ]
            refine tN 12 ?_
            try simp only [Act.put, qZ]
            refine tN 13 ?_
            try simp only [Act.put, qZ]
            refine tN 14 ?_
            try simp only [Act.put, qZ]
            refine tN 15 ?_
            try simp only [Act.put, qZ]
            refine tN 16 ?_
            try simp only [Act.put, qZ]
            refine tN 17 ?_
            try simp only [Act.put, qZ]
            refine tN 18 ?_
            try simp only [Act.put, qZ]
            refine tN 19 ?_
            try simp only [Act.put, qZ]
            refine tN 20 ?_
            try simp only [Act.put, qZ]
            refine tN 21 ?_
            try simp only [Act.put, qZ]
            refine tN 22 ?_
            try simp only [Act.put, qZ]
            refine tR 23 fun K hK => ?_
            try simp only [qZ]
            go_simp
            refine hK.out _ _ ?_ fun _ => ?_
            · exact kS
            clear hK K
            try simp only [Act.put, qZ]
            refine tR 24 fun K hK => ?_
            try simp only [qZ]
            go_simp
            refine hK.out _ _ ?_ fun _ => ?_
            · exact kS
            clear hK K
            try simp only [Act.put, qZ]
            refine wpAnyH_done (by kernel_rfl) ?_ _
            go_wp2
            go_roundw
            case rel => exact ⟨1, by go_num, by omega, HN, lX, bX⟩
            case measure => simp [intOf]; omega
          | succ j =>
            obtain ⟨Ab, cb, Bm, dm, e8, _, _⟩ := hc j (by omega)
            have hpj := (hA.out.1 j (by omega)).placed
            unfold Placed at hpj
            have hsj := (hA.out.1 j (by omega)).sized.slots
            obtain ⟨pf, hpf⟩ : ∃ x, Hid ((nth l j).f = x) := ⟨_, rfl⟩
            obtain ⟨pp, hpp⟩ : ∃ x, Hid ((nth l j).p = x) := ⟨_, rfl⟩
            have v0 := e8.c0
            have v1 := e8.c1
            rw [hpf.out] at v0 hpj
            rw [hpp.out] at v1 hpj hsj
            have hw2 : IntKind.i64.wrap ((j : Int) + 1 - 1) = (j : Int) := by rw [IntWalk.i64_in _ (by omega)]; omega
            have hw4 : IntKind.i64.wrap (j : Int) = (j : Int) := by rw [IntWalk.i64_in _ (by omega)]
            have hw6 : IntKind.i64.wrap (pf + pp) = pf + pp := by rw [IntWalk.i64_in _ (by omega)]
            have i3 : (j : Int) < (l.length : Int) := by omega
            have i4 : (0 : Int) ≤ (j : Int) := by omega
            by_cases h2 : pf + pp ≤ d.f
            · have HN : Hid (OkP l (j + 1 + 1)) := Lib.hid (hA.out.next (by rw [hd.out]; exact H1.out) (by show (nth l j).f + (nth l j).p ≤ _; rw [hd.out, hpf.out, hpp.out]; exact h2))
              have g1 : decide (d.f < pf + pp) = false := decide_eq_false (by omega)
              obtain ⟨x0, x1, x2, x3, x4, x5, x6, x7⟩ := c8
              clear hc e8 h2
              subst hAe
              obtain ⟨f, p, z, an, aw, mn, mw, s⟩ := d
              unfold spv at HRT
              simp only at *
              go_wp2_with fail
              refine wp_region_held_drew (S := (fun X : World => X.cell? ⟨wr.heap.size, 0, none⟩ = some (.int .i64 f) ∧ X.cell? ⟨wr.heap.size, 1, none⟩ = some (.int .i64 p) ∧ X.cell? ⟨wr.heap.size, 2, none⟩ = some (.int .i64 z) ∧ X.cell? ⟨wr.heap.size, 3, none⟩ = some (.int .i64 an) ∧ X.cell? ⟨wr.heap.size, 4, none⟩ = some (.slice Aa aw.length ca) ∧ X.cell? ⟨wr.heap.size, 5, none⟩ = some (.int .i64 mn) ∧ X.cell? ⟨wr.heap.size, 6, none⟩ = some (.slice Am mw.length cm) ∧ X.cell? ⟨wr.heap.size, 7, none⟩ = some (.bool s) ∧ X.cell? ⟨b, off + j * 8, none⟩ = some (.int .i64 pf) ∧ X.cell? ⟨b, off + j * 8 + 1, none⟩ = some (.int .i64 pp))) (by kernel_rfl) ?_ fun _ => ?_
              · exact kS
              refine tY 0 ?_
              try simp only [Act.put, qZ]
              refine tR 1 fun K hK => ?_
              try simp only [qZ]
              go_simp
              go_at_call 134
              refine (HRT.out _ (ra.later bX) (rm.later bX)).mono ?_
              rintro e w5 ⟨rfl, hb_w5⟩
              have hs_w5 := hb_w5.size
              (try simp only [zZ] at hs_w5)
              have mw50 : w5.cell? ⟨wr.heap.size, 0, none⟩ = some (.int .i64 f) := cX hb_w5
              have mw51 : w5.cell? ⟨wr.heap.size, 1, none⟩ = some (.int .i64 p) := cX hb_w5
              have mw52 : w5.cell? ⟨wr.heap.size, 2, none⟩ = some (.int .i64 z) := cX hb_w5
              have mw53 : w5.cell? ⟨wr.heap.size, 3, none⟩ = some (.int .i64 an) := cX hb_w5
              have mw54 : w5.cell? ⟨wr.heap.size, 4, none⟩ = some (.slice Aa aw.length ca) := cX hb_w5
              have mw55 : w5.cell? ⟨wr.heap.size, 5, none⟩ = some (.int .i64 mn) := cX hb_w5
              have mw56 : w5.cell? ⟨wr.heap.size, 6, none⟩ = some (.slice Am mw.length cm) := cX hb_w5
              have mw57 : w5.cell? ⟨wr.heap.size, 7, none⟩ = some (.bool s) := cX hb_w5
              have mw58 : w5.cell? ⟨b, off + j * 8, none⟩ = some (.int .i64 pf) := cX hb_w5
              have mw59 : w5.cell? ⟨b, off + j * 8 + 1, none⟩ = some (.int .i64 pp) := cX hb_w5
              try go_wp2_with fail
              refine hK.out _ _ ?_ fun _ => ?_
              · exact kS
              clear hK K
              try simp only [Act.put, qZ]
              refine tY 2 ?_
              try simp only [Act.put, qZ]
              refine tY 3 ?_
              try simp only [Act.put, qZ]
              refine tY 4 ?_
              try simp only [Act.put, qZ]
              refine tY 5 ?_
              try simp only [Act.put, qZ]
              refine tY 6 ?_
              try simp only [Act.put, qZ]
              refine tY 7 ?_
              try simp only [Act.put, qZ]
              refine tY 8 ?_
              try simp only [Act.put, qZ]
              refine tY 9 ?_
              try simp only [Act.put, qZ]
              refine tY 10 ?_
              try simp only [Act.put, qZ]
              refine tY 11 ?_
              try simp only [Act.put, qZ]
              refine tY 12 ?_
              try simp only [Act.put, qZ]
              refine tY 13 ?_
              try simp only [Act.put, qZ]
              refine tY 14 ?_
              try simp only [Act.put, qZ]
              refine tY 15 ?_
              try simp only [Act.put, qZ]
              refine tY 16 ?_
              try simp only [Act.put, qZ]
              refine tY 17 ?_
              try simp only [Act.put, qZ]
              refine tY 18 ?_
              try simp only [Act.put, qZ]
              refine tY 19 ?_
              try simp only [Act.put, qZ]
              refine tY 20 ?_
              try simp only [Act.put, qZ]
              refine tY 21 ?_
              try simp only [Act.put, qZ]
              refine tY 22 ?_
              try simp only [Act.put, qZ]
              refine tR 23 fun K hK => ?_
              try simp only [qZ]
              go_simp
              refine hK.out _ _ ?_ fun _ => ?_
              · exact kS
              clear hK K
              try simp only [Act.put, qZ]
              refine tR 24 fun K hK => ?_
              try simp only [qZ]
              go_simp
              refine hK.out _ _ ?_ fun _ => ?_
              · exact kS
              clear hK K
              try simp only [Act.put, qZ]
              refine wpAnyH_done (by kernel_rfl) ?_ _
              go_wp2
              go_roundw
              case rel => exact ⟨j + 1 + 1, by go_num, by omega, HN, lX, bX⟩
              case measure => simp [intOf]; omega
            · have g1 : decide (d.f < pf + pp) = true := decide_eq_true (by omega)
              obtain rfl : y = 2 := by
                rcases hY.out with ⟨h, _⟩ | ⟨_, h⟩
                · have := (h.2.at_ hlt).2
                  rw [hd.out] at this
                  have e : endAt l (j + 1) = pf + pp := by show (nth l j).f + (nth l j).p = _; rw [hpf.out, hpp.out]
                  rw [e] at this
                  exact absurd this h2
                · exact h
              obtain ⟨x0, x1, x2, x3, x4, x5, x6, x7⟩ := c8
              clear hc e8 h2
              subst hAe
              obtain ⟨f, p, z, an, aw, mn, mw, s⟩ := d
              unfold spv at HRT
              simp only at *
              go_wp2_with fail
              refine wp_region_held_drew (S := (fun X : World => X.cell? ⟨wr.heap.size, 0, none⟩ = some (.int .i64 f) ∧ X.cell? ⟨wr.heap.size, 1, none⟩ = some (.int .i64 p) ∧ X.cell? ⟨wr.heap.size, 2, none⟩ = some (.int .i64 z) ∧ X.cell? ⟨wr.heap.size, 3, none⟩ = some (.int .i64 an) ∧ X.cell? ⟨wr.heap.size, 4, none⟩ = some (.slice Aa aw.length ca) ∧ X.cell? ⟨wr.heap.size, 5, none⟩ = some (.int .i64 mn) ∧ X.cell? ⟨wr.heap.size, 6, none⟩ = some (.slice Am mw.length cm) ∧ X.cell? ⟨wr.heap.size, 7, none⟩ = some (.bool s) ∧ X.cell? ⟨b, off + j * 8, none⟩ = some (.int .i64 pf) ∧ X.cell? ⟨b, off + j * 8 + 1, none⟩ = some (.int .i64 pp))) (by kernel_rfl) ?_ fun _ => ?_
              · exact kS
              refine tY 0 ?_
              try simp only [Act.put, qZ]
              refine tR 1 fun K hK => ?_
              try simp only [qZ]
              go_simp
              go_at_call 134
              refine (HRT.out _ (ra.later bX) (rm.later bX)).mono ?_
              rintro e w5 ⟨rfl, hb_w5⟩
              have hs_w5 := hb_w5.size
              (try simp only [zZ] at hs_w5)
              have mw50 : w5.cell? ⟨wr.heap.size, 0, none⟩ = some (.int .i64 f) := cX hb_w5
              have mw51 : w5.cell? ⟨wr.heap.size, 1, none⟩ = some (.int .i64 p) := cX hb_w5
              have mw52 : w5.cell? ⟨wr.heap.size, 2, none⟩ = some (.int .i64 z) := cX hb_w5
              have mw53 : w5.cell? ⟨wr.heap.size, 3, none⟩ = some (.int .i64 an) := cX hb_w5
              have mw54 : w5.cell? ⟨wr.heap.size, 4, none⟩ = some (.slice Aa aw.length ca) := cX hb_w5
              have mw55 : w5.cell? ⟨wr.heap.size, 5, none⟩ = some (.int .i64 mn) := cX hb_w5
              have mw56 : w5.cell? ⟨wr.heap.size, 6, none⟩ = some (.slice Am mw.length cm) := cX hb_w5
              have mw57 : w5.cell? ⟨wr.heap.size, 7, none⟩ = some (.bool s) := cX hb_w5
              have mw58 : w5.cell? ⟨b, off + j * 8, none⟩ = some (.int .i64 pf) := cX hb_w5
              have mw59 : w5.cell? ⟨b, off + j * 8 + 1, none⟩ = some (.int .i64 pp) := cX hb_w5
              try go_wp2_with fail
              refine hK.out _ _ ?_ fun _ => ?_
              · exact kS
              clear hK K
              try simp only [Act.put, qZ]
              refine tY 2 ?_
              try simp only [Act.put, qZ]
              refine tY 3 ?_
              try simp only [Act.put, qZ]
              refine tY 4 ?_
              try simp only [Act.put, qZ]
              refine tY 5 ?_
              try simp only [Act.put, qZ]
              refine tY 6 ?_
              try simp only [Act.put, qZ]
              refine tY 7 ?_
              try simp only [Act.put, qZ]
              refine tY 8 ?_
              try simp only [Act.put, qZ]
              refine tY 9 ?_
              try simp only [Act.put, qZ]
              refine tY 10 ?_
              try simp only [Act.put, qZ]
              refine tY 11 ?_
              try simp only [Act.put, qZ]
              refine tY 12 ?_
              try simp only [Act.put, qZ]
              refine tY 13 ?_
              try simp only [Act.put, qZ]
              refine tY 14 ?_
              try simp only [Act.put, qZ]
              refine tY 15 ?_
              try simp only [Act.put, qZ]
              refine tY 16 ?_
              try simp only [Act.put, qZ]
              refine tY 17 ?_
              try simp only [Act.put, qZ]
              refine tY 18 ?_
              try simp only [Act.put, qZ]
              refine tY 19 ?_
              try simp only [Act.put, qZ]
              refine tY 20 ?_
              try simp only [Act.put, qZ]
              refine tY 21 ?_
              try simp only [Act.put, qZ]
              refine tY 22 ?_
              try simp only [Act.put, qZ]
              refine tR 23 fun K hK => ?_
              try simp only [qZ]
              go_simp
              refine hK.out _ _ ?_ fun _ => ?_
              · exact kS
              clear hK K
              try simp only [Act.put, qZ]
              refine tR 24 fun K hK => ?_
              try simp only [qZ]
              go_simp
              refine hK.out _ _ ?_ fun _ => ?_
              · exact kS
              clear hK K
              try simp only [Act.put, qZ]
              refine wpAnyH_done (by kernel_rfl) ?_ _
              go_wp2
              go_ret
              exact ⟨rfl, bX⟩
        · obtain rfl : y = 2 := by
            rcases hY.out with ⟨h, _⟩ | ⟨_, h⟩
            · have := (h.2.at_ hlt).1
              rw [hd.out] at this
              exact absurd this h1
            · exact h
          have HRT := Lib.hid fun (w : World) ha hm => xright_any (w := w) (A := Aa) (M := Am) ca cm d ha hm false ⟨fun h => (by cases h), fun h => absurd h h1⟩
          obtain ⟨x0, x1, x2, x3, x4, x5, x6, x7⟩ := c8
          clear hc h1
          subst hAe
          obtain ⟨f, p, z, an, aw, mn, mw, s⟩ := d
          unfold spv at HRT
          simp only at *
          go_wp2_with fail
          refine wp_region_held_drew (S := (fun X : World => X.cell? ⟨wr.heap.size, 0, none⟩ = some (.int .i64 f) ∧ X.cell? ⟨wr.heap.size, 1, none⟩ = some (.int .i64 p) ∧ X.cell? ⟨wr.heap.size, 2, none⟩ = some (.int .i64 z) ∧ X.cell? ⟨wr.heap.size, 3, none⟩ = some (.int .i64 an) ∧ X.cell? ⟨wr.heap.size, 4, none⟩ = some (.slice Aa aw.length ca) ∧ X.cell? ⟨wr.heap.size, 5, none⟩ = some (.int .i64 mn) ∧ X.cell? ⟨wr.heap.size, 6, none⟩ = some (.slice Am mw.length cm) ∧ X.cell? ⟨wr.heap.size, 7, none⟩ = some (.bool s))) (by kernel_rfl) ?_ fun _ => ?_
          · exact kS
          refine tY 0 ?_
          try simp only [Act.put, qZ]
          refine tR 1 fun K hK => ?_
          try simp only [qZ]
          go_simp
          go_at_call 134
          refine (HRT.out _ (ra.later bX) (rm.later bX)).mono ?_
          rintro e w5 ⟨rfl, hb_w5⟩
          have hs_w5 := hb_w5.size
          (try simp only [zZ] at hs_w5)
          have mw50 : w5.cell? ⟨wr.heap.size, 0, none⟩ = some (.int .i64 f) := cX hb_w5
          have mw51 : w5.cell? ⟨wr.heap.size, 1, none⟩ = some (.int .i64 p) := cX hb_w5
          have mw52 : w5.cell? ⟨wr.heap.size, 2, none⟩ = some (.int .i64 z) := cX hb_w5
          have mw53 : w5.cell? ⟨wr.heap.size, 3, none⟩ = some (.int .i64 an) := cX hb_w5
          have mw54 : w5.cell? ⟨wr.heap.size, 4, none⟩ = some (.slice Aa aw.length ca) := cX hb_w5
          have mw55 : w5.cell? ⟨wr.heap.size, 5, none⟩ = some (.int .i64 mn) := cX hb_w5
          have mw56 : w5.cell? ⟨wr.heap.size, 6, none⟩ = some (.slice Am mw.length cm) := cX hb_w5
          have mw57 : w5.cell? ⟨wr.heap.size, 7, none⟩ = some (.bool s) := cX hb_w5
          try go_wp2_with fail
          refine hK.out _ _ ?_ fun _ => ?_
          · exact kS
          clear hK K
          try simp only [Act.put, qZ]
          refine tY 2 ?_
          try simp only [Act.put, qZ]
          refine tY 3 ?_
          try simp only [Act.put, qZ]
          refine tN 4 ?_
          try simp only [Act.put, qZ]
          refine tN 5 ?_
          try simp only [Act.put, qZ]
          refine tN 6 ?_
          try simp only [Act.put, qZ]
          refine tN 7 ?_
          try simp only [Act.put, qZ]
          refine tN 8 ?_
          try simp only [Act.put, qZ]
          refine tN 9 ?_
          try simp only [Act.put, qZ]
          refine tN 10 ?_
          try simp only [Act.put, qZ]
          refine tN 11 ?_
          try simp only [Act.put, qZ]
          refine tN 12 ?_
          try simp only [Act.put, qZ]
          refine tN 13 ?_
          try simp only [Act.put, qZ]
          refine tN 14 ?_
          try simp only [Act.put, qZ]
          refine tN 15 ?_
          try simp only [Act.put, qZ]
          refine tN 16 ?_
          try simp only [Act.put, qZ]
          refine tN 17 ?_
          try simp only [Act.put, qZ]
          refine tN 18 ?_
          try simp only [Act.put, qZ]
          refine tN 19 ?_
          try simp only [Act.put, qZ]
          refine tN 20 ?_
          try simp only [Act.put, qZ]
          refine tN 21 ?_
          try simp only [Act.put, qZ]
          refine tN 22 ?_
          try simp only [Act.put, qZ]
          refine tN 23 ?_
          try simp only [Act.put, qZ]
          refine tR 24 fun K hK => ?_
          try simp only [qZ]
          go_simp
          refine hK.out _ _ ?_ fun _ => ?_
          · exact kS
          clear hK K
          try simp only [Act.put, qZ]
          refine wpAnyH_done (by kernel_rfl) ?_ _
          go_wp2
          go_ret
          exact ⟨rfl, bX⟩
      · obtain rfl : k = l.length := by omega
        obtain rfl : y = 0 := by
          rcases hY.out with ⟨_, h⟩ | ⟨h, _⟩
          · exact h
          · exact absurd ⟨by omega, hA.out⟩ h
        go_wp2
        go_ret
        exact ⟨rfl, bX⟩
end
section
variable {w : World} {d : Sd} {A M : Option Addr} (ca cm : Nat)
end
end Go.Proofs.YtfhiibohgjbmbaaGreatDoor
