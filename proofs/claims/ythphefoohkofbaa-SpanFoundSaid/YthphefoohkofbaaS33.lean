/- The walk of the law SpanFound. -/
import Derived.Test.YthphefoohkofbaaS32
namespace Go.Proofs.Ythphefoohkofbaa
open Go.RowKit
set_option linter.unusedVariables false
set_option linter.unusedSimpArgs false

section
variable {w : World} {A : Option Addr} {l : List Sd} (cap : Nat)
set_option maxHeartbeats 4000000 in
theorem spanFound_walk (i k : Int) (other : Nat) (w : World) (hr : SRow w w.heap.size A l) (hl : l.length ≤ 1466015503658) (hi1 : -9223372036854775808 ≤ i) (hi2 : i ≤ 9223372036854775807) (hk1 : -9223372036854775808 ≤ k) (hk2 : k ≤ 9223372036854775807) (ho64 : other < W64) :
    Calls Try.prog 6 #[.slice A l.length cap, .int .i64 i, .int .i64 k, .int .u64 (other : Nat)] w fun e w' => e = .returned (.bool true) ∧ Below w.heap.size w w' := by
  have hl2 : l.length ≤ 17592186044416 := by omega
  obtain ⟨y0, hC0⟩ := okL_check l
  have HC := Lib.hid fun (w : World) hr => scheck_any (w := w) (A := A) (l := l) cap hr hl2 y0 hC0
  by_cases hok : OkL l
  · obtain rfl : y0 = 0 := by
      rcases hC0 with ⟨_, h⟩ | ⟨h, _⟩
      · exact h
      · exact absurd hok h
    clear hC0
    by_cases h1 : i < 0
    · have d1 : decide (i < 0) = true := decide_eq_true h1
      clear hok
      go_enter Try.func6, Try.ntmps6
      go_wp2_with fail
      go_at_call 17
      refine (slives_any _).mono ?_
      rintro e w1 ⟨rfl, hb_w1⟩
      obtain ⟨hc_w1, hf_w1⟩ := bcell hb_w1; have hs_w1 := hb_w1.size; (try simp only [World.size_alloc, World.size_setCell, World.size_drew, World.heap_drewN] at hs_w1)
      have b1 : Below w.heap.size w w1 := (by repeat (first | exact Below.refl _ _ | assumption | (refine below_drewN ?_ _) | (refine Below.drew ?_) | (refine Below.alloc ?_ (by first | omega | (simp; omega) | simp) _) | (refine Below.setCell ?_ (by first | omega | (simp; omega) | simp) _) | (refine below_trans ?_ (by assumption) (by first | omega | (simp; omega) | simp))))
      go_wp2_with fail
      go_at_call 19
      refine (HC.out _ ((hr.later b1).later (by repeat (first | exact Below.refl _ _ | assumption | (refine below_drewN ?_ _) | (refine Below.drew ?_) | (refine Below.alloc ?_ (by first | omega | (simp; omega) | simp) _) | (refine Below.setCell ?_ (by first | omega | (simp; omega) | simp) _) | (refine below_trans ?_ (by assumption) (by first | omega | (simp; omega) | simp)))))).mono ?_
      rintro e w2 ⟨rfl, hb_w2⟩
      obtain ⟨hc_w2, hf_w2⟩ := bcell hb_w2; have hs_w2 := hb_w2.size; (try simp only [World.size_alloc, World.size_setCell, World.size_drew, World.heap_drewN] at hs_w2)
      go_wp2
      go_ret
      exact ⟨rfl, (by repeat (first | exact Below.refl _ _ | assumption | (refine below_drewN ?_ _) | (refine Below.drew ?_) | (refine Below.alloc ?_ (by first | omega | (simp; omega) | simp) _) | (refine Below.setCell ?_ (by first | omega | (simp; omega) | simp) _) | (refine below_trans ?_ (by assumption) (by first | omega | (simp; omega) | simp))))⟩
    · have d1 : decide (i < 0) = false := decide_eq_false h1
      by_cases h3 : (l.length : Int) ≤ i
      · have d3 : decide ((l.length : Int) ≤ i) = true := decide_eq_true h3
        clear hok
        go_enter Try.func6, Try.ntmps6
        go_wp2_with fail
        go_at_call 17
        refine (slives_any _).mono ?_
        rintro e w1 ⟨rfl, hb_w1⟩
        obtain ⟨hc_w1, hf_w1⟩ := bcell hb_w1; have hs_w1 := hb_w1.size; (try simp only [World.size_alloc, World.size_setCell, World.size_drew, World.heap_drewN] at hs_w1)
        have b1 : Below w.heap.size w w1 := (by repeat (first | exact Below.refl _ _ | assumption | (refine below_drewN ?_ _) | (refine Below.drew ?_) | (refine Below.alloc ?_ (by first | omega | (simp; omega) | simp) _) | (refine Below.setCell ?_ (by first | omega | (simp; omega) | simp) _) | (refine below_trans ?_ (by assumption) (by first | omega | (simp; omega) | simp))))
        go_wp2_with fail
        go_at_call 19
        refine (HC.out _ ((hr.later b1).later (by repeat (first | exact Below.refl _ _ | assumption | (refine below_drewN ?_ _) | (refine Below.drew ?_) | (refine Below.alloc ?_ (by first | omega | (simp; omega) | simp) _) | (refine Below.setCell ?_ (by first | omega | (simp; omega) | simp) _) | (refine below_trans ?_ (by assumption) (by first | omega | (simp; omega) | simp)))))).mono ?_
        rintro e w2 ⟨rfl, hb_w2⟩
        obtain ⟨hc_w2, hf_w2⟩ := bcell hb_w2; have hs_w2 := hb_w2.size; (try simp only [World.size_alloc, World.size_setCell, World.size_drew, World.heap_drewN] at hs_w2)
        go_wp2
        go_ret
        exact ⟨rfl, (by repeat (first | exact Below.refl _ _ | assumption | (refine below_drewN ?_ _) | (refine Below.drew ?_) | (refine Below.alloc ?_ (by first | omega | (simp; omega) | simp) _) | (refine Below.setCell ?_ (by first | omega | (simp; omega) | simp) _) | (refine below_trans ?_ (by assumption) (by first | omega | (simp; omega) | simp))))⟩
      · obtain ⟨i, rfl⟩ := Int.eq_ofNat_of_zero_le (show 0 ≤ i by omega)
        have j1 : i < l.length := by omega
        have i1 : (i : Int) < (l.length : Int) := by omega
        have d3 : decide ((l.length : Int) ≤ (i : Int)) = false := decide_eq_false h3
        have d3' : decide (l.length ≤ i) = false := decide_eq_false (by omega)
        have o1 := hok.2.1 i j1
        by_cases hks : 0 ≤ k ∧ k < slotsOf (nth l i).z
        · obtain ⟨k, rfl⟩ := Int.eq_ofNat_of_zero_le hks.1
          have hk8 := o1.sized.slots
          have p1 := o1.placed
          unfold Placed at p1
          have in1 := o1.in_ hks.1 hks.2
          obtain ⟨a, ha⟩ : ∃ a : Nat, ((a : Nat) : Int) = (nth l i).f * 16 + (k : Int) * (nth l i).z := ⟨((nth l i).f * 16 + (k : Int) * (nth l i).z).toNat, by omega⟩
          have HA := Lib.hid fun (w : World) (A M : Option Addr) (ca cm : Nat) h1 h2 => sAddr_any (w := w) (d := nth l i) (A := A) (M := M) ca cm h1 h2 (k : Nat) (a : Nat) 0 (.inl ⟨o1, hks.1, hks.2, ha, rfl⟩)
          have HG := Lib.hid fun (w : World) (A : Option Addr) (ca : Nat) hr => get_in (n := (nth l i).an) (A := A) (ws := (nth l i).aw) (w := w) ca (k : Nat) hr o1.a hks.1 (by rw [o1.an]; exact hks.2)
          simp only [Int.toNat_natCast] at HG
          obtain ⟨x1, k1, y1, hF1, hF1'⟩ := find_slot hok j1 hks.2 a ha
          obtain ⟨x2, k2, y2, hF2⟩ := FindE.ex l other
          have HF1 := Lib.hid fun (w : World) hr => sfind_any (w := w) (A := A) (l := l) cap hr hl2 a x1 k1 y1 hF1
          have HF2 := Lib.hid fun (w : World) hr => sfind_any (w := w) (A := A) (l := l) cap hr hl2 other x2 k2 y2 hF2
          have hcs : (y2 == 0) = false ∨ ((y2 == 0) = true ∧ (x2 == (i : Int)) = false) ∨ ((y2 == 0) = true ∧ (x2 == (i : Int)) = true ∧ (k2 == (k : Int)) = false) ∨ ((y2 == 0) = true ∧ (x2 == (i : Int)) = true ∧ (k2 == (k : Int)) = true ∧ ((other : Int) != (a : Int)) = false) := by
            by_cases e1 : y2 = 0
            · by_cases e2 : x2 = i
              · by_cases e3 : k2 = k
                · have := find_back hF2 e1 i e2
                  rw [e3] at this
                  exact .inr (.inr (.inr ⟨by simp [e1], by simp [e2], by simp [e3], by simp; omega⟩))
                · exact .inr (.inr (.inl ⟨by simp [e1], by simp [e2], by simpa using e3⟩))
              · exact .inr (.inl ⟨by simp [e1], by simpa using e2⟩)
            · exact .inl (by simpa using e1)
          have hcs1 : (tb (nth l i).aw k = true ∧ y1 = 0 ∧ x1 = i ∧ k1 = k) ∨ (tb (nth l i).aw k = false ∧ y1 = 10) := by
            rcases hF1' with ⟨q1, q2, q3, q4⟩ | ⟨q1, q2⟩
            · exact .inl ⟨q1, q4, q2, q3⟩
            · exact .inr ⟨q1, q2⟩
          have HCS := Lib.hid hcs
          clear hF1 hF1' hF2 hcs o1 hok h1 h3 hks hk8 p1 in1 ha
          go_enter Try.func6, Try.ntmps6
          go_wp2_with fail
          go_at_call 17
          refine (slives_any _).mono ?_
          rintro e w1 ⟨rfl, hb_w1⟩
          obtain ⟨hc_w1, hf_w1⟩ := bcell hb_w1; have hs_w1 := hb_w1.size; (try simp only [World.size_alloc, World.size_setCell, World.size_drew, World.heap_drewN] at hs_w1)
          have b1 : Below w.heap.size w w1 := (by repeat (first | exact Below.refl _ _ | assumption | (refine below_drewN ?_ _) | (refine Below.drew ?_) | (refine Below.alloc ?_ (by first | omega | (simp; omega) | simp) _) | (refine Below.setCell ?_ (by first | omega | (simp; omega) | simp) _) | (refine below_trans ?_ (by assumption) (by first | omega | (simp; omega) | simp))))
          go_wp2_with fail
          go_at_call 19
          refine (HC.out _ ((hr.later b1).later (by repeat (first | exact Below.refl _ _ | assumption | (refine below_drewN ?_ _) | (refine Below.drew ?_) | (refine Below.alloc ?_ (by first | omega | (simp; omega) | simp) _) | (refine Below.setCell ?_ (by first | omega | (simp; omega) | simp) _) | (refine below_trans ?_ (by assumption) (by first | omega | (simp; omega) | simp)))))).mono ?_
          rintro e w2 ⟨rfl, hb_w2⟩
          obtain ⟨hc_w2, hf_w2⟩ := bcell hb_w2; have hs_w2 := hb_w2.size; (try simp only [World.size_alloc, World.size_setCell, World.size_drew, World.heap_drewN] at hs_w2)
          have b2 : Below w.heap.size w w2 := (by repeat (first | exact Below.refl _ _ | assumption | (refine below_drewN ?_ _) | (refine Below.drew ?_) | (refine Below.alloc ?_ (by first | omega | (simp; omega) | simp) _) | (refine Below.setCell ?_ (by first | omega | (simp; omega) | simp) _) | (refine below_trans ?_ (by assumption) (by first | omega | (simp; omega) | simp))))
          obtain ⟨b', off, hAe, hbb, hc⟩ := (hr.later b2).at_ (by omega)
          obtain ⟨Aa, ca, Am, cm, c8, ra, rm⟩ := hc i j1
          have H1 := Lib.hid fun (w : World) h1 h2 => HA.out w Aa Am ca cm h1 h2
          have H2 := Lib.hid fun (w : World) h1 => HG.out w Aa ca h1
          have HR := Lib.hid fun (W : World) (hb : Below w.heap.size w W) => hr.later hb
          generalize nth l i = d1' at *
          clear hc_w1 hf_w1 hc_w2 hf_w2 HA HG
          subst hAe
          obtain ⟨f, p, zz, an, aw, mn, mw, s⟩ := d1'
          obtain ⟨q0, q1, q2, q3, q4, q5, q6, q7⟩ := id c8
          clear hc
          unfold spv at H1
          simp only at *
          generalize tb aw k = bt at *
          go_wp2_with fail
          go_at_call 15
          refine (H1.out _ (ra.later (by repeat (first | exact Below.refl _ _ | assumption | (refine below_drewN ?_ _) | (refine Below.drew ?_) | (refine Below.alloc ?_ (by first | omega | (simp; omega) | simp) _) | (refine Below.setCell ?_ (by first | omega | (simp; omega) | simp) _) | (refine below_trans ?_ (by assumption) (by first | omega | (simp; omega) | simp))))) (rm.later (by repeat (first | exact Below.refl _ _ | assumption | (refine below_drewN ?_ _) | (refine Below.drew ?_) | (refine Below.alloc ?_ (by first | omega | (simp; omega) | simp) _) | (refine Below.setCell ?_ (by first | omega | (simp; omega) | simp) _) | (refine below_trans ?_ (by assumption) (by first | omega | (simp; omega) | simp)))))).mono ?_
          rintro e w3 ⟨rfl, hb_w3⟩
          obtain ⟨hc_w3, hf_w3⟩ := bcell hb_w3; have hs_w3 := hb_w3.size; (try simp only [World.size_alloc, World.size_setCell, World.size_drew, World.heap_drewN] at hs_w3)
          have b23 : Below w2.heap.size w2 w3 := (by repeat (first | exact Below.refl _ _ | assumption | (refine below_drewN ?_ _) | (refine Below.drew ?_) | (refine Below.alloc ?_ (by first | omega | (simp; omega) | simp) _) | (refine Below.setCell ?_ (by first | omega | (simp; omega) | simp) _) | (refine below_trans ?_ (by assumption) (by first | omega | (simp; omega) | simp))))
          have b3 : Below w.heap.size w w3 := b2.trans (b23.mono (by first | omega | (simp; omega) | simp))
          obtain ⟨r0, r1, r2, r3, r4, r5, r6, r7⟩ := c8.later b23
          clear hc_w3 hf_w3 q0 q1 q2 q3 q4 q5 q6 q7 H1
          go_wp2_with fail
          go_at_call 31
          refine (H2.out _ ((ra.later b23).later (by repeat (first | exact Below.refl _ _ | assumption | (refine below_drewN ?_ _) | (refine Below.drew ?_) | (refine Below.alloc ?_ (by first | omega | (simp; omega) | simp) _) | (refine Below.setCell ?_ (by first | omega | (simp; omega) | simp) _) | (refine below_trans ?_ (by assumption) (by first | omega | (simp; omega) | simp)))))).mono ?_
          rintro e w4 ⟨rfl, hb_w4⟩
          obtain ⟨hc_w4, hf_w4⟩ := bcell hb_w4; have hs_w4 := hb_w4.size; (try simp only [World.size_alloc, World.size_setCell, World.size_drew, World.heap_drewN] at hs_w4)
          have b4 : Below w.heap.size w w4 := (by repeat (first | exact Below.refl _ _ | assumption | (refine below_drewN ?_ _) | (refine Below.drew ?_) | (refine Below.alloc ?_ (by first | omega | (simp; omega) | simp) _) | (refine Below.setCell ?_ (by first | omega | (simp; omega) | simp) _) | (refine below_trans ?_ (by assumption) (by first | omega | (simp; omega) | simp))))
          clear hc_w4 hf_w4 r0 r1 r2 r3 r4 r5 r6 r7 H2 c8
          go_wp2_with fail
          go_at_call 21
          refine (HF1.out _ ((HR.out _ b4).later (by repeat (first | exact Below.refl _ _ | assumption | (refine below_drewN ?_ _) | (refine Below.drew ?_) | (refine Below.alloc ?_ (by first | omega | (simp; omega) | simp) _) | (refine Below.setCell ?_ (by first | omega | (simp; omega) | simp) _) | (refine below_trans ?_ (by assumption) (by first | omega | (simp; omega) | simp)))))).mono ?_
          rintro e w5 ⟨rfl, hb_w5⟩
          obtain ⟨hc_w5, hf_w5⟩ := bcell hb_w5; have hs_w5 := hb_w5.size; (try simp only [World.size_alloc, World.size_setCell, World.size_drew, World.heap_drewN] at hs_w5)
          have b5 : Below w.heap.size w w5 := (by repeat (first | exact Below.refl _ _ | assumption | (refine below_drewN ?_ _) | (refine Below.drew ?_) | (refine Below.alloc ?_ (by first | omega | (simp; omega) | simp) _) | (refine Below.setCell ?_ (by first | omega | (simp; omega) | simp) _) | (refine below_trans ?_ (by assumption) (by first | omega | (simp; omega) | simp))))
          go_wp2_with fail
          go_at_call 21
          refine (HF2.out _ ((HR.out _ b5).later (by repeat (first | exact Below.refl _ _ | assumption | (refine below_drewN ?_ _) | (refine Below.drew ?_) | (refine Below.alloc ?_ (by first | omega | (simp; omega) | simp) _) | (refine Below.setCell ?_ (by first | omega | (simp; omega) | simp) _) | (refine below_trans ?_ (by assumption) (by first | omega | (simp; omega) | simp)))))).mono ?_
          rintro e w6 ⟨rfl, hb_w6⟩
          obtain ⟨hc_w6, hf_w6⟩ := bcell hb_w6; have hs_w6 := hb_w6.size; (try simp only [World.size_alloc, World.size_setCell, World.size_drew, World.heap_drewN] at hs_w6)
          have b6 : Below w.heap.size w w6 := (by repeat (first | exact Below.refl _ _ | assumption | (refine below_drewN ?_ _) | (refine Below.drew ?_) | (refine Below.alloc ?_ (by first | omega | (simp; omega) | simp) _) | (refine Below.setCell ?_ (by first | omega | (simp; omega) | simp) _) | (refine below_trans ?_ (by assumption) (by first | omega | (simp; omega) | simp))))
          clear hc_w5 hf_w5 hc_w6 hf_w6
          rcases hcs1 with ⟨rfl, rfl, rfl, rfl⟩ | ⟨rfl, rfl⟩
          all_goals
            rcases HCS.out with g1 | ⟨g1, g2⟩ | ⟨g1, g2, g3⟩ | ⟨g1, g2, g3, g4⟩
            all_goals
              go_wp2
              go_ret
              exact ⟨rfl, b6⟩
        · have HA := Lib.hid fun (w : World) (A M : Option Addr) (ca cm : Nat) h1 h2 => sAddr_any (w := w) (d := nth l i) (A := A) (M := M) ca cm h1 h2 k 0 1 (.inr (.inl ⟨o1, hks, rfl, rfl⟩))
          clear o1 hok h1 h3 hks
          go_enter Try.func6, Try.ntmps6
          go_wp2_with fail
          go_at_call 17
          refine (slives_any _).mono ?_
          rintro e w1 ⟨rfl, hb_w1⟩
          obtain ⟨hc_w1, hf_w1⟩ := bcell hb_w1; have hs_w1 := hb_w1.size; (try simp only [World.size_alloc, World.size_setCell, World.size_drew, World.heap_drewN] at hs_w1)
          have b1 : Below w.heap.size w w1 := (by repeat (first | exact Below.refl _ _ | assumption | (refine below_drewN ?_ _) | (refine Below.drew ?_) | (refine Below.alloc ?_ (by first | omega | (simp; omega) | simp) _) | (refine Below.setCell ?_ (by first | omega | (simp; omega) | simp) _) | (refine below_trans ?_ (by assumption) (by first | omega | (simp; omega) | simp))))
          go_wp2_with fail
          go_at_call 19
          refine (HC.out _ ((hr.later b1).later (by repeat (first | exact Below.refl _ _ | assumption | (refine below_drewN ?_ _) | (refine Below.drew ?_) | (refine Below.alloc ?_ (by first | omega | (simp; omega) | simp) _) | (refine Below.setCell ?_ (by first | omega | (simp; omega) | simp) _) | (refine below_trans ?_ (by assumption) (by first | omega | (simp; omega) | simp)))))).mono ?_
          rintro e w2 ⟨rfl, hb_w2⟩
          obtain ⟨hc_w2, hf_w2⟩ := bcell hb_w2; have hs_w2 := hb_w2.size; (try simp only [World.size_alloc, World.size_setCell, World.size_drew, World.heap_drewN] at hs_w2)
          have b2 : Below w.heap.size w w2 := (by repeat (first | exact Below.refl _ _ | assumption | (refine below_drewN ?_ _) | (refine Below.drew ?_) | (refine Below.alloc ?_ (by first | omega | (simp; omega) | simp) _) | (refine Below.setCell ?_ (by first | omega | (simp; omega) | simp) _) | (refine below_trans ?_ (by assumption) (by first | omega | (simp; omega) | simp))))
          obtain ⟨b', off, hAe, hbb, hc⟩ := (hr.later b2).at_ (by omega)
          obtain ⟨Aa, ca, Am, cm, c8, ra, rm⟩ := hc i j1
          have H1 := Lib.hid fun (w : World) h1 h2 => HA.out w Aa Am ca cm h1 h2
          generalize nth l i = d1' at *
          clear hc_w1 hf_w1 hc_w2 hf_w2 HA
          subst hAe
          obtain ⟨f, p, zz, an, aw, mn, mw, s⟩ := d1'
          obtain ⟨q0, q1, q2, q3, q4, q5, q6, q7⟩ := id c8
          clear hc
          unfold spv at H1
          simp only at *
          go_wp2_with fail
          go_at_call 15
          refine (H1.out _ (ra.later (by repeat (first | exact Below.refl _ _ | assumption | (refine below_drewN ?_ _) | (refine Below.drew ?_) | (refine Below.alloc ?_ (by first | omega | (simp; omega) | simp) _) | (refine Below.setCell ?_ (by first | omega | (simp; omega) | simp) _) | (refine below_trans ?_ (by assumption) (by first | omega | (simp; omega) | simp))))) (rm.later (by repeat (first | exact Below.refl _ _ | assumption | (refine below_drewN ?_ _) | (refine Below.drew ?_) | (refine Below.alloc ?_ (by first | omega | (simp; omega) | simp) _) | (refine Below.setCell ?_ (by first | omega | (simp; omega) | simp) _) | (refine below_trans ?_ (by assumption) (by first | omega | (simp; omega) | simp)))))).mono ?_
          rintro e w3 ⟨rfl, hb_w3⟩
          obtain ⟨hc_w3, hf_w3⟩ := bcell hb_w3; have hs_w3 := hb_w3.size; (try simp only [World.size_alloc, World.size_setCell, World.size_drew, World.heap_drewN] at hs_w3)
          go_wp2
          go_ret
          exact ⟨rfl, (by repeat (first | exact Below.refl _ _ | assumption | (refine below_drewN ?_ _) | (refine Below.drew ?_) | (refine Below.alloc ?_ (by first | omega | (simp; omega) | simp) _) | (refine Below.setCell ?_ (by first | omega | (simp; omega) | simp) _) | (refine below_trans ?_ (by assumption) (by first | omega | (simp; omega) | simp))))⟩
  · obtain rfl : y0 = 2 := by
      rcases hC0 with ⟨h, _⟩ | ⟨_, h⟩
      · exact absurd h hok
      · exact h
    clear hC0
    clear hok
    go_enter Try.func6, Try.ntmps6
    go_wp2_with fail
    go_at_call 17
    refine (slives_any _).mono ?_
    rintro e w1 ⟨rfl, hb_w1⟩
    obtain ⟨hc_w1, hf_w1⟩ := bcell hb_w1; have hs_w1 := hb_w1.size; (try simp only [World.size_alloc, World.size_setCell, World.size_drew, World.heap_drewN] at hs_w1)
    have b1 : Below w.heap.size w w1 := (by repeat (first | exact Below.refl _ _ | assumption | (refine below_drewN ?_ _) | (refine Below.drew ?_) | (refine Below.alloc ?_ (by first | omega | (simp; omega) | simp) _) | (refine Below.setCell ?_ (by first | omega | (simp; omega) | simp) _) | (refine below_trans ?_ (by assumption) (by first | omega | (simp; omega) | simp))))
    go_wp2_with fail
    go_at_call 19
    refine (HC.out _ ((hr.later b1).later (by repeat (first | exact Below.refl _ _ | assumption | (refine below_drewN ?_ _) | (refine Below.drew ?_) | (refine Below.alloc ?_ (by first | omega | (simp; omega) | simp) _) | (refine Below.setCell ?_ (by first | omega | (simp; omega) | simp) _) | (refine below_trans ?_ (by assumption) (by first | omega | (simp; omega) | simp)))))).mono ?_
    rintro e w2 ⟨rfl, hb_w2⟩
    obtain ⟨hc_w2, hf_w2⟩ := bcell hb_w2; have hs_w2 := hb_w2.size; (try simp only [World.size_alloc, World.size_setCell, World.size_drew, World.heap_drewN] at hs_w2)
    go_wp2
    go_ret
    exact ⟨rfl, (by repeat (first | exact Below.refl _ _ | assumption | (refine below_drewN ?_ _) | (refine Below.drew ?_) | (refine Below.alloc ?_ (by first | omega | (simp; omega) | simp) _) | (refine Below.setCell ?_ (by first | omega | (simp; omega) | simp) _) | (refine below_trans ?_ (by assumption) (by first | omega | (simp; omega) | simp))))⟩
end
end Go.Proofs.Ythphefoohkofbaa
