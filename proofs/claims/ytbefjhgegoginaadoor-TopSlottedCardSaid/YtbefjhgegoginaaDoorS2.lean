/- Contracts of package span: what is recorded of a span, and whether it is right. -/
import Derived.Test.YtbefjhgegoginaaDoorS1
namespace Go.Proofs.YtbefjhgegoginaaDoor
open Go.RowKit
set_option linter.unusedVariables false
set_option linter.unusedSimpArgs false

/-- what is recorded of a span is right -/
def Rec (d : Sd) : Prop := d.an = slotsOf d.z ∧ d.mn = slotsOf d.z ∧ Right d.an d.aw ∧ Right d.mn d.mw ∧ ∀ i, i < (slotsOf d.z).toNat → tb d.mw i = true → tb d.aw i = true
theorem ok1_iff (d : Sd) : Ok1 d ↔ (Sized d.p d.z ∧ Placed d.f d.p ∧ Rec d) :=
  ⟨fun h => ⟨h.sized, h.placed, h.an, h.mn, h.a, h.m, h.sub⟩, fun ⟨h1, h2, h3, h4, h5, h6, h7⟩ => ⟨h1, h2, h5, h3, h6, h4, h7⟩⟩
theorem andNot_zero (x y : Nat) (hx : x < W64) (hy : y < W64) :
    (Go.bits .andNot .u64 (x : Int) (y : Int) == 0) = true ↔ ∀ i, i < 64 → x.testBit i = true → y.testBit i = true := by
  have hx' : x < 18446744073709551616 := hx
  have hy' : y < 2 ^ 64 := hy
  rw [u64_andNot_nat x y hx' hy', beq_iff_eq]
  have e : (18446744073709551615 - y : Nat) = 2 ^ 64 - (y + 1) := by omega
  rw [e]
  constructor
  · intro h i hi hb
    have h' : x &&& (2 ^ 64 - (y + 1)) = 0 := by omega
    have h2 := congrArg (fun v => Nat.testBit v i) h'
    simp only [Nat.testBit_and, Nat.testBit_two_pow_sub_succ hy', hb, Nat.zero_testBit, Bool.true_and] at h2
    simpa [hi] using h2
  · intro h
    have h' : x &&& (2 ^ 64 - (y + 1)) = 0 := by
      apply Nat.eq_of_testBit_eq
      intro j
      rw [Nat.testBit_and, Nat.testBit_two_pow_sub_succ hy', Nat.zero_testBit]
      by_cases hj : j < 64
      · cases hxj : x.testBit j
        · rfl
        · simp [h j hj hxj]
      · simp [hj]
    rw [h']
    rfl
/-- what the words of a span that is recorded rightly say of each other -/
theorem sub_iff {n : Int} {aw mw : List Nat} (h1 : 1 ≤ n) (h8 : n ≤ 8) (ha : Right n aw) (hm : Right n mw) :
    (∀ i, i < 64 → (mw.getD 0 0).testBit i = true → (aw.getD 0 0).testBit i = true) ↔ (∀ i, i < n.toNat → tb mw i = true → tb aw i = true) := by
  have la : aw.length = 1 := by have := ha.2.2.1; omega
  have lm : mw.length = 1 := by have := hm.2.2.1; omega
  have ea : ∀ i, i < 64 → tb aw i = (aw.getD 0 0).testBit i := fun i hi => by unfold tb; rw [show i / 64 = 0 by omega, show i % 64 = i by omega]
  have em : ∀ i, i < 64 → tb mw i = (mw.getD 0 0).testBit i := fun i hi => by unfold tb; rw [show i / 64 = 0 by omega, show i % 64 = i by omega]
  constructor
  · intro h i hi hb
    rw [ea i (by omega)]
    rw [em i (by omega)] at hb
    exact h i (by omega) hb
  · intro h i hi hb
    rw [← em i hi] at hb
    rw [← ea i hi]
    by_cases hn : i < n.toNat
    · exact h i hn hb
    · rw [hm.2.2.2 i (by omega) (by omega)] at hb
      cases hb
section
variable {w : World} {d : Sd} {A M : Option Addr} (ca cm : Nat)
set_option maxHeartbeats 1000000 in
theorem srecorded_any {p : Int} (h : Sized p d.z) (hA : Row w w.heap.size A d.aw) (hM : Row w w.heap.size M d.mw) (b : Bool) (hb : b = true ↔ Rec d) :
    Calls Tryd.prog 39 #[spv d A ca M cm] w fun e w' => e = .returned (.bool b) ∧ Below w.heap.size w w' := by
  have hs := h.slots
  have S := fun (w : World) => sslots_any (w := w) d A ca M cm h
  have SS := Lib.hid S
  clear h S
  unfold Rec at hb
  obtain ⟨f, p', z, an, aw, mn, mw, s⟩ := d
  simp only at hb hs hA hM SS
  generalize slotsOf z = n at hb SS hs
  unfold spv at SS ⊢
  simp only at SS ⊢
  by_cases h1 : an = n
  · subst h1
    have d1 : (an != an) = false := bne_self_eq_false _
    by_cases h2 : mn = an
    · subst h2
      by_cases h3 : Right mn aw
      · have H3 := Lib.hid h3
        by_cases h4 : Right mn mw
        · have H4 := Lib.hid h4
          have la : 0 < aw.length := by have := h3.2.2.1; omega
          have lm : 0 < mw.length := by have := h4.2.2.1; omega
          have hsub := sub_iff hs.1 hs.2.1 h3 h4
          have hz := andNot_zero (mw.getD 0 0) (aw.getD 0 0) (hM.words.at_ 0) (hA.words.at_ 0)
          have hbb : (Go.bits .andNot .u64 ((mw.getD 0 0 : Nat) : Int) ((aw.getD 0 0 : Nat) : Int) == 0) = b := by
            rw [Bool.eq_iff_iff, hz, hb, hsub]
            exact ⟨fun h => ⟨rfl, rfl, h3, h4, h⟩, fun h => h.2.2.2.2⟩
          obtain ⟨ba, oa, rfl, hba, hca⟩ := hA.at_ (by omega)
          obtain ⟨bm, om, rfl, hbm, hcm⟩ := hM.at_ (by omega)
          have ka := hca 0 (by omega)
          have km := hcm 0 (by omega)
          obtain ⟨x, hx⟩ : ∃ x, Hid (aw.getD 0 0 = x) := ⟨_, rfl⟩
          obtain ⟨y, hy⟩ : ∃ y, Hid (mw.getD 0 0 = y) := ⟨_, rfl⟩
          rw [hx.out] at ka hbb
          rw [hy.out] at km hbb
          have ia : (0 : Int) < (aw.length : Int) := by omega
          have im : (0 : Int) < (mw.length : Int) := by omega
          clear hb hsub hz h3 h4 hca hcm
          go_enter Tryd.func39, Tryd.ntmps39
          go_wp2_with fail
          go_at_call 19
          refine (SS.out _).mono ?_
          rintro e w1 ⟨rfl, hb_w1⟩
          obtain ⟨hc_w1, hf_w1⟩ := bcell hb_w1; have hz_w1_w_0 : w.heap.size < w1.heap.size := (by have hzz := hb_w1.size; (try simp only [World.size_alloc, World.size_setCell, World.size_drew, World.heap_drewN] at hzz); omega); have hs_w1 := hb_w1.size; (try simp only [World.size_alloc, World.size_setCell, World.size_drew, World.heap_drewN] at hs_w1)
          go_wp2_with fail
          go_at_call 37
          refine (check_ok ca (hA.later (by repeat (first | exact Below.refl _ _ | assumption | (refine below_drewN ?_ _) | (refine Below.drew ?_) | (refine Below.alloc ?_ (by first | omega | (simp; omega) | simp) _) | (refine Below.setCell ?_ (by first | omega | (simp; omega) | simp) _) | (refine below_trans ?_ (by assumption) (by first | omega | (simp; omega) | simp))))) H3.out).mono ?_
          rintro e w2 ⟨rfl, hb_w2⟩
          obtain ⟨hc_w2, hf_w2⟩ := bcell hb_w2; have hz_w2_w_0 : w.heap.size < w2.heap.size := (by have hzz := hb_w2.size; (try simp only [World.size_alloc, World.size_setCell, World.size_drew, World.heap_drewN] at hzz); omega); have hs_w2 := hb_w2.size; (try simp only [World.size_alloc, World.size_setCell, World.size_drew, World.heap_drewN] at hs_w2)
          go_wp2_with fail
          go_at_call 37
          refine (check_ok cm (hM.later (by repeat (first | exact Below.refl _ _ | assumption | (refine below_drewN ?_ _) | (refine Below.drew ?_) | (refine Below.alloc ?_ (by first | omega | (simp; omega) | simp) _) | (refine Below.setCell ?_ (by first | omega | (simp; omega) | simp) _) | (refine below_trans ?_ (by assumption) (by first | omega | (simp; omega) | simp))))) H4.out).mono ?_
          rintro e w3 ⟨rfl, hb_w3⟩
          obtain ⟨hc_w3, hf_w3⟩ := bcell hb_w3; have hz_w3_w_0 : w.heap.size < w3.heap.size := (by have hzz := hb_w3.size; (try simp only [World.size_alloc, World.size_setCell, World.size_drew, World.heap_drewN] at hzz); omega); have hs_w3 := hb_w3.size; (try simp only [World.size_alloc, World.size_setCell, World.size_drew, World.heap_drewN] at hs_w3)
          have ka3 : w3.cell? ⟨ba, oa, none⟩ = _ := (hc_w3 _ _ (by first | omega | (simp; omega) | simp)).trans ((hc_w2 _ _ (by first | omega | (simp; omega) | simp)).trans ((hc_w1 _ _ (by first | omega | (simp; omega) | simp)).trans ((World.cell?_alloc_lt _ _ ⟨_, _, _⟩ hba).trans ka)))
          have km3 : w3.cell? ⟨bm, om, none⟩ = _ := (hc_w3 _ _ (by first | omega | (simp; omega) | simp)).trans ((hc_w2 _ _ (by first | omega | (simp; omega) | simp)).trans ((hc_w1 _ _ (by first | omega | (simp; omega) | simp)).trans ((World.cell?_alloc_lt _ _ ⟨_, _, _⟩ hbm).trans km)))
          have k4 : w3.cell? ⟨w.heap.size, 4, none⟩ = some (.slice (some ⟨ba, oa, none⟩) aw.length ca) := (hc_w3 _ _ (by first | omega | (simp; omega) | simp)).trans ((hc_w2 _ _ (by first | omega | (simp; omega) | simp)).trans ((hc_w1 _ _ (by first | omega | (simp; omega) | simp)).trans (by simp [go_sem])))
          have k6 : w3.cell? ⟨w.heap.size, 6, none⟩ = some (.slice (some ⟨bm, om, none⟩) mw.length cm) := (hc_w3 _ _ (by first | omega | (simp; omega) | simp)).trans ((hc_w2 _ _ (by first | omega | (simp; omega) | simp)).trans ((hc_w1 _ _ (by first | omega | (simp; omega) | simp)).trans (by simp [go_sem])))
          go_wp2_with fail
          go_region_held3 (fun X : World => X.cell? ⟨w.heap.size, 4, none⟩ = some (.slice (some ⟨ba, oa, none⟩) aw.length ca) ∧ X.cell? ⟨w.heap.size, 6, none⟩ = some (.slice (some ⟨bm, om, none⟩) mw.length cm) ∧ X.cell? ⟨ba, oa, none⟩ = some (.int .u64 (x : Nat)) ∧ X.cell? ⟨bm, om, none⟩ = some (.int .u64 (y : Nat)))
            ((refine ⟨?_, ?_, ?_, ?_⟩ <;> first | assumption | (simp [go_sem]; done))) (fail)
          all_goals
            go_wp2
            go_ret
            exact ⟨by rw [← hbb]; rfl, (by repeat (first | exact Below.refl _ _ | assumption | (refine below_drewN ?_ _) | (refine Below.drew ?_) | (refine Below.alloc ?_ (by first | omega | (simp; omega) | simp) _) | (refine Below.setCell ?_ (by first | omega | (simp; omega) | simp) _) | (refine below_trans ?_ (by assumption) (by first | omega | (simp; omega) | simp))))⟩
        · obtain rfl : b = false := by
            cases b
            · rfl
            · exact absurd (hb.1 rfl).2.2.2.1 h4
          have H4 := Lib.hid h4
          clear hb h3 h4
          go_enter Tryd.func39, Tryd.ntmps39
          go_wp2_with fail
          go_at_call 19
          refine (SS.out _).mono ?_
          rintro e w1 ⟨rfl, hb_w1⟩
          obtain ⟨hc_w1, hf_w1⟩ := bcell hb_w1; have hz_w1_w_0 : w.heap.size < w1.heap.size := (by have hzz := hb_w1.size; (try simp only [World.size_alloc, World.size_setCell, World.size_drew, World.heap_drewN] at hzz); omega); have hs_w1 := hb_w1.size; (try simp only [World.size_alloc, World.size_setCell, World.size_drew, World.heap_drewN] at hs_w1)
          go_wp2_with fail
          go_at_call 37
          refine (check_ok ca (hA.later (by repeat (first | exact Below.refl _ _ | assumption | (refine below_drewN ?_ _) | (refine Below.drew ?_) | (refine Below.alloc ?_ (by first | omega | (simp; omega) | simp) _) | (refine Below.setCell ?_ (by first | omega | (simp; omega) | simp) _) | (refine below_trans ?_ (by assumption) (by first | omega | (simp; omega) | simp))))) H3.out).mono ?_
          rintro e w2 ⟨rfl, hb_w2⟩
          obtain ⟨hc_w2, hf_w2⟩ := bcell hb_w2; have hz_w2_w_0 : w.heap.size < w2.heap.size := (by have hzz := hb_w2.size; (try simp only [World.size_alloc, World.size_setCell, World.size_drew, World.heap_drewN] at hzz); omega); have hs_w2 := hb_w2.size; (try simp only [World.size_alloc, World.size_setCell, World.size_drew, World.heap_drewN] at hs_w2)
          go_wp2_with fail
          go_at_call 37
          refine (check_bad cm (hM.later (by repeat (first | exact Below.refl _ _ | assumption | (refine below_drewN ?_ _) | (refine Below.drew ?_) | (refine Below.alloc ?_ (by first | omega | (simp; omega) | simp) _) | (refine Below.setCell ?_ (by first | omega | (simp; omega) | simp) _) | (refine below_trans ?_ (by assumption) (by first | omega | (simp; omega) | simp))))) H4.out).mono ?_
          rintro e w3 ⟨rfl, hb_w3⟩
          obtain ⟨hc_w3, hf_w3⟩ := bcell hb_w3; have hz_w3_w_0 : w.heap.size < w3.heap.size := (by have hzz := hb_w3.size; (try simp only [World.size_alloc, World.size_setCell, World.size_drew, World.heap_drewN] at hzz); omega); have hs_w3 := hb_w3.size; (try simp only [World.size_alloc, World.size_setCell, World.size_drew, World.heap_drewN] at hs_w3)
          go_wp2
          go_ret
          exact ⟨rfl, (by repeat (first | exact Below.refl _ _ | assumption | (refine below_drewN ?_ _) | (refine Below.drew ?_) | (refine Below.alloc ?_ (by first | omega | (simp; omega) | simp) _) | (refine Below.setCell ?_ (by first | omega | (simp; omega) | simp) _) | (refine below_trans ?_ (by assumption) (by first | omega | (simp; omega) | simp))))⟩
      · obtain rfl : b = false := by
          cases b
          · rfl
          · exact absurd (hb.1 rfl).2.2.1 h3
        have H3 := Lib.hid h3
        clear hb h3
        go_enter Tryd.func39, Tryd.ntmps39
        go_wp2_with fail
        go_at_call 19
        refine (SS.out _).mono ?_
        rintro e w1 ⟨rfl, hb_w1⟩
        obtain ⟨hc_w1, hf_w1⟩ := bcell hb_w1; have hz_w1_w_0 : w.heap.size < w1.heap.size := (by have hzz := hb_w1.size; (try simp only [World.size_alloc, World.size_setCell, World.size_drew, World.heap_drewN] at hzz); omega); have hs_w1 := hb_w1.size; (try simp only [World.size_alloc, World.size_setCell, World.size_drew, World.heap_drewN] at hs_w1)
        go_wp2_with fail
        go_at_call 37
        refine (check_bad ca (hA.later (by repeat (first | exact Below.refl _ _ | assumption | (refine below_drewN ?_ _) | (refine Below.drew ?_) | (refine Below.alloc ?_ (by first | omega | (simp; omega) | simp) _) | (refine Below.setCell ?_ (by first | omega | (simp; omega) | simp) _) | (refine below_trans ?_ (by assumption) (by first | omega | (simp; omega) | simp))))) H3.out).mono ?_
        rintro e w2 ⟨rfl, hb_w2⟩
        obtain ⟨hc_w2, hf_w2⟩ := bcell hb_w2; have hz_w2_w_0 : w.heap.size < w2.heap.size := (by have hzz := hb_w2.size; (try simp only [World.size_alloc, World.size_setCell, World.size_drew, World.heap_drewN] at hzz); omega); have hs_w2 := hb_w2.size; (try simp only [World.size_alloc, World.size_setCell, World.size_drew, World.heap_drewN] at hs_w2)
        go_wp2
        go_ret
        exact ⟨rfl, (by repeat (first | exact Below.refl _ _ | assumption | (refine below_drewN ?_ _) | (refine Below.drew ?_) | (refine Below.alloc ?_ (by first | omega | (simp; omega) | simp) _) | (refine Below.setCell ?_ (by first | omega | (simp; omega) | simp) _) | (refine below_trans ?_ (by assumption) (by first | omega | (simp; omega) | simp))))⟩
    · obtain rfl : b = false := by
        cases b
        · rfl
        · exact absurd (hb.1 rfl).2.1 h2
      have d2 : (mn != an) = true := by simpa using h2
      clear hb h2
      go_enter Tryd.func39, Tryd.ntmps39
      go_wp2_with fail
      go_at_call 19
      refine (SS.out _).mono ?_
      rintro e w1 ⟨rfl, hb_w1⟩
      obtain ⟨hc_w1, hf_w1⟩ := bcell hb_w1; have hz_w1_w_0 : w.heap.size < w1.heap.size := (by have hzz := hb_w1.size; (try simp only [World.size_alloc, World.size_setCell, World.size_drew, World.heap_drewN] at hzz); omega); have hs_w1 := hb_w1.size; (try simp only [World.size_alloc, World.size_setCell, World.size_drew, World.heap_drewN] at hs_w1)
      go_wp2
      go_ret
      exact ⟨rfl, (by repeat (first | exact Below.refl _ _ | assumption | (refine below_drewN ?_ _) | (refine Below.drew ?_) | (refine Below.alloc ?_ (by first | omega | (simp; omega) | simp) _) | (refine Below.setCell ?_ (by first | omega | (simp; omega) | simp) _) | (refine below_trans ?_ (by assumption) (by first | omega | (simp; omega) | simp))))⟩
  · obtain rfl : b = false := by
      cases b
      · rfl
      · exact absurd (hb.1 rfl).1 h1
    have d1 : (an != n) = true := by simpa using h1
    clear hb h1
    go_enter Tryd.func39, Tryd.ntmps39
    go_wp2_with fail
    go_at_call 19
    refine (SS.out _).mono ?_
    rintro e w1 ⟨rfl, hb_w1⟩
    obtain ⟨hc_w1, hf_w1⟩ := bcell hb_w1; have hz_w1_w_0 : w.heap.size < w1.heap.size := (by have hzz := hb_w1.size; (try simp only [World.size_alloc, World.size_setCell, World.size_drew, World.heap_drewN] at hzz); omega); have hs_w1 := hb_w1.size; (try simp only [World.size_alloc, World.size_setCell, World.size_drew, World.heap_drewN] at hs_w1)
    go_wp2
    go_ret
    exact ⟨rfl, (by repeat (first | exact Below.refl _ _ | assumption | (refine below_drewN ?_ _) | (refine Below.drew ?_) | (refine Below.alloc ?_ (by first | omega | (simp; omega) | simp) _) | (refine Below.setCell ?_ (by first | omega | (simp; omega) | simp) _) | (refine below_trans ?_ (by assumption) (by first | omega | (simp; omega) | simp))))⟩
set_option maxHeartbeats 1000000 in
theorem svalid_any (hA : Row w w.heap.size A d.aw) (hM : Row w w.heap.size M d.mw) (b : Bool) (hb : b = true ↔ Ok1 d) :
    Calls Tryd.prog 33 #[spv d A ca M cm] w fun e w' => e = .returned (.bool b) ∧ Below w.heap.size w w' := by
  rw [ok1_iff] at hb
  have Z := fun (w : World) b hb => ssized_any (w := w) d A ca M cm b hb
  have P := fun (w : World) hp b hb => splaced_any (w := w) d A ca M cm hp b hb
  have R := fun (w : World) hA hM h b hb => srecorded_any (w := w) (d := d) (A := A) (M := M) (p := d.p) ca cm h hA hM b hb
  by_cases h1 : Sized d.p d.z
  · have hs := h1.slots
    have hp : 1 ≤ d.p ∧ d.p ≤ 4 := by omega
    by_cases h2 : Placed d.f d.p
    · have hb2 : b = true ↔ Rec d := by rw [hb]; exact ⟨fun h => h.2.2, fun h => ⟨h1, h2, h⟩⟩
      have Z1 := Lib.hid fun w => Z w true (decide_eq_true h1)
      have P1 := Lib.hid fun w => P w hp true (decide_eq_true h2)
      have R1 := Lib.hid fun w hA hM => R w hA hM h1 b hb2
      clear Z P R hb hb2 h1 h2 hs hp
      obtain ⟨f, p', z, an, aw, mn, mw, s⟩ := d
      simp only at hA hM Z1 P1 R1
      unfold spv at Z1 P1 R1 ⊢
      simp only at Z1 P1 R1 ⊢
      go_enter Tryd.func33, Tryd.ntmps33
      go_wp2_with fail
      go_at_call 17
      refine (Z1.out _).mono ?_
      rintro e w1 ⟨rfl, hb_w1⟩
      obtain ⟨hc_w1, hf_w1⟩ := bcell hb_w1; have hz_w1_w_0 : w.heap.size < w1.heap.size := (by have hzz := hb_w1.size; (try simp only [World.size_alloc, World.size_setCell, World.size_drew, World.heap_drewN] at hzz); omega); have hs_w1 := hb_w1.size; (try simp only [World.size_alloc, World.size_setCell, World.size_drew, World.heap_drewN] at hs_w1)
      go_wp2_with fail
      go_at_call 18
      refine (P1.out _).mono ?_
      rintro e w2 ⟨rfl, hb_w2⟩
      obtain ⟨hc_w2, hf_w2⟩ := bcell hb_w2; have hz_w2_w_0 : w.heap.size < w2.heap.size := (by have hzz := hb_w2.size; (try simp only [World.size_alloc, World.size_setCell, World.size_drew, World.heap_drewN] at hzz); omega); have hs_w2 := hb_w2.size; (try simp only [World.size_alloc, World.size_setCell, World.size_drew, World.heap_drewN] at hs_w2)
      go_wp2_with fail
      go_at_call 39
      refine (R1.out _ (hA.later (by repeat (first | exact Below.refl _ _ | assumption | (refine below_drewN ?_ _) | (refine Below.drew ?_) | (refine Below.alloc ?_ (by first | omega | (simp; omega) | simp) _) | (refine Below.setCell ?_ (by first | omega | (simp; omega) | simp) _) | (refine below_trans ?_ (by assumption) (by first | omega | (simp; omega) | simp))))) (hM.later (by repeat (first | exact Below.refl _ _ | assumption | (refine below_drewN ?_ _) | (refine Below.drew ?_) | (refine Below.alloc ?_ (by first | omega | (simp; omega) | simp) _) | (refine Below.setCell ?_ (by first | omega | (simp; omega) | simp) _) | (refine below_trans ?_ (by assumption) (by first | omega | (simp; omega) | simp)))))).mono ?_
      rintro e w3 ⟨rfl, hb_w3⟩
      obtain ⟨hc_w3, hf_w3⟩ := bcell hb_w3; have hz_w3_w_0 : w.heap.size < w3.heap.size := (by have hzz := hb_w3.size; (try simp only [World.size_alloc, World.size_setCell, World.size_drew, World.heap_drewN] at hzz); omega); have hs_w3 := hb_w3.size; (try simp only [World.size_alloc, World.size_setCell, World.size_drew, World.heap_drewN] at hs_w3)
      go_wp2
      go_ret
      exact ⟨rfl, (by repeat (first | exact Below.refl _ _ | assumption | (refine below_drewN ?_ _) | (refine Below.drew ?_) | (refine Below.alloc ?_ (by first | omega | (simp; omega) | simp) _) | (refine Below.setCell ?_ (by first | omega | (simp; omega) | simp) _) | (refine below_trans ?_ (by assumption) (by first | omega | (simp; omega) | simp))))⟩
    · obtain rfl : b = false := by
        cases b
        · rfl
        · exact absurd (hb.1 rfl).2.1 h2
      have Z1 := Lib.hid fun w => Z w true (decide_eq_true h1)
      have P1 := Lib.hid fun w => P w hp false (decide_eq_false h2)
      clear Z P R hb h1 h2 hs hp
      obtain ⟨f, p', z, an, aw, mn, mw, s⟩ := d
      unfold spv at Z1 P1 ⊢
      simp only at Z1 P1 ⊢
      go_enter Tryd.func33, Tryd.ntmps33
      go_wp2_with fail
      go_at_call 17
      refine (Z1.out _).mono ?_
      rintro e w1 ⟨rfl, hb_w1⟩
      obtain ⟨hc_w1, hf_w1⟩ := bcell hb_w1; have hz_w1_w_0 : w.heap.size < w1.heap.size := (by have hzz := hb_w1.size; (try simp only [World.size_alloc, World.size_setCell, World.size_drew, World.heap_drewN] at hzz); omega); have hs_w1 := hb_w1.size; (try simp only [World.size_alloc, World.size_setCell, World.size_drew, World.heap_drewN] at hs_w1)
      go_wp2_with fail
      go_at_call 18
      refine (P1.out _).mono ?_
      rintro e w2 ⟨rfl, hb_w2⟩
      obtain ⟨hc_w2, hf_w2⟩ := bcell hb_w2; have hz_w2_w_0 : w.heap.size < w2.heap.size := (by have hzz := hb_w2.size; (try simp only [World.size_alloc, World.size_setCell, World.size_drew, World.heap_drewN] at hzz); omega); have hs_w2 := hb_w2.size; (try simp only [World.size_alloc, World.size_setCell, World.size_drew, World.heap_drewN] at hs_w2)
      go_wp2
      go_ret
      exact ⟨rfl, (by repeat (first | exact Below.refl _ _ | assumption | (refine below_drewN ?_ _) | (refine Below.drew ?_) | (refine Below.alloc ?_ (by first | omega | (simp; omega) | simp) _) | (refine Below.setCell ?_ (by first | omega | (simp; omega) | simp) _) | (refine below_trans ?_ (by assumption) (by first | omega | (simp; omega) | simp))))⟩
  · obtain rfl : b = false := by
      cases b
      · rfl
      · exact absurd (hb.1 rfl).1 h1
    have Z1 := Lib.hid fun w => Z w false (decide_eq_false h1)
    clear Z P R hb h1
    obtain ⟨f, p', z, an, aw, mn, mw, s⟩ := d
    unfold spv at Z1 ⊢
    simp only at Z1 ⊢
    go_enter Tryd.func33, Tryd.ntmps33
    go_wp2_with fail
    go_at_call 17
    refine (Z1.out _).mono ?_
    rintro e w1 ⟨rfl, hb_w1⟩
    obtain ⟨hc_w1, hf_w1⟩ := bcell hb_w1; have hz_w1_w_0 : w.heap.size < w1.heap.size := (by have hzz := hb_w1.size; (try simp only [World.size_alloc, World.size_setCell, World.size_drew, World.heap_drewN] at hzz); omega); have hs_w1 := hb_w1.size; (try simp only [World.size_alloc, World.size_setCell, World.size_drew, World.heap_drewN] at hs_w1)
    go_wp2
    go_ret
    exact ⟨rfl, (by repeat (first | exact Below.refl _ _ | assumption | (refine below_drewN ?_ _) | (refine Below.drew ?_) | (refine Below.alloc ?_ (by first | omega | (simp; omega) | simp) _) | (refine Below.setCell ?_ (by first | omega | (simp; omega) | simp) _) | (refine below_trans ?_ (by assumption) (by first | omega | (simp; omega) | simp))))⟩
end
end Go.Proofs.YtbefjhgegoginaaDoor
