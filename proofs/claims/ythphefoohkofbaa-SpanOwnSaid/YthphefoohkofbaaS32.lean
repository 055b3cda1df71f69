/- Plain facts of slots' addresses; the walks of the laws SpanApart, SpanFound. -/
import Derived.Test.YthphefoohkofbaaME
namespace Go.Proofs.Ythphefoohkofbaa
open Go.RowKit
set_option linter.unusedVariables false
set_option linter.unusedSimpArgs false

theorem OkL.apart {l : List Sd} (h : OkL l) {i k : Nat} (hik : i < k) (hk : k < l.length) : (nth l i).f + (nth l i).p ≤ (nth l k).f := by
  induction k with
  | zero => omega
  | succ k ih =>
    have h1 := h.2.2 k hk
    by_cases e : i = k
    · subst e; exact h1
    · have h2 := ih (by omega) (by omega)
      have := (h.2.1 k (by omega)).sized.slots
      omega
/-- a slot's words lie in its span's pages -/
theorem Ok1.in_ {d : Sd} (h : Ok1 d) {a : Int} (h0 : 0 ≤ a) (h1 : a < slotsOf d.z) : 0 ≤ a * d.z ∧ a * d.z + 2 ≤ d.p * 16 := by
  obtain ⟨f, p, z, an, aw, mn, mw, s⟩ := d
  have hs := h.sized
  simp only at *
  rcases hs with ⟨rfl | rfl | rfl | rfl, rfl⟩ | ⟨rfl, g1, g2⟩
  · rw [show slotsOf 2 = 8 by decide] at h1; omega
  · rw [show slotsOf 4 = 4 by decide] at h1; omega
  · rw [show slotsOf 8 = 2 by decide] at h1; omega
  · rw [show slotsOf 16 = 1 by decide] at h1; omega
  · omega
theorem Ok1.step {d : Sd} (h : Ok1 d) {a b : Int} (h0 : 0 ≤ a) (h1 : a < slotsOf d.z) (h2 : 0 ≤ b) (h3 : b < slotsOf d.z) (hne : a ≠ b) : a * d.z + 2 ≤ b * d.z ∨ b * d.z + 2 ≤ a * d.z := by
  obtain ⟨f, p, z, an, aw, mn, mw, s⟩ := d
  have hs := h.sized
  simp only at *
  rcases hs with ⟨rfl | rfl | rfl | rfl, rfl⟩ | ⟨rfl, g1, g2⟩
  · omega
  · omega
  · omega
  · omega
  · rw [show slotsOf 0 = 1 by decide] at h1 h3
    omega
theorem AddrE.ex (d : Sd) (k : Int) : ∃ r y, AddrE d k r y := by
  by_cases h : Ok1 d
  · by_cases hk : 0 ≤ k ∧ k < slotsOf d.z
    · exact ⟨_, _, .inl ⟨h, hk.1, hk.2, rfl, rfl⟩⟩
    · exact ⟨_, _, .inr (.inl ⟨h, hk, rfl, rfl⟩)⟩
  · exact ⟨_, _, .inr (.inr ⟨h, rfl, rfl⟩)⟩
theorem FindE.ex (l : List Sd) (a : Nat) : ∃ x k y, FindE l a x k y := by
  by_cases h : OkL l
  · obtain ⟨x, hx⟩ := IdxE.ex l (inP a)
    rcases hx with ⟨rfl, h2⟩ | ⟨i, rfl, h2⟩
    · exact ⟨_, _, _, .inr (.inl ⟨h, .inl ⟨rfl, h2⟩, rfl, rfl, rfl⟩)⟩
    · obtain ⟨k, hk⟩ := IdxN.ex (slotsOf (nth l i).z).toNat (isAt a (nth l i))
      rcases hk with ⟨rfl, h3⟩ | ⟨j, rfl, h3⟩
      · exact ⟨_, _, _, .inr (.inr ⟨i, h, .inr ⟨i, rfl, h2⟩, .inl ⟨.inl ⟨rfl, h3⟩, rfl, rfl, rfl⟩⟩)⟩
      · exact ⟨_, _, _, .inr (.inr ⟨i, h, .inr ⟨i, rfl, h2⟩, .inr ⟨j, .inr ⟨j, rfl, h3⟩, rfl, rfl, rfl⟩⟩)⟩
  · exact ⟨_, _, _, .inl ⟨h, rfl, rfl, rfl⟩⟩
theorem okL_check (l : List Sd) : ∃ y : Int, (OkL l ∧ y = 0) ∨ (¬ OkL l ∧ y = 2) := by
  by_cases h : OkL l
  · exact ⟨0, .inl ⟨h, rfl⟩⟩
  · exact ⟨2, .inr ⟨h, rfl⟩⟩
/-- where a slot's address leads -/
theorem find_slot {l : List Sd} (h : OkL l) {i : Nat} (hi : i < l.length) {k : Nat} (hk : (k : Int) < slotsOf (nth l i).z) (a : Nat) (ha : (a : Int) = (nth l i).f * 16 + (k : Int) * (nth l i).z) :
    ∃ x k' y, FindE l a x k' y ∧ ((tb (nth l i).aw k = true ∧ x = i ∧ k' = k ∧ y = 0) ∨ (tb (nth l i).aw k = false ∧ y = 10)) := by
  have ho := h.2.1 i hi
  have hin := ho.in_ (by omega) hk
  have hI : IdxE l (inP a) (i : Nat) := .inr ⟨i, rfl, hi, by
    unfold inP
    rw [decide_eq_true_eq]
    omega, fun j hj => by
    have hjo := h.2.1 j (by omega)
    have hap := h.apart hj hi
    have := ho.placed
    unfold inP
    rw [decide_eq_false_iff_not]
    omega⟩
  have hat : ∀ j : Nat, (j : Int) < slotsOf (nth l i).z → j ≠ k → isAt a (nth l i) j = false := fun j hj hne => by
    unfold isAt
    rw [Bool.and_eq_false_iff]
    left
    rw [decide_eq_false_iff_not]
    have := ho.step (a := (j : Int)) (b := (k : Int)) (by omega) hj (by omega) hk (by omega)
    omega
  have hkk : isAt a (nth l i) k = tb (nth l i).aw k := by
    unfold isAt
    rw [decide_eq_true (by omega), Bool.true_and]
  cases hb : tb (nth l i).aw k
  · refine ⟨_, _, _, .inr (.inr ⟨i, h, hI, .inl ⟨.inl ⟨rfl, fun j hj => ?_⟩, rfl, rfl, rfl⟩⟩), .inr ⟨rfl, rfl⟩⟩
    by_cases e : j = k
    · rw [e, hkk, hb]
    · exact hat j (by omega) e
  · refine ⟨_, _, _, .inr (.inr ⟨i, h, hI, .inr ⟨k, .inr ⟨k, rfl, by omega, by rw [hkk, hb], fun j hj => hat j (by omega) (by omega)⟩, rfl, rfl, rfl⟩⟩), .inl ⟨rfl, rfl, rfl, rfl⟩⟩
/-- what leads to a slot is its address -/
theorem find_back {l : List Sd} {a : Nat} {x k y : Int} (h : FindE l a x k y) (hy : y = 0) (i : Nat) (hx : x = i) : (a : Int) = (nth l i).f * 16 + k * (nth l i).z := by
  rcases h with ⟨_, _, _, e⟩ | ⟨_, _, _, _, e⟩ | ⟨i', _, _, ⟨_, _, _, e⟩ | ⟨j, hj, e1, e2, _⟩⟩
  · rw [hy] at e; cases e
  · rw [hy] at e; cases e
  · rw [hy] at e; cases e
  · have : i' = i := by omega
    subst this
    rcases hj with ⟨e3, _⟩ | ⟨j', e3, _, h4, _⟩
    · omega
    · have : j' = j := by omega
      subst this
      unfold isAt at h4
      rw [Bool.and_eq_true, decide_eq_true_eq] at h4
      rw [e2]
      omega
section
variable {w : World} {A : Option Addr} {l : List Sd} (cap : Nat)
set_option maxHeartbeats 4000000 in
theorem spanApart_walk (i k a b : Int) (w : World) (hr : SRow w w.heap.size A l) (hl : l.length ≤ 1466015503658) (hi1 : -9223372036854775808 ≤ i) (hi2 : i ≤ 9223372036854775807) (hk1 : -9223372036854775808 ≤ k) (hk2 : k ≤ 9223372036854775807) :
    Calls Try.prog 9 #[.slice A l.length cap, .int .i64 i, .int .i64 k, .int .i64 a, .int .i64 b] w fun e w' => e = .returned (.bool true) ∧ Below w.heap.size w w' := by
  have hl2 : l.length ≤ 17592186044416 := by omega
  obtain ⟨y0, hC0⟩ := okL_check l
  have HC := Lib.hid fun (w : World) hr => scheck_any (w := w) (A := A) (l := l) cap hr hl2 y0 hC0
  by_cases hok : OkL l
  · obtain rfl : y0 = 0 := by
      rcases hC0 with ⟨_, h⟩ | ⟨h, _⟩
      · exact h
      · exact absurd hok h
    clear hC0
    by_cases h1 : i < 0
    · have d1 : decide (i < 0) = true := decide_eq_true h1
      clear hok
      go_enter Try.func9, Try.ntmps9
      go_wp2_with fail
      go_at_call 17
      refine (slives_any _).mono ?_
      rintro e w1 ⟨rfl, hb_w1⟩
      obtain ⟨hc_w1, hf_w1⟩ := bcell hb_w1; have hs_w1 := hb_w1.size; (try simp only [World.size_alloc, World.size_setCell, World.size_drew, World.heap_drewN] at hs_w1)
      have b1 : Below w.heap.size w w1 := (by repeat (first | exact Below.refl _ _ | assumption | (refine below_drewN ?_ _) | (refine Below.drew ?_) | (refine Below.alloc ?_ (by first | omega | (simp; omega) | simp) _) | (refine Below.setCell ?_ (by first | omega | (simp; omega) | simp) _) | (refine below_trans ?_ (by assumption) (by first | omega | (simp; omega) | simp))))
      go_wp2_with fail
      go_at_call 19
      refine (HC.out _ ((hr.later b1).later (by repeat (first | exact Below.refl _ _ | assumption | (refine below_drewN ?_ _) | (refine Below.drew ?_) | (refine Below.alloc ?_ (by first | omega | (simp; omega) | simp) _) | (refine Below.setCell ?_ (by first | omega | (simp; omega) | simp) _) | (refine below_trans ?_ (by assumption) (by first | omega | (simp; omega) | simp)))))).mono ?_
      rintro e w2 ⟨rfl, hb_w2⟩
      obtain ⟨hc_w2, hf_w2⟩ := bcell hb_w2; have hs_w2 := hb_w2.size; (try simp only [World.size_alloc, World.size_setCell, World.size_drew, World.heap_drewN] at hs_w2)
      go_wp2
      go_ret
      exact ⟨rfl, (by repeat (first | exact Below.refl _ _ | assumption | (refine below_drewN ?_ _) | (refine Below.drew ?_) | (refine Below.alloc ?_ (by first | omega | (simp; omega) | simp) _) | (refine Below.setCell ?_ (by first | omega | (simp; omega) | simp) _) | (refine below_trans ?_ (by assumption) (by first | omega | (simp; omega) | simp))))⟩
    · have d1 : decide (i < 0) = false := decide_eq_false h1
      by_cases h2 : k < 0
      · have d2 : decide (k < 0) = true := decide_eq_true h2
        clear hok
        go_enter Try.func9, Try.ntmps9
        go_wp2_with fail
        go_at_call 17
        refine (slives_any _).mono ?_
        rintro e w1 ⟨rfl, hb_w1⟩
        obtain ⟨hc_w1, hf_w1⟩ := bcell hb_w1; have hs_w1 := hb_w1.size; (try simp only [World.size_alloc, World.size_setCell, World.size_drew, World.heap_drewN] at hs_w1)
        have b1 : Below w.heap.size w w1 := (by repeat (first | exact Below.refl _ _ | assumption | (refine below_drewN ?_ _) | (refine Below.drew ?_) | (refine Below.alloc ?_ (by first | omega | (simp; omega) | simp) _) | (refine Below.setCell ?_ (by first | omega | (simp; omega) | simp) _) | (refine below_trans ?_ (by assumption) (by first | omega | (simp; omega) | simp))))
        go_wp2_with fail
        go_at_call 19
        refine (HC.out _ ((hr.later b1).later (by repeat (first | exact Below.refl _ _ | assumption | (refine below_drewN ?_ _) | (refine Below.drew ?_) | (refine Below.alloc ?_ (by first | omega | (simp; omega) | simp) _) | (refine Below.setCell ?_ (by first | omega | (simp; omega) | simp) _) | (refine below_trans ?_ (by assumption) (by first | omega | (simp; omega) | simp)))))).mono ?_
        rintro e w2 ⟨rfl, hb_w2⟩
        obtain ⟨hc_w2, hf_w2⟩ := bcell hb_w2; have hs_w2 := hb_w2.size; (try simp only [World.size_alloc, World.size_setCell, World.size_drew, World.heap_drewN] at hs_w2)
        go_wp2
        go_ret
        exact ⟨rfl, (by repeat (first | exact Below.refl _ _ | assumption | (refine below_drewN ?_ _) | (refine Below.drew ?_) | (refine Below.alloc ?_ (by first | omega | (simp; omega) | simp) _) | (refine Below.setCell ?_ (by first | omega | (simp; omega) | simp) _) | (refine below_trans ?_ (by assumption) (by first | omega | (simp; omega) | simp))))⟩
      · have d2 : decide (k < 0) = false := decide_eq_false h2
        by_cases h3 : (l.length : Int) ≤ i
        · have d3 : decide ((l.length : Int) ≤ i) = true := decide_eq_true h3
          clear hok
          go_enter Try.func9, Try.ntmps9
          go_wp2_with fail
          go_at_call 17
          refine (slives_any _).mono ?_
          rintro e w1 ⟨rfl, hb_w1⟩
          obtain ⟨hc_w1, hf_w1⟩ := bcell hb_w1; have hs_w1 := hb_w1.size; (try simp only [World.size_alloc, World.size_setCell, World.size_drew, World.heap_drewN] at hs_w1)
          have b1 : Below w.heap.size w w1 := (by repeat (first | exact Below.refl _ _ | assumption | (refine below_drewN ?_ _) | (refine Below.drew ?_) | (refine Below.alloc ?_ (by first | omega | (simp; omega) | simp) _) | (refine Below.setCell ?_ (by first | omega | (simp; omega) | simp) _) | (refine below_trans ?_ (by assumption) (by first | omega | (simp; omega) | simp))))
          go_wp2_with fail
          go_at_call 19
          refine (HC.out _ ((hr.later b1).later (by repeat (first | exact Below.refl _ _ | assumption | (refine below_drewN ?_ _) | (refine Below.drew ?_) | (refine Below.alloc ?_ (by first | omega | (simp; omega) | simp) _) | (refine Below.setCell ?_ (by first | omega | (simp; omega) | simp) _) | (refine below_trans ?_ (by assumption) (by first | omega | (simp; omega) | simp)))))).mono ?_
          rintro e w2 ⟨rfl, hb_w2⟩
          obtain ⟨hc_w2, hf_w2⟩ := bcell hb_w2; have hs_w2 := hb_w2.size; (try simp only [World.size_alloc, World.size_setCell, World.size_drew, World.heap_drewN] at hs_w2)
          go_wp2
          go_ret
          exact ⟨rfl, (by repeat (first | exact Below.refl _ _ | assumption | (refine below_drewN ?_ _) | (refine Below.drew ?_) | (refine Below.alloc ?_ (by first | omega | (simp; omega) | simp) _) | (refine Below.setCell ?_ (by first | omega | (simp; omega) | simp) _) | (refine below_trans ?_ (by assumption) (by first | omega | (simp; omega) | simp))))⟩
        · by_cases h4 : (l.length : Int) ≤ k
          · have d3 : decide ((l.length : Int) ≤ i) = false := decide_eq_false h3
            have d4 : decide ((l.length : Int) ≤ k) = true := decide_eq_true h4
            clear hok
            go_enter Try.func9, Try.ntmps9
            go_wp2_with fail
            go_at_call 17
            refine (slives_any _).mono ?_
            rintro e w1 ⟨rfl, hb_w1⟩
            obtain ⟨hc_w1, hf_w1⟩ := bcell hb_w1; have hs_w1 := hb_w1.size; (try simp only [World.size_alloc, World.size_setCell, World.size_drew, World.heap_drewN] at hs_w1)
            have b1 : Below w.heap.size w w1 := (by repeat (first | exact Below.refl _ _ | assumption | (refine below_drewN ?_ _) | (refine Below.drew ?_) | (refine Below.alloc ?_ (by first | omega | (simp; omega) | simp) _) | (refine Below.setCell ?_ (by first | omega | (simp; omega) | simp) _) | (refine below_trans ?_ (by assumption) (by first | omega | (simp; omega) | simp))))
            go_wp2_with fail
            go_at_call 19
            refine (HC.out _ ((hr.later b1).later (by repeat (first | exact Below.refl _ _ | assumption | (refine below_drewN ?_ _) | (refine Below.drew ?_) | (refine Below.alloc ?_ (by first | omega | (simp; omega) | simp) _) | (refine Below.setCell ?_ (by first | omega | (simp; omega) | simp) _) | (refine below_trans ?_ (by assumption) (by first | omega | (simp; omega) | simp)))))).mono ?_
            rintro e w2 ⟨rfl, hb_w2⟩
            obtain ⟨hc_w2, hf_w2⟩ := bcell hb_w2; have hs_w2 := hb_w2.size; (try simp only [World.size_alloc, World.size_setCell, World.size_drew, World.heap_drewN] at hs_w2)
            go_wp2
            go_ret
            exact ⟨rfl, (by repeat (first | exact Below.refl _ _ | assumption | (refine below_drewN ?_ _) | (refine Below.drew ?_) | (refine Below.alloc ?_ (by first | omega | (simp; omega) | simp) _) | (refine Below.setCell ?_ (by first | omega | (simp; omega) | simp) _) | (refine below_trans ?_ (by assumption) (by first | omega | (simp; omega) | simp))))⟩
          · obtain ⟨i, rfl⟩ := Int.eq_ofNat_of_zero_le (show 0 ≤ i by omega)
            obtain ⟨k, rfl⟩ := Int.eq_ofNat_of_zero_le (show 0 ≤ k by omega)
            have j1 : i < l.length := by omega
            have j2 : k < l.length := by omega
            have i1 : (i : Int) < (l.length : Int) := by omega
            have i2 : (k : Int) < (l.length : Int) := by omega
            have d3 : decide ((l.length : Int) ≤ (i : Int)) = false := decide_eq_false h3
            have d4 : decide ((l.length : Int) ≤ (k : Int)) = false := decide_eq_false h4
            have d3' : decide (l.length ≤ i) = false := decide_eq_false (by omega)
            have d4' : decide (l.length ≤ k) = false := decide_eq_false (by omega)
            obtain ⟨x, y1, hE1⟩ := AddrE.ex (nth l i) a
            obtain ⟨z, y2, hE2⟩ := AddrE.ex (nth l k) b
            have o1 := hok.2.1 i j1
            have o2 := hok.2.1 k j2
            have HA1 := Lib.hid fun (w : World) (A M : Option Addr) (ca cm : Nat) h1 h2 => sAddr_any (w := w) (d := nth l i) (A := A) (M := M) ca cm h1 h2 a x y1 hE1
            have HA2 := Lib.hid fun (w : World) (A M : Option Addr) (ca cm : Nat) h1 h2 => sAddr_any (w := w) (d := nth l k) (A := A) (M := M) ca cm h1 h2 b z y2 hE2
            have hcs : (y1 != 0) = true ∨ ((y1 != 0) = false ∧ (y2 != 0) = true) ∨ ((y1 != 0) = false ∧ (y2 != 0) = false ∧ ((i : Int) == (k : Int)) = true ∧ (a == b) = true) ∨ (((y1 != 0) = false ∧ (y2 != 0) = false ∧ (((i : Int) == (k : Int)) = false ∨ (((i : Int) == (k : Int)) = true ∧ (a == b) = false)) ∧ 0 ≤ x ∧ x ≤ 20000 ∧ 0 ≤ z ∧ z ≤ 20000 ∧ (z + 2 ≤ x ∨ x + 2 ≤ z))) := by
              by_cases e1 : y1 = 0
              · by_cases e2 : y2 = 0
                · have p1 := o1.placed
                  have p2 := o2.placed
                  unfold Placed at p1 p2
                  obtain ⟨a0, a1, rfl⟩ : 0 ≤ a ∧ a < slotsOf (nth l i).z ∧ x = (nth l i).f * 16 + a * (nth l i).z := by
                    rcases hE1 with ⟨_, q1, q2, q3, _⟩ | ⟨_, _, _, q⟩ | ⟨_, _, q⟩
                    · exact ⟨q1, q2, q3⟩
                    · rw [e1] at q; cases q
                    · rw [e1] at q; cases q
                  obtain ⟨b0, b1, rfl⟩ : 0 ≤ b ∧ b < slotsOf (nth l k).z ∧ z = (nth l k).f * 16 + b * (nth l k).z := by
                    rcases hE2 with ⟨_, q1, q2, q3, _⟩ | ⟨_, _, _, q⟩ | ⟨_, _, q⟩
                    · exact ⟨q1, q2, q3⟩
                    · rw [e2] at q; cases q
                    · rw [e2] at q; cases q
                  have in1 := o1.in_ a0 a1
                  have in2 := o2.in_ b0 b1
                  by_cases hik : i = k
                  · subst hik
                    by_cases hab : a = b
                    · exact .inr (.inr (.inl ⟨by simp [e1], by simp [e2], by simp, by simp [hab]⟩))
                    · have := o1.step a0 a1 b0 b1 hab
                      exact .inr (.inr (.inr ⟨by simp [e1], by simp [e2], .inr ⟨by simp, by simpa using hab⟩, by omega, by omega, by omega, by omega, by omega⟩))
                  · refine .inr (.inr (.inr ⟨by simp [e1], by simp [e2], .inl (by simp; omega), by omega, by omega, by omega, by omega, ?_⟩))
                    rcases Nat.lt_or_gt_of_ne hik with h | h
                    · have := hok.apart h j2
                      omega
                    · have := hok.apart h j1
                      omega
                · exact .inr (.inl ⟨by simp [e1], by simpa using e2⟩)
              · exact .inl (by simpa using e1)
            clear hE1 hE2 o1 o2 hok h1 h2 h3 h4
            go_enter Try.func9, Try.ntmps9
            go_wp2_with fail
            go_at_call 17
            refine (slives_any _).mono ?_
            rintro e w1 ⟨rfl, hb_w1⟩
            obtain ⟨hc_w1, hf_w1⟩ := bcell hb_w1; have hs_w1 := hb_w1.size; (try simp only [World.size_alloc, World.size_setCell, World.size_drew, World.heap_drewN] at hs_w1)
            have b1 : Below w.heap.size w w1 := (by repeat (first | exact Below.refl _ _ | assumption | (refine below_drewN ?_ _) | (refine Below.drew ?_) | (refine Below.alloc ?_ (by first | omega | (simp; omega) | simp) _) | (refine Below.setCell ?_ (by first | omega | (simp; omega) | simp) _) | (refine below_trans ?_ (by assumption) (by first | omega | (simp; omega) | simp))))
            go_wp2_with fail
            go_at_call 19
            refine (HC.out _ ((hr.later b1).later (by repeat (first | exact Below.refl _ _ | assumption | (refine below_drewN ?_ _) | (refine Below.drew ?_) | (refine Below.alloc ?_ (by first | omega | (simp; omega) | simp) _) | (refine Below.setCell ?_ (by first | omega | (simp; omega) | simp) _) | (refine below_trans ?_ (by assumption) (by first | omega | (simp; omega) | simp)))))).mono ?_
            rintro e w2 ⟨rfl, hb_w2⟩
            obtain ⟨hc_w2, hf_w2⟩ := bcell hb_w2; have hs_w2 := hb_w2.size; (try simp only [World.size_alloc, World.size_setCell, World.size_drew, World.heap_drewN] at hs_w2)
            have b2 : Below w.heap.size w w2 := (by repeat (first | exact Below.refl _ _ | assumption | (refine below_drewN ?_ _) | (refine Below.drew ?_) | (refine Below.alloc ?_ (by first | omega | (simp; omega) | simp) _) | (refine Below.setCell ?_ (by first | omega | (simp; omega) | simp) _) | (refine below_trans ?_ (by assumption) (by first | omega | (simp; omega) | simp))))
            obtain ⟨b', off, hAe, hbb, hc⟩ := (hr.later b2).at_ (by omega)
            obtain ⟨Aa, ca, Am, cm, c8, ra, rm⟩ := hc i j1
            have H1 := Lib.hid fun (w : World) h1 h2 => HA1.out w Aa Am ca cm h1 h2
            generalize nth l i = d1' at *
            obtain ⟨x0, x1, x2, x3, x4, x5, x6, x7⟩ := c8
            clear hc_w1 hf_w1 hc_w2 hf_w2
            subst hAe
            clear hc HA1
            obtain ⟨f, p, zz, an, aw, mn, mw, s⟩ := d1'
            unfold spv at H1
            simp only at *
            go_wp2_with fail
            go_at_call 15
            refine (H1.out _ (ra.later (by repeat (first | exact Below.refl _ _ | assumption | (refine below_drewN ?_ _) | (refine Below.drew ?_) | (refine Below.alloc ?_ (by first | omega | (simp; omega) | simp) _) | (refine Below.setCell ?_ (by first | omega | (simp; omega) | simp) _) | (refine below_trans ?_ (by assumption) (by first | omega | (simp; omega) | simp))))) (rm.later (by repeat (first | exact Below.refl _ _ | assumption | (refine below_drewN ?_ _) | (refine Below.drew ?_) | (refine Below.alloc ?_ (by first | omega | (simp; omega) | simp) _) | (refine Below.setCell ?_ (by first | omega | (simp; omega) | simp) _) | (refine below_trans ?_ (by assumption) (by first | omega | (simp; omega) | simp)))))).mono ?_
            rintro e w3 ⟨rfl, hb_w3⟩
            obtain ⟨hc_w3, hf_w3⟩ := bcell hb_w3; have hs_w3 := hb_w3.size; (try simp only [World.size_alloc, World.size_setCell, World.size_drew, World.heap_drewN] at hs_w3)
            have b3 : Below w.heap.size w w3 := (by repeat (first | exact Below.refl _ _ | assumption | (refine below_drewN ?_ _) | (refine Below.drew ?_) | (refine Below.alloc ?_ (by first | omega | (simp; omega) | simp) _) | (refine Below.setCell ?_ (by first | omega | (simp; omega) | simp) _) | (refine below_trans ?_ (by assumption) (by first | omega | (simp; omega) | simp))))
            clear x0 x1 x2 x3 x4 x5 x6 x7 H1 hc_w3 hf_w3
            obtain ⟨b'', off', hAe, hbb', hc⟩ := (hr.later b3).at_ (by omega)
            injection hAe with hAe
            injection hAe with hAe1 hAe2
            subst hAe1 hAe2
            obtain ⟨Aa', ca', Am', cm', c8, ra', rm'⟩ := hc k j2
            have H2 := Lib.hid fun (w : World) h1 h2 => HA2.out w Aa' Am' ca' cm' h1 h2
            generalize nth l k = d2' at *
            obtain ⟨x0, x1, x2, x3, x4, x5, x6, x7⟩ := c8
            clear hc HA2
            obtain ⟨f, p, zz, an, aw, mn, mw, s⟩ := d2'
            unfold spv at H2
            simp only at *
            go_wp2_with fail
            go_at_call 15
            refine (H2.out _ (ra'.later (by repeat (first | exact Below.refl _ _ | assumption | (refine below_drewN ?_ _) | (refine Below.drew ?_) | (refine Below.alloc ?_ (by first | omega | (simp; omega) | simp) _) | (refine Below.setCell ?_ (by first | omega | (simp; omega) | simp) _) | (refine below_trans ?_ (by assumption) (by first | omega | (simp; omega) | simp))))) (rm'.later (by repeat (first | exact Below.refl _ _ | assumption | (refine below_drewN ?_ _) | (refine Below.drew ?_) | (refine Below.alloc ?_ (by first | omega | (simp; omega) | simp) _) | (refine Below.setCell ?_ (by first | omega | (simp; omega) | simp) _) | (refine below_trans ?_ (by assumption) (by first | omega | (simp; omega) | simp)))))).mono ?_
            rintro e w4 ⟨rfl, hb_w4⟩
            obtain ⟨hc_w4, hf_w4⟩ := bcell hb_w4; have hs_w4 := hb_w4.size; (try simp only [World.size_alloc, World.size_setCell, World.size_drew, World.heap_drewN] at hs_w4)
            have b4 : Below w.heap.size w w4 := (by repeat (first | exact Below.refl _ _ | assumption | (refine below_drewN ?_ _) | (refine Below.drew ?_) | (refine Below.alloc ?_ (by first | omega | (simp; omega) | simp) _) | (refine Below.setCell ?_ (by first | omega | (simp; omega) | simp) _) | (refine below_trans ?_ (by assumption) (by first | omega | (simp; omega) | simp))))
            clear x0 x1 x2 x3 x4 x5 x6 x7 H2 hc_w4 hf_w4
            rcases hcs with g1 | ⟨g1, g2⟩ | ⟨g1, g2, g3, g4⟩ | ⟨g1, g2, g3, q0, q1, q2, q3, q4⟩
            · go_wp2
              go_ret
              exact ⟨rfl, b4⟩
            · go_wp2
              go_ret
              exact ⟨rfl, b4⟩
            · go_wp2
              go_ret
              exact ⟨rfl, b4⟩
            · have u1 : IntKind.u64.wrap (z + 2) = z + 2 := by rw [IntKind.wrap_u64]; omega
              have u2 : IntKind.u64.wrap (x + 2) = x + 2 := by rw [IntKind.wrap_u64]; omega
              rcases q4 with q4 | q4
              · have v1 : decide (z + 2 ≤ x) = true := decide_eq_true q4
                rcases g3 with g3 | ⟨g3, g4⟩
                · go_wp2
                  go_ret
                  exact ⟨rfl, b4⟩
                · go_wp2
                  go_ret
                  exact ⟨rfl, b4⟩
              · have v1 : decide (z + 2 ≤ x) = false := decide_eq_false (by omega)
                have v2 : decide (x + 2 ≤ z) = true := decide_eq_true q4
                rcases g3 with g3 | ⟨g3, g4⟩
                · go_wp2
                  go_ret
                  exact ⟨rfl, b4⟩
                · go_wp2
                  go_ret
                  exact ⟨rfl, b4⟩
  · obtain rfl : y0 = 2 := by
      rcases hC0 with ⟨h, _⟩ | ⟨_, h⟩
      · exact absurd h hok
      · exact h
    clear hC0 hok
    go_enter Try.func9, Try.ntmps9
    go_wp2_with fail
    go_at_call 17
    refine (slives_any _).mono ?_
    rintro e w1 ⟨rfl, hb_w1⟩
    obtain ⟨hc_w1, hf_w1⟩ := bcell hb_w1; have hs_w1 := hb_w1.size; (try simp only [World.size_alloc, World.size_setCell, World.size_drew, World.heap_drewN] at hs_w1)
    have b1 : Below w.heap.size w w1 := (by repeat (first | exact Below.refl _ _ | assumption | (refine below_drewN ?_ _) | (refine Below.drew ?_) | (refine Below.alloc ?_ (by first | omega | (simp; omega) | simp) _) | (refine Below.setCell ?_ (by first | omega | (simp; omega) | simp) _) | (refine below_trans ?_ (by assumption) (by first | omega | (simp; omega) | simp))))
    go_wp2_with fail
    go_at_call 19
    refine (HC.out _ ((hr.later b1).later (by repeat (first | exact Below.refl _ _ | assumption | (refine below_drewN ?_ _) | (refine Below.drew ?_) | (refine Below.alloc ?_ (by first | omega | (simp; omega) | simp) _) | (refine Below.setCell ?_ (by first | omega | (simp; omega) | simp) _) | (refine below_trans ?_ (by assumption) (by first | omega | (simp; omega) | simp)))))).mono ?_
    rintro e w2 ⟨rfl, hb_w2⟩
    obtain ⟨hc_w2, hf_w2⟩ := bcell hb_w2; have hs_w2 := hb_w2.size; (try simp only [World.size_alloc, World.size_setCell, World.size_drew, World.heap_drewN] at hs_w2)
    go_wp2
    go_ret
    exact ⟨rfl, (by repeat (first | exact Below.refl _ _ | assumption | (refine below_drewN ?_ _) | (refine Below.drew ?_) | (refine Below.alloc ?_ (by first | omega | (simp; omega) | simp) _) | (refine Below.setCell ?_ (by first | omega | (simp; omega) | simp) _) | (refine below_trans ?_ (by assumption) (by first | omega | (simp; omega) | simp))))⟩
end
end Go.Proofs.Ythphefoohkofbaa
