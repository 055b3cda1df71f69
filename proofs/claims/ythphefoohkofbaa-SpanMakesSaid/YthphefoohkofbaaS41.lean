/- The walk of the law SpanMakes. -/
import Derived.Test.YthphefoohkofbaaS39
import Derived.Test.YthphefoohkofbaaS32
namespace Go.Proofs.Ythphefoohkofbaa
open Go.RowKit
set_option linter.unusedVariables false
set_option linter.unusedSimpArgs false

theorem both_make (f p z : Int) : ∃ (d : Sd) (y : Int), (∀ w : World, Calls Try.prog 11 #[.int .i64 f, .int .i64 p, .int .i64 z] w fun e w' => FreshS w d y e w') ∧ (∀ w : World, Calls Try.prog 12 #[.int .i64 f, .int .i64 p, .int .i64 z] w fun e w' => FreshS w d y e w') ∧ d.aw.length ≤ 17592186044416 ∧ d.mw.length ≤ 17592186044416 := by
  by_cases h : Sized p z ∧ Placed f p
  · have hs := h.1.slots
    have hn : (¬ (0 < z ∧ z ≤ 16) ∧ slotsOf z = 1) ∨ (0 < z ∧ z ≤ 16 ∧ slotsOf z = 16 / z) := by
      rcases h.1 with ⟨rfl | rfl | rfl | rfl, _⟩ | ⟨rfl, _⟩
      · exact .inr ⟨by decide, by decide, by decide⟩
      · exact .inr ⟨by decide, by decide, by decide⟩
      · exact .inr ⟨by decide, by decide, by decide⟩
      · exact .inr ⟨by decide, by decide, by decide⟩
      · exact .inl ⟨by decide, by decide⟩
    have hlen : (wordsN (slotsOf z)).length ≤ 17592186044416 := by unfold wordsN; rw [List.length_replicate]; omega
    exact ⟨newSd f p z, 0, fun w => sMake_ok f p z h.1 h.2, fun w => xmake_any f p z (slotsOf z) (wordsN (slotsOf z)) rfl hn true ⟨fun _ => ok1_newSd h.1 h.2, fun _ => rfl⟩, hlen, hlen⟩
  · obtain ⟨n, hn⟩ : ∃ n : Int, (¬ (0 < z ∧ z ≤ 16) ∧ n = 1) ∨ (0 < z ∧ z ≤ 16 ∧ n = 16 / z) := by
      by_cases hz : 0 < z ∧ z ≤ 16
      · exact ⟨_, .inr ⟨hz.1, hz.2, rfl⟩⟩
      · exact ⟨_, .inl ⟨hz, rfl⟩⟩
    exact ⟨sd0, 2, fun w => sMake_bad f p z h, fun w => xmake_any f p z n (wordsN n) rfl hn false ⟨fun e => (by cases e), fun k => absurd ⟨k.sized, k.placed⟩ h⟩, by decide, by decide⟩
theorem slots_ex (d : Sd) : ∃ r y : Int, (Ok1 d ∧ r = slotsOf d.z ∧ y = 0) ∨ (¬ Ok1 d ∧ r = 0 ∧ y = 2) := by
  by_cases h : Ok1 d
  · exact ⟨_, _, .inl ⟨h, rfl, rfl⟩⟩
  · exact ⟨_, _, .inr ⟨h, rfl, rfl⟩⟩
section
variable {A As Ms : Option Addr} {l : List Sd} (cap ca cm : Nat)
set_option maxHeartbeats 8000000 in
theorem spanMakes_walk (f0 p0 z0 : Int) (d : Sd) (k : Int) (w : World) (hr : SRow w w.heap.size A l) (hl : l.length ≤ 1466015503658) (hA : Row w w.heap.size As d.aw) (hM : Row w w.heap.size Ms d.mw) (la : d.aw.length ≤ 17592186044416) (lm : d.mw.length ≤ 17592186044416) :
    Calls Try.prog 3 #[.int .i64 f0, .int .i64 p0, .int .i64 z0, spv d As ca Ms cm, .int .i64 k, .slice A l.length cap] w fun e w' => e = .returned (.bool true) ∧ Below w.heap.size w w' := by
  have hl2 : l.length ≤ 17592186044416 := by omega
  obtain ⟨y0, hC0⟩ := okL_check l
  have HC := Lib.hid fun (w : World) hr => scheck_any (w := w) (A := A) (l := l) cap hr hl2 y0 hC0
  have HD := Lib.hid fun (w : World) hr => xcheckL_any (w := w) (A := A) (l := l) cap hr hl2 y0 hC0
  obtain ⟨dm, ym, g1, g2, g3, g4⟩ := both_make f0 p0 z0
  have H1 := Lib.hid g1
  have H2 := Lib.hid g2
  obtain ⟨rs, ys, hS⟩ := slots_ex d
  obtain ⟨ra, ya, hE⟩ := AddrE.ex d k
  have H3 := Lib.hid fun (w : World) h1 h2 => sSlots_any (w := w) (d := d) (A := As) (M := Ms) ca cm h1 h2 rs ys hS
  have H4 := Lib.hid fun (w : World) h1 h2 => xslots_any (w := w) (d := d) (A := As) (M := Ms) ca cm h1 h2 rs ys hS
  have H5 := Lib.hid fun (w : World) h1 h2 => sAddr_any (w := w) (d := d) (A := As) (M := Ms) ca cm h1 h2 k ra ya hE
  have H6 := Lib.hid fun (w : World) h1 h2 => xaddr_any (w := w) (d := d) (A := As) (M := Ms) ca cm h1 h2 k ra ya hE
  have H7 := Lib.hid fun (w : World) (A M C N : Option Addr) (ca cm cc cn : Nat) h1 h2 h3 h4 => xsameone_self (w := w) (A := A) (M := M) (C := C) (N := N) ca cm cc cn dm h1 h2 h3 h4 g3 g4
  have HR := Lib.hid fun (W : World) (hb : Below w.heap.size w W) => hr.later hb
  have n1 : (ym == ym) = true := by simp
  have n2 : (rs == rs) = true := by simp
  have n3 : (ys == ys) = true := by simp
  have n4 : (ra == ra) = true := by simp
  have n5 : (ya == ya) = true := by simp
  have n6 : (y0 == y0) = true := by simp
  clear hC0 g1 g2 g3 g4 hS hE
  unfold FreshS at H1 H2
  obtain ⟨f, p, z, an, aw, mn, mw, s⟩ := d
  obtain ⟨f1, p1, z1, an1, aw1, mn1, mw1, s1⟩ := dm
  unfold spv at H1 H2 H3 H4 H5 H6 H7 ⊢
  simp only at *
  go_enter Try.func3, Try.ntmps3
  go_wp2_with fail
  go_at_call 11
  refine (H1.out _).mono ?_
  rintro e w1 ⟨A1, c1, M1, m1, rfl, o1, o1', hb1⟩
  have hs1 := hb1.size
  (try simp only [World.size_alloc] at hs1)
  have b1 : Below w.heap.size w w1 := (by repeat (first | exact Below.refl _ _ | assumption | (refine below_drewN ?_ _) | (refine Below.drew ?_) | (refine Below.alloc ?_ (by first | omega | (simp; omega) | simp) _) | (refine Below.setCell ?_ (by first | omega | (simp; omega) | simp) _) | (refine below_trans ?_ (by assumption) (by first | omega | (simp; omega) | simp))))
  have Q1 : Sp8 w1 w.heap.size 0 ⟨f, p, z, an, aw, mn, mw, s⟩ As ca Ms cm := by constructor <;> exact ((bcell hb1).1 _ _ (by first | omega | (simp; omega) | simp)).trans (by simp [go_sem])
  go_wp2_with fail
  go_at_call 12
  refine (H2.out _).mono ?_
  rintro e w2 ⟨A2, c2, M2, m2, rfl, o2, o2', hb2⟩
  have hs2 := hb2.size
  (try simp only [World.size_alloc] at hs2)
  have b12 : Below w1.heap.size w1 w2 := (by repeat (first | exact Below.refl _ _ | assumption | (refine below_drewN ?_ _) | (refine Below.drew ?_) | (refine Below.alloc ?_ (by first | omega | (simp; omega) | simp) _) | (refine Below.setCell ?_ (by first | omega | (simp; omega) | simp) _) | (refine below_trans ?_ (by assumption) (by first | omega | (simp; omega) | simp))))
  have b2 : Below w.heap.size w w2 := b1.trans (b12.mono (by omega))
  have Q2 := Q1.later b12
  have R2 : Sp8 w2 w1.heap.size 0 ⟨f1, p1, z1, an1, aw1, mn1, mw1, s1⟩ A1 c1 M1 m1 := by constructor <;> exact ((bcell hb2).1 _ _ (by first | omega | (simp; omega) | simp)).trans (by simp [go_sem])
  have a1 : Row w2 w2.heap.size A1 aw1 := o1.row.later b12
  have a1' : Row w2 w2.heap.size M1 mw1 := o1'.row.later b12
  have a2 : Row w2 w2.heap.size A2 aw1 := o2.row
  have a2' : Row w2 w2.heap.size M2 mw1 := o2'.row
  obtain ⟨q0, q1, q2, q3, q4, q5, q6, q7⟩ := id Q2
  simp only [Nat.zero_add] at q0 q1 q2 q3 q4 q5 q6 q7
  have l0 : w.heap.size < w2.heap.size := by omega
  clear o1 o1' o2 o2' hb1 hb2 Q1
  go_wp2_with fail
  go_at_call 13
  refine (H3.out _ ((hA.later b2).later (by repeat (first | exact Below.refl _ _ | assumption | (refine below_drewN ?_ _) | (refine Below.drew ?_) | (refine Below.alloc ?_ (by first | omega | (simp; omega) | simp) _) | (refine Below.setCell ?_ (by first | omega | (simp; omega) | simp) _) | (refine below_trans ?_ (by assumption) (by first | omega | (simp; omega) | simp))))) ((hM.later b2).later (by repeat (first | exact Below.refl _ _ | assumption | (refine below_drewN ?_ _) | (refine Below.drew ?_) | (refine Below.alloc ?_ (by first | omega | (simp; omega) | simp) _) | (refine Below.setCell ?_ (by first | omega | (simp; omega) | simp) _) | (refine below_trans ?_ (by assumption) (by first | omega | (simp; omega) | simp)))))).mono ?_
  rintro e w3 ⟨rfl, hb3⟩
  have hs3 := hb3.size
  (try simp only [World.size_alloc] at hs3)
  have b23 : Below w2.heap.size w2 w3 := (by repeat (first | exact Below.refl _ _ | assumption | (refine below_drewN ?_ _) | (refine Below.drew ?_) | (refine Below.alloc ?_ (by first | omega | (simp; omega) | simp) _) | (refine Below.setCell ?_ (by first | omega | (simp; omega) | simp) _) | (refine below_trans ?_ (by assumption) (by first | omega | (simp; omega) | simp))))
  have b3 : Below w.heap.size w w3 := b2.trans (b23.mono (by omega))
  have Q3 := Q2.later b23
  have R3 := R2.later b23
  have U3 : Sp8 w3 w2.heap.size 0 ⟨f1, p1, z1, an1, aw1, mn1, mw1, s1⟩ A2 c2 M2 m2 := by constructor <;> exact ((bcell hb3).1 _ _ (by first | omega | (simp; omega) | simp)).trans (by simp [go_sem])
  have d1 := a1.later b23
  have d1' := a1'.later b23
  have d2 := a2.later b23
  have d2' := a2'.later b23
  clear q0 q1 q2 q3 q4 q5 q6 q7 hb3 Q2 R2 a1 a1' a2 a2'
  obtain ⟨q0, q1, q2, q3, q4, q5, q6, q7⟩ := id Q3
  simp only [Nat.zero_add] at q0 q1 q2 q3 q4 q5 q6 q7
  go_wp2_with fail
  go_at_call 14
  refine (H4.out _ (hA.later b3) (hM.later b3)).mono ?_
  rintro e w4 ⟨rfl, c4⟩
  have hs4 := c4.size
  have b4 : Below w.heap.size w w4 := b3.trans (c4.mono (by omega))
  have Q4 := Q3.later c4
  have R4 := R3.later c4
  have U4 := U3.later c4
  replace d1 := d1.later c4
  replace d1' := d1'.later c4
  replace d2 := d2.later c4
  replace d2' := d2'.later c4
  clear q0 q1 q2 q3 q4 q5 q6 q7
  obtain ⟨q0, q1, q2, q3, q4, q5, q6, q7⟩ := id Q4
  simp only [Nat.zero_add] at q0 q1 q2 q3 q4 q5 q6 q7
  go_wp2_with fail
  go_at_call 15
  refine (H5.out _ (hA.later b4) (hM.later b4)).mono ?_
  rintro e w5 ⟨rfl, c5⟩
  have hs5 := c5.size
  have b5 : Below w.heap.size w w5 := b4.trans (c5.mono (by omega))
  have Q5 := Q4.later c5
  have R5 := R4.later c5
  have U5 := U4.later c5
  replace d1 := d1.later c5
  replace d1' := d1'.later c5
  replace d2 := d2.later c5
  replace d2' := d2'.later c5
  clear q0 q1 q2 q3 q4 q5 q6 q7
  obtain ⟨q0, q1, q2, q3, q4, q5, q6, q7⟩ := id Q5
  simp only [Nat.zero_add] at q0 q1 q2 q3 q4 q5 q6 q7
  go_wp2_with fail
  go_at_call 16
  refine (H6.out _ (hA.later b5) (hM.later b5)).mono ?_
  rintro e w6 ⟨rfl, c6⟩
  have hs6 := c6.size
  have b6 : Below w.heap.size w w6 := b5.trans (c6.mono (by omega))
  have Q6 := Q5.later c6
  have R6 := R5.later c6
  have U6 := U5.later c6
  replace d1 := d1.later c6
  replace d1' := d1'.later c6
  replace d2 := d2.later c6
  replace d2' := d2'.later c6
  clear q0 q1 q2 q3 q4 q5 q6 q7
  obtain ⟨q0, q1, q2, q3, q4, q5, q6, q7⟩ := id Q6
  simp only [Nat.zero_add] at q0 q1 q2 q3 q4 q5 q6 q7
  go_wp2_with fail
  go_at_call 17
  refine (slives_any _).mono ?_
  rintro e w7 ⟨rfl, c7⟩
  have hs7 := c7.size
  have b7 : Below w.heap.size w w7 := b6.trans (c7.mono (by omega))
  have Q7 := Q6.later c7
  have R7 := R6.later c7
  have U7 := U6.later c7
  replace d1 := d1.later c7
  replace d1' := d1'.later c7
  replace d2 := d2.later c7
  replace d2' := d2'.later c7
  clear q0 q1 q2 q3 q4 q5 q6 q7
  obtain ⟨r0, r1, r2, r3, r4, r5, r6, r7⟩ := id R7
  obtain ⟨u0, u1, u2, u3, u4, u5, u6, u7⟩ := id U7
  simp only [Nat.zero_add] at r0 r1 r2 r3 r4 r5 r6 r7 u0 u1 u2 u3 u4 u5 u6 u7
  clear Q3 R3 U3 Q4 R4 U4 Q5 R5 U5 Q6 R6 U6 Q7 R7 U7
  go_wp2_with fail
  go_at_call 18
  refine (H7.out _ _ _ _ _ _ _ _ _ d1 d1' d2 d2').mono ?_
  rintro e w8 ⟨rfl, c8⟩
  have hs8 := c8.size
  have b8 : Below w.heap.size w w8 := b7.trans (c8.mono (by omega))
  clear r0 r1 r2 r3 r4 r5 r6 r7 u0 u1 u2 u3 u4 u5 u6 u7
  go_wp2_with fail
  go_at_call 19
  refine (HC.out _ (HR.out _ b8)).mono ?_
  rintro e w9 ⟨rfl, c9⟩
  have hs9 := c9.size
  have b9 : Below w.heap.size w w9 := b8.trans (c9.mono (by omega))
  go_wp2_with fail
  go_at_call 20
  refine (HD.out _ (HR.out _ b9)).mono ?_
  rintro e w10 ⟨rfl, c10⟩
  have hs10 := c10.size
  have b10 : Below w.heap.size w w10 := b9.trans (c10.mono (by omega))
  go_wp2
  go_ret
  exact ⟨rfl, b10⟩
end
end Go.Proofs.Ythphefoohkofbaa
