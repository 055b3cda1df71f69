/- The walk of the law SpanChanges. -/
import Derived.Test.YthphefoohkofbaaS38
import Derived.Test.YthphefoohkofbaaS42
namespace Go.Proofs.Ythphefoohkofbaa
open Go.RowKit
set_option linter.unusedVariables false
set_option linter.unusedSimpArgs false

theorem AddE.words {l : List Sd} {s : Sd} {r : List Sd} {y : Int} (h : AddE l s r y) (hw : WordsLe l) (hl : l.length ≤ 1466015503658) : WordsLe r ∧ r.length ≤ 17592186044416 := by
  rcases h with ⟨_, rfl, _⟩ | ⟨_, _, rfl, _⟩ | ⟨n, _, h1, hp, hh⟩
  · exact ⟨fun d hd => (by cases hd), by simp⟩
  · exact ⟨fun d hd => (by cases hd), by simp⟩
  · rcases hh with ⟨_, rfl, _⟩ | ⟨_, _, rfl, _⟩ | ⟨_, _, rfl, _⟩
    · exact ⟨hw, by omega⟩
    · exact ⟨hw, by omega⟩
    · refine ⟨fun d hd => ?_, ?_⟩
      · rw [List.mem_append, List.mem_append] at hd
        rcases hd with (hd | hd) | hd
        · exact hw d (List.mem_of_mem_take hd)
        · rw [List.mem_singleton] at hd
          subst hd
          have e1 := h1.aw
          have e2 := h1.mw
          omega
        · exact hw d (List.mem_of_mem_drop hd)
      · simp only [List.length_append, List.length_take, List.length_drop, List.length_singleton]
        omega
theorem DropE.words {l : List Sd} {first : Int} {r : List Sd} {y : Int} (h : DropE l first r y) (hw : WordsLe l) (hl : l.length ≤ 1466015503658) : WordsLe r ∧ r.length ≤ 17592186044416 := by
  rcases h with ⟨_, rfl, _⟩ | ⟨_, _, rfl, _⟩ | ⟨i, _, _, rfl, _⟩
  · exact ⟨fun d hd => (by cases hd), by simp⟩
  · exact ⟨hw, by omega⟩
  · refine ⟨fun d hd => ?_, ?_⟩
    · rw [List.mem_append] at hd
      rcases hd with hd | hd
      · exact hw d (List.mem_of_mem_take hd)
      · exact hw d (List.mem_of_mem_drop hd)
    · simp only [List.length_append, List.length_take, List.length_drop]
      omega
section
variable {A As Ms : Option Addr} {l : List Sd} (cap ca cm : Nat)
set_option maxHeartbeats 8000000 in
theorem spanChanges_walk (d : Sd) (first : Int) (w : World) (hr : SRow w w.heap.size A l) (hcl : l.length ≤ cap) (hl : l.length ≤ 1466015503658) (hnil : A = none → cap = 0) (hw : WordsLe l) (hA : Row w w.heap.size As d.aw) (hM : Row w w.heap.size Ms d.mw) (la : d.aw.length ≤ 17592186044416) (lm : d.mw.length ≤ 17592186044416) :
    Calls Try.prog 5 #[.slice A l.length cap, spv d As ca Ms cm, .int .i64 first] w fun e w' => e = .returned (.bool true) ∧ Below w.heap.size w w' := by
  have hl2 : l.length ≤ 17592186044416 := by omega
  obtain ⟨r, y, hE⟩ := AddE.ex l d
  obtain ⟨r2, y2, hD⟩ := DropE.ex l first
  obtain ⟨wr1, lr1⟩ := hE.words hw hl
  obtain ⟨wr2, lr2⟩ := hD.words hw hl
  have H0 := Lib.hid fun (w : World) hr => xcopyL_any (w := w) (A := A) (l := l) cap hr hl hw
  have H1 := Lib.hid fun (w : World) (A : Option Addr) (cap : Nat) hr hcl hnil hA hM => sadd_any (w := w) (A := A) (As := As) (Ms := Ms) (l := l) cap ca cm hr hcl hl2 hnil d hA hM r y hE
  have H2 := Lib.hid fun (w : World) hr hA hM => xaddL_any (w := w) (A := A) (As := As) (Ms := Ms) (l := l) cap ca cm hr hl2 d hA hM r y hE
  have H3 := Lib.hid fun (w : World) (A : Option Addr) (cap : Nat) hr hcl => sdrop_any (w := w) (A := A) (l := l) cap hr hcl hl2 first r2 y2 hD
  have H4 := Lib.hid fun (w : World) hr => xdropL_any (w := w) (A := A) (l := l) cap hr hl2 first r2 y2 hD
  have S1 := Lib.hid fun (w : World) (A C : Option Addr) (cap cc : Nat) hr hq => xsameL_self (w := w) (A := A) (C := C) (l := r) cap cc hr hq lr1 wr1
  have S2 := Lib.hid fun (w : World) (A C : Option Addr) (cap cc : Nat) hr hq => xsameL_self (w := w) (A := A) (C := C) (l := r2) cap cc hr hq lr2 wr2
  have S3 := Lib.hid fun (w : World) (A C : Option Addr) (cap cc : Nat) hr hq => xsameL_self (w := w) (A := A) (C := C) (l := l) cap cc hr hq hl2 hw
  have n1 : (y == y) = true := by simp
  have n2 : (y2 == y2) = true := by simp
  unfold FreshL5 at H1 H3
  clear hE hD wr1 lr1 wr2 lr2 hw
  obtain ⟨f, p, z, an, aw, mn, mw, s⟩ := d
  unfold spv at H1 H2 ⊢
  simp only at *
  go_enter Try.func5, Try.ntmps5
  go_wp2_with fail
  go_at_call 25
  refine (H0.out _ (hr.later (by repeat (first | exact Below.refl _ _ | assumption | (refine below_drewN ?_ _) | (refine Below.drew ?_) | (refine Below.alloc ?_ (by first | omega | (simp; omega) | simp) _) | (refine Below.setCell ?_ (by first | omega | (simp; omega) | simp) _) | (refine below_trans ?_ (by assumption) (by first | omega | (simp; omega) | simp)))))).mono ?_
  rintro e w1 ⟨G, gc, vs, rfl, hvs, oG, hb1⟩
  have hs1 := hb1.size
  (try simp only [World.size_alloc] at hs1)
  have b1 : Below w.heap.size w w1 := (by repeat (first | exact Below.refl _ _ | assumption | (refine below_drewN ?_ _) | (refine Below.drew ?_) | (refine Below.alloc ?_ (by first | omega | (simp; omega) | simp) _) | (refine Below.setCell ?_ (by first | omega | (simp; omega) | simp) _) | (refine below_trans ?_ (by assumption) (by first | omega | (simp; omega) | simp))))
  have Q1 : Sp8 w1 w.heap.size 0 ⟨f, p, z, an, aw, mn, mw, s⟩ As ca Ms cm := by constructor <;> exact ((bcell hb1).1 _ _ (by first | omega | (simp; omega) | simp)).trans (by simp [go_sem])
  have gr1 : SRow w1 w1.heap.size G l := by rw [← hvs]; exact oG.srow
  have gcl : l.length ≤ gc := (owns_cap oG.row_).1
  have gnil : G = none → gc = 0 := (owns_cap oG.row_).2
  clear oG hvs hb1
  obtain ⟨q0, q1, q2, q3, q4, q5, q6, q7⟩ := id Q1
  simp only [Nat.zero_add] at q0 q1 q2 q3 q4 q5 q6 q7
  go_wp2_with fail
  go_at_call 26
  refine (H1.out _ _ _ gr1 gcl gnil (hA.later b1) (hM.later b1)).mono ?_
  rintro e w2 ⟨A2, c2, vs2, rfl, hv2, o2, hb2⟩
  have hs2 := hb2.size
  have b2 : Below w.heap.size w w2 := b1.trans (hb2.mono (by omega))
  have s2 : SRow w2 w2.heap.size A2 r := by rw [← hv2]; exact o2.srow
  have Q2 := Q1.later hb2
  have gr2 := gr1.later hb2
  clear q0 q1 q2 q3 q4 q5 q6 q7 o2 hv2
  obtain ⟨q0, q1, q2, q3, q4, q5, q6, q7⟩ := id Q2
  simp only [Nat.zero_add] at q0 q1 q2 q3 q4 q5 q6 q7
  go_wp2_with fail
  go_at_call 27
  refine (H2.out _ (hr.later b2) (hA.later b2) (hM.later b2)).mono ?_
  rintro e w3 ⟨A3, c3, rfl, s3, hb3⟩
  have hs3 := hb3.size
  have b3 : Below w.heap.size w w3 := b2.trans (hb3.mono (by omega))
  have s2 := s2.later hb3
  have gr3 := gr2.later hb3
  clear q0 q1 q2 q3 q4 q5 q6 q7
  go_wp2_with fail
  go_at_call 28
  refine (H3.out _ _ _ gr3 gcl).mono ?_
  rintro e w4 ⟨A4, c4, vs4, rfl, hv4, o4, hb4⟩
  have hs4 := hb4.size
  have b4 : Below w.heap.size w w4 := b3.trans (hb4.mono (by omega))
  have s4 : SRow w4 w4.heap.size A4 r2 := by rw [← hv4]; exact o4.srow
  have s2 := s2.later hb4
  have s3 := s3.later hb4
  have gr4 := gr3.later hb4
  clear o4 hv4
  go_wp2_with fail
  go_at_call 29
  refine (H4.out _ (hr.later b4)).mono ?_
  rintro e w5 ⟨A5, c5, rfl, s5, hb5⟩
  have hs5 := hb5.size
  have b5 : Below w.heap.size w w5 := b4.trans (hb5.mono (by omega))
  have s2 := s2.later hb5
  have s3 := s3.later hb5
  have s4 := s4.later hb5
  have gr5 := gr4.later hb5
  go_wp2_with fail
  go_at_call 17
  refine (slives_any _).mono ?_
  rintro e w6 ⟨rfl, hb6⟩
  have hs6 := hb6.size
  have b6 : Below w.heap.size w w6 := b5.trans (hb6.mono (by omega))
  have s2 := s2.later hb6
  have s3 := s3.later hb6
  have s4 := s4.later hb6
  have s5 := s5.later hb6
  have gr6 := gr5.later hb6
  go_wp2_with fail
  go_at_call 30
  refine (S1.out _ _ _ _ _ s2 s3).mono ?_
  rintro e w7 ⟨rfl, hb7⟩
  have hs7 := hb7.size
  have b7 : Below w.heap.size w w7 := b6.trans (hb7.mono (by omega))
  have s4 := s4.later hb7
  have s5 := s5.later hb7
  have gr7 := gr6.later hb7
  go_wp2_with fail
  go_at_call 30
  refine (S2.out _ _ _ _ _ s4 s5).mono ?_
  rintro e w8 ⟨rfl, hb8⟩
  have hs8 := hb8.size
  have b8 : Below w.heap.size w w8 := b7.trans (hb8.mono (by omega))
  have gr8 := gr7.later hb8
  go_wp2_with fail
  go_at_call 30
  refine (S3.out _ _ _ _ _ gr8 (hr.later b8)).mono ?_
  rintro e w9 ⟨rfl, hb9⟩
  go_wp2
  go_ret
  exact ⟨rfl, b8.trans (hb9.mono (by omega))⟩
end
end Go.Proofs.Ythphefoohkofbaa
