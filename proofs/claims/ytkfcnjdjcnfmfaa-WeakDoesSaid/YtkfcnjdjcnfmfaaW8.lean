/- The walk of the law WeakDoes. -/
import Derived.Test.YtkfcnjdjcnfmfaaW7
namespace Go.Proofs.Ytkfcnjdjcnfmfaa
open Go.RowKit
set_option linter.unusedVariables false
set_option linter.unusedSimpArgs false

theorem MkE.len {t r : List Nat} {a h : Nat} {y : Int} (hE : MkE t a r h y) (hl : t.length ≤ 17592186044416) : r.length ≤ 17592186044416 := by
  rcases hE with ⟨_, rfl, _⟩ | ⟨_, _, rfl, _⟩ | ⟨_, _, _, rfl, _⟩ | ⟨_, _, _, _, rfl, _⟩ | ⟨h1, _, _, _, rfl, _⟩
  · simp
  · exact hl
  · exact hl
  · exact hl
  · have := h1.1
    simp
    omega
theorem ClrE.len {t gs r : List Nat} {l : List Int} {y : Int} (hE : ClrE t gs r l y) (hl : t.length ≤ 17592186044416) : r.length ≤ 17592186044416 ∧ l.length ≤ 64 := by
  rcases hE with ⟨_, rfl, rfl, _⟩ | ⟨h1, rfl, rfl, _⟩
  · exact ⟨by simp, by simp⟩
  · rw [clrT_len]
    have := clrH_len t gs t.length
    have := h1.1
    exact ⟨hl, by omega⟩
theorem xsame_selfN (w : World) (A C : Option Addr) (ca cc : Nat) (t : List Nat) (hl : t.length ≤ 17592186044416) (hr : Row w w.heap.size A t) (hq : Row w w.heap.size C t) :
    Calls Try.prog 18 #[.slice A t.length ca, .slice C t.length cc] w fun e w' => e = .returned (.bool true) ∧ Below w.heap.size w w' :=
  xsameN_any (w := w) (A := A) (C := C) (t := t) (u := t) ca cc hr hq hl hl true ⟨fun _ => rfl, fun _ => rfl⟩
set_option maxHeartbeats 8000000 in
theorem weakDoes_walk (A G : Option Addr) (cap cg : Nat) (t gs : List Nat) (a : Nat) (i : Int) (w : World) (hr : Row w w.heap.size A t) (hcl : t.length ≤ cap) (hl : t.length ≤ 17592186044416) (ha : a < W64) (hi1 : -9223372036854775808 ≤ i) (hi2 : i ≤ 9223372036854775807) (hq : Row w w.heap.size G gs) (hgl : gs.length ≤ 17592186044416) :
    Calls Try.prog 3 #[.slice A t.length cap, .int .u64 (a : Nat), .int .i64 i, .slice G gs.length cg] w fun e w' => e = .returned (.bool true) ∧ Below w.heap.size w w' := by
  obtain ⟨r1, h1, y1, hE1⟩ := MkE.ex t a
  obtain ⟨v2, y2, hE2⟩ := GetE.ex t i
  obtain ⟨r3, l3, y3, hE3⟩ := ClrE.ex t gs
  obtain ⟨h4, y4, hE4⟩ := HanE.ex t a
  obtain ⟨y5, hE5⟩ : ∃ y : Int, (OkW t ∧ y = 0) ∨ (¬ OkW t ∧ y = 2) := by
    by_cases h : OkW t
    · exact ⟨0, .inl ⟨h, rfl⟩⟩
    · exact ⟨2, .inr ⟨h, rfl⟩⟩
  have hl1 := hE1.len hl
  obtain ⟨hl3, hm3⟩ := hE3.len hl
  have HCP := Lib.hid fun (w : World) hr => xcopyN_any (w := w) (A := A) (t := t) cap hr hl
  unfold CopiedN at HCP
  have HM := Lib.hid fun (w : World) (A : Option Addr) (cap : Nat) hr hc hn => wmake_any (w := w) (A := A) (t := t) cap hr hc hl hn a ha _ _ _ hE1
  have HXM := Lib.hid fun (w : World) hr => xwmake_any (w := w) (A := A) (t := t) cap hr hcl hl a ha _ _ _ hE1
  have HG := Lib.hid fun (w : World) (A : Option Addr) (cap : Nat) hr hc => wget_any (w := w) (A := A) (t := t) cap hr hc hl i hi1 hi2 _ _ hE2
  have HXG := Lib.hid fun (w : World) hr => xwget_any (w := w) (A := A) (t := t) cap hr hcl hl i hi1 hi2 _ _ hE2
  have HL := Lib.hid fun (w : World) (A : Option Addr) (cap : Nat) hr hc hn hq => wclear_any (w := w) (A := A) (G := G) (t := t) (gs := gs) cap cg hr hc hl hn hq hgl _ _ _ hE3
  have HXL := Lib.hid fun (w : World) hr hq => xwclear_any (w := w) (A := A) (G := G) (t := t) (gs := gs) cap cg hr hcl hl hq hgl _ _ _ hE3
  have HH := Lib.hid fun (w : World) (A : Option Addr) (cap : Nat) hr hc => whan_any (w := w) (A := A) (t := t) cap hr hc hl a _ _ hE4
  have HXH := Lib.hid fun (w : World) hr => xwhan_any (w := w) (A := A) (t := t) cap hr hcl hl a _ _ hE4
  have HC := Lib.hid fun (w : World) (A : Option Addr) (cap : Nat) hr hc => wcheck_any (w := w) (A := A) (t := t) cap hr hc hl _ hE5
  have HXC := Lib.hid fun (w : World) hr => xwcheck_any (w := w) (A := A) (t := t) cap hr hcl hl _ hE5
  have HS1 := Lib.hid fun (w : World) (A C : Option Addr) (ca cc : Nat) hr hq => xsame_selfN w A C ca cc r1 hl1 hr hq
  have HS3 := Lib.hid fun (w : World) (A C : Option Addr) (ca cc : Nat) hr hq => xsame_selfN w A C ca cc r3 hl3 hr hq
  have HS5 := Lib.hid fun (w : World) (A C : Option Addr) (ca cc : Nat) hr hq => xsame_selfN w A C ca cc t hl hr hq
  have n1 : ((h1 : Int) != (h1 : Int)) = false := by simp
  have n2 : (y1 != y1) = false := by simp
  have n3 : ((v2 : Int) != (v2 : Int)) = false := by simp
  have n4 : (y2 != y2) = false := by simp
  have n5 : (y3 != y3) = false := by simp
  have n6 : ((h4 : Int) != (h4 : Int)) = false := by simp
  have n7 : (y4 != y4) = false := by simp
  have n8 : ((l3.length : Int) != (l3.length : Int)) = false := by simp
  have n9 : (y5 == y5) = true := by simp
  clear hE1 hE2 hE3 hE4 hE5
  go_enter Try.func3, Try.ntmps3
  go_wp2_with fail
  go_at_call 8
  refine (HCP.out _ (hr.later (by repeat (first | exact Below.refl _ _ | assumption | (refine below_drewN ?_ _) | (refine Below.drew ?_) | (refine Below.alloc ?_ (by first | omega | (simp; omega) | simp) _) | (refine Below.setCell ?_ (by first | omega | (simp; omega) | simp) _) | (refine below_trans ?_ (by assumption) (by first | omega | (simp; omega) | simp)))))).mono ?_
  rintro e w0 ⟨A0, c0, rfl, o0, hb_w0⟩
  obtain ⟨hc_w0, hf_w0⟩ := bcell hb_w0; have hs_w0 := hb_w0.size; (try simp only [World.size_alloc, World.size_setCell, World.size_drew, World.heap_drewN] at hs_w0)
  have r0 := o0.row
  have k0 := o0.cap_
  have j0 := o0.nil_
  have b0 : Below w.heap.size w w0 := (by repeat (first | exact Below.refl _ _ | assumption | (refine below_drewN ?_ _) | (refine Below.drew ?_) | (refine Below.alloc ?_ (by first | omega | (simp; omega) | simp) _) | (refine Below.setCell ?_ (by first | omega | (simp; omega) | simp) _) | (refine below_trans ?_ (by assumption) (by first | omega | (simp; omega) | simp))))
  go_wp2_with fail
  go_at_call 9
  refine (HM.out _ _ _ (r0.later (by repeat (first | exact Below.refl _ _ | assumption | (refine below_drewN ?_ _) | (refine Below.drew ?_) | (refine Below.alloc ?_ (by first | omega | (simp; omega) | simp) _) | (refine Below.setCell ?_ (by first | omega | (simp; omega) | simp) _) | (refine below_trans ?_ (by assumption) (by first | omega | (simp; omega) | simp))))) k0 j0).mono ?_
  rintro e w1 ⟨A1, c1, rfl, o1, hb_w1⟩
  obtain ⟨hc_w1, hf_w1⟩ := bcell hb_w1; have hs_w1 := hb_w1.size; (try simp only [World.size_alloc, World.size_setCell, World.size_drew, World.heap_drewN] at hs_w1)
  have q1 := o1.row
  have b1 : Below w.heap.size w w1 := (by repeat (first | exact Below.refl _ _ | assumption | (refine below_drewN ?_ _) | (refine Below.drew ?_) | (refine Below.alloc ?_ (by first | omega | (simp; omega) | simp) _) | (refine Below.setCell ?_ (by first | omega | (simp; omega) | simp) _) | (refine below_trans ?_ (by assumption) (by first | omega | (simp; omega) | simp))))
  have r0 := r0.later hb_w1
  go_wp2_with fail
  go_at_call 10
  refine (HXM.out _ ((hr.later b1).later (by repeat (first | exact Below.refl _ _ | assumption | (refine below_drewN ?_ _) | (refine Below.drew ?_) | (refine Below.alloc ?_ (by first | omega | (simp; omega) | simp) _) | (refine Below.setCell ?_ (by first | omega | (simp; omega) | simp) _) | (refine below_trans ?_ (by assumption) (by first | omega | (simp; omega) | simp)))))).mono ?_
  rintro e w2 ⟨A2, c2, rfl, o2, hb_w2⟩
  obtain ⟨hc_w2, hf_w2⟩ := bcell hb_w2; have hs_w2 := hb_w2.size; (try simp only [World.size_alloc, World.size_setCell, World.size_drew, World.heap_drewN] at hs_w2)
  have q2 := o2.row
  have b2 : Below w.heap.size w w2 := (by repeat (first | exact Below.refl _ _ | assumption | (refine below_drewN ?_ _) | (refine Below.drew ?_) | (refine Below.alloc ?_ (by first | omega | (simp; omega) | simp) _) | (refine Below.setCell ?_ (by first | omega | (simp; omega) | simp) _) | (refine below_trans ?_ (by assumption) (by first | omega | (simp; omega) | simp))))
  have r0 := r0.later hb_w2
  have q1 := q1.later hb_w2
  clear hc_w0 hf_w0 hc_w1 hf_w1 hc_w2 hf_w2 o0 o1 o2
  go_wp2_with fail
  go_at_call 11
  refine (HG.out _ _ _ (r0.later (by repeat (first | exact Below.refl _ _ | assumption | (refine below_drewN ?_ _) | (refine Below.drew ?_) | (refine Below.alloc ?_ (by first | omega | (simp; omega) | simp) _) | (refine Below.setCell ?_ (by first | omega | (simp; omega) | simp) _) | (refine below_trans ?_ (by assumption) (by first | omega | (simp; omega) | simp))))) k0).mono ?_
  rintro e w3 ⟨rfl, hb_w3⟩
  obtain ⟨hc_w3, hf_w3⟩ := bcell hb_w3; have hs_w3 := hb_w3.size; (try simp only [World.size_alloc, World.size_setCell, World.size_drew, World.heap_drewN] at hs_w3)
  have b3 : Below w.heap.size w w3 := (by repeat (first | exact Below.refl _ _ | assumption | (refine below_drewN ?_ _) | (refine Below.drew ?_) | (refine Below.alloc ?_ (by first | omega | (simp; omega) | simp) _) | (refine Below.setCell ?_ (by first | omega | (simp; omega) | simp) _) | (refine below_trans ?_ (by assumption) (by first | omega | (simp; omega) | simp))))
  have r0 := r0.later hb_w3
  have q1 := q1.later hb_w3
  have q2 := q2.later hb_w3
  go_wp2_with fail
  go_at_call 12
  refine (HXG.out _ ((hr.later b3).later (by repeat (first | exact Below.refl _ _ | assumption | (refine below_drewN ?_ _) | (refine Below.drew ?_) | (refine Below.alloc ?_ (by first | omega | (simp; omega) | simp) _) | (refine Below.setCell ?_ (by first | omega | (simp; omega) | simp) _) | (refine below_trans ?_ (by assumption) (by first | omega | (simp; omega) | simp)))))).mono ?_
  rintro e w4 ⟨rfl, hb_w4⟩
  obtain ⟨hc_w4, hf_w4⟩ := bcell hb_w4; have hs_w4 := hb_w4.size; (try simp only [World.size_alloc, World.size_setCell, World.size_drew, World.heap_drewN] at hs_w4)
  have b4 : Below w.heap.size w w4 := (by repeat (first | exact Below.refl _ _ | assumption | (refine below_drewN ?_ _) | (refine Below.drew ?_) | (refine Below.alloc ?_ (by first | omega | (simp; omega) | simp) _) | (refine Below.setCell ?_ (by first | omega | (simp; omega) | simp) _) | (refine below_trans ?_ (by assumption) (by first | omega | (simp; omega) | simp))))
  have r0 := r0.later hb_w4
  have q1 := q1.later hb_w4
  have q2 := q2.later hb_w4
  clear hc_w3 hf_w3 hc_w4 hf_w4
  go_wp2_with fail
  go_at_call 13
  refine (HL.out _ _ _ (r0.later (by repeat (first | exact Below.refl _ _ | assumption | (refine below_drewN ?_ _) | (refine Below.drew ?_) | (refine Below.alloc ?_ (by first | omega | (simp; omega) | simp) _) | (refine Below.setCell ?_ (by first | omega | (simp; omega) | simp) _) | (refine below_trans ?_ (by assumption) (by first | omega | (simp; omega) | simp))))) k0 j0 ((hq.later b4).later (by repeat (first | exact Below.refl _ _ | assumption | (refine below_drewN ?_ _) | (refine Below.drew ?_) | (refine Below.alloc ?_ (by first | omega | (simp; omega) | simp) _) | (refine Below.setCell ?_ (by first | omega | (simp; omega) | simp) _) | (refine below_trans ?_ (by assumption) (by first | omega | (simp; omega) | simp)))))).mono ?_
  rintro e w5 ⟨A5, c5, C5, d5, rfl, o5, p5, _, hb_w5⟩
  obtain ⟨hc_w5, hf_w5⟩ := bcell hb_w5; have hs_w5 := hb_w5.size; (try simp only [World.size_alloc, World.size_setCell, World.size_drew, World.heap_drewN] at hs_w5)
  have q5 := o5.row
  have b5 : Below w.heap.size w w5 := (by repeat (first | exact Below.refl _ _ | assumption | (refine below_drewN ?_ _) | (refine Below.drew ?_) | (refine Below.alloc ?_ (by first | omega | (simp; omega) | simp) _) | (refine Below.setCell ?_ (by first | omega | (simp; omega) | simp) _) | (refine below_trans ?_ (by assumption) (by first | omega | (simp; omega) | simp))))
  have r0 := r0.later hb_w5
  have q1 := q1.later hb_w5
  have q2 := q2.later hb_w5
  go_wp2_with fail
  go_at_call 14
  refine (HXL.out _ ((hr.later b5).later (by repeat (first | exact Below.refl _ _ | assumption | (refine below_drewN ?_ _) | (refine Below.drew ?_) | (refine Below.alloc ?_ (by first | omega | (simp; omega) | simp) _) | (refine Below.setCell ?_ (by first | omega | (simp; omega) | simp) _) | (refine below_trans ?_ (by assumption) (by first | omega | (simp; omega) | simp))))) ((hq.later b5).later (by repeat (first | exact Below.refl _ _ | assumption | (refine below_drewN ?_ _) | (refine Below.drew ?_) | (refine Below.alloc ?_ (by first | omega | (simp; omega) | simp) _) | (refine Below.setCell ?_ (by first | omega | (simp; omega) | simp) _) | (refine below_trans ?_ (by assumption) (by first | omega | (simp; omega) | simp)))))).mono ?_
  rintro e w6 ⟨A6, c6, C6, d6, rfl, o6, p6, _, hb_w6⟩
  obtain ⟨hc_w6, hf_w6⟩ := bcell hb_w6; have hs_w6 := hb_w6.size; (try simp only [World.size_alloc, World.size_setCell, World.size_drew, World.heap_drewN] at hs_w6)
  have q6 := o6.row
  have b6 : Below w.heap.size w w6 := (by repeat (first | exact Below.refl _ _ | assumption | (refine below_drewN ?_ _) | (refine Below.drew ?_) | (refine Below.alloc ?_ (by first | omega | (simp; omega) | simp) _) | (refine Below.setCell ?_ (by first | omega | (simp; omega) | simp) _) | (refine below_trans ?_ (by assumption) (by first | omega | (simp; omega) | simp))))
  have r0 := r0.later hb_w6
  have q1 := q1.later hb_w6
  have q2 := q2.later hb_w6
  have q5 := q5.later hb_w6
  have p5 := p5.later hb_w6
  clear hc_w5 hf_w5 hc_w6 hf_w6 o5 o6
  go_wp2_with fail
  go_at_call 15
  refine (HH.out _ _ _ (r0.later (by repeat (first | exact Below.refl _ _ | assumption | (refine below_drewN ?_ _) | (refine Below.drew ?_) | (refine Below.alloc ?_ (by first | omega | (simp; omega) | simp) _) | (refine Below.setCell ?_ (by first | omega | (simp; omega) | simp) _) | (refine below_trans ?_ (by assumption) (by first | omega | (simp; omega) | simp))))) k0).mono ?_
  rintro e w7 ⟨rfl, hb_w7⟩
  obtain ⟨hc_w7, hf_w7⟩ := bcell hb_w7; have hs_w7 := hb_w7.size; (try simp only [World.size_alloc, World.size_setCell, World.size_drew, World.heap_drewN] at hs_w7)
  have b7 : Below w.heap.size w w7 := (by repeat (first | exact Below.refl _ _ | assumption | (refine below_drewN ?_ _) | (refine Below.drew ?_) | (refine Below.alloc ?_ (by first | omega | (simp; omega) | simp) _) | (refine Below.setCell ?_ (by first | omega | (simp; omega) | simp) _) | (refine below_trans ?_ (by assumption) (by first | omega | (simp; omega) | simp))))
  have b67 : Below w6.heap.size w6 w7 := (by repeat (first | exact Below.refl _ _ | assumption | (refine below_drewN ?_ _) | (refine Below.drew ?_) | (refine Below.alloc ?_ (by first | omega | (simp; omega) | simp) _) | (refine Below.setCell ?_ (by first | omega | (simp; omega) | simp) _) | (refine below_trans ?_ (by assumption) (by first | omega | (simp; omega) | simp))))
  go_wp2_with fail
  go_at_call 16
  refine (HXH.out _ ((hr.later b7).later (by repeat (first | exact Below.refl _ _ | assumption | (refine below_drewN ?_ _) | (refine Below.drew ?_) | (refine Below.alloc ?_ (by first | omega | (simp; omega) | simp) _) | (refine Below.setCell ?_ (by first | omega | (simp; omega) | simp) _) | (refine below_trans ?_ (by assumption) (by first | omega | (simp; omega) | simp)))))).mono ?_
  rintro e w8 ⟨rfl, hb_w8⟩
  obtain ⟨hc_w8, hf_w8⟩ := bcell hb_w8; have hs_w8 := hb_w8.size; (try simp only [World.size_alloc, World.size_setCell, World.size_drew, World.heap_drewN] at hs_w8)
  have b8 : Below w.heap.size w w8 := (by repeat (first | exact Below.refl _ _ | assumption | (refine below_drewN ?_ _) | (refine Below.drew ?_) | (refine Below.alloc ?_ (by first | omega | (simp; omega) | simp) _) | (refine Below.setCell ?_ (by first | omega | (simp; omega) | simp) _) | (refine below_trans ?_ (by assumption) (by first | omega | (simp; omega) | simp))))
  have b68 : Below w6.heap.size w6 w8 := below_trans b67 hb_w8 (by first | omega | (simp; omega) | simp)
  go_wp2_with fail
  go_at_call 17
  refine (wlives_any _).mono ?_
  rintro e w9 ⟨rfl, hb_w9⟩
  obtain ⟨hc_w9, hf_w9⟩ := bcell hb_w9; have hs_w9 := hb_w9.size; (try simp only [World.size_alloc, World.size_setCell, World.size_drew, World.heap_drewN] at hs_w9)
  have b9 : Below w.heap.size w w9 := (by repeat (first | exact Below.refl _ _ | assumption | (refine below_drewN ?_ _) | (refine Below.drew ?_) | (refine Below.alloc ?_ (by first | omega | (simp; omega) | simp) _) | (refine Below.setCell ?_ (by first | omega | (simp; omega) | simp) _) | (refine below_trans ?_ (by assumption) (by first | omega | (simp; omega) | simp))))
  have b69 : Below w6.heap.size w6 w9 := below_trans b68 hb_w9 (by first | omega | (simp; omega) | simp)
  go_wp2_with fail
  go_at_call 18
  refine (HS1.out _ _ _ _ _ ((q1.later b69).later (by repeat (first | exact Below.refl _ _ | assumption | (refine below_drewN ?_ _) | (refine Below.drew ?_) | (refine Below.alloc ?_ (by first | omega | (simp; omega) | simp) _) | (refine Below.setCell ?_ (by first | omega | (simp; omega) | simp) _) | (refine below_trans ?_ (by assumption) (by first | omega | (simp; omega) | simp))))) ((q2.later b69).later (by repeat (first | exact Below.refl _ _ | assumption | (refine below_drewN ?_ _) | (refine Below.drew ?_) | (refine Below.alloc ?_ (by first | omega | (simp; omega) | simp) _) | (refine Below.setCell ?_ (by first | omega | (simp; omega) | simp) _) | (refine below_trans ?_ (by assumption) (by first | omega | (simp; omega) | simp)))))).mono ?_
  rintro e w10 ⟨rfl, hb_w10⟩
  obtain ⟨hc_w10, hf_w10⟩ := bcell hb_w10; have hs_w10 := hb_w10.size; (try simp only [World.size_alloc, World.size_setCell, World.size_drew, World.heap_drewN] at hs_w10)
  have b10 : Below w.heap.size w w10 := (by repeat (first | exact Below.refl _ _ | assumption | (refine below_drewN ?_ _) | (refine Below.drew ?_) | (refine Below.alloc ?_ (by first | omega | (simp; omega) | simp) _) | (refine Below.setCell ?_ (by first | omega | (simp; omega) | simp) _) | (refine below_trans ?_ (by assumption) (by first | omega | (simp; omega) | simp))))
  have b610 : Below w6.heap.size w6 w10 := below_trans b69 hb_w10 (by first | omega | (simp; omega) | simp)
  go_wp2_with fail
  go_at_call 18
  refine (HS3.out _ _ _ _ _ ((q5.later b610).later (by repeat (first | exact Below.refl _ _ | assumption | (refine below_drewN ?_ _) | (refine Below.drew ?_) | (refine Below.alloc ?_ (by first | omega | (simp; omega) | simp) _) | (refine Below.setCell ?_ (by first | omega | (simp; omega) | simp) _) | (refine below_trans ?_ (by assumption) (by first | omega | (simp; omega) | simp))))) ((q6.later b610).later (by repeat (first | exact Below.refl _ _ | assumption | (refine below_drewN ?_ _) | (refine Below.drew ?_) | (refine Below.alloc ?_ (by first | omega | (simp; omega) | simp) _) | (refine Below.setCell ?_ (by first | omega | (simp; omega) | simp) _) | (refine below_trans ?_ (by assumption) (by first | omega | (simp; omega) | simp)))))).mono ?_
  rintro e w11 ⟨rfl, hb_w11⟩
  obtain ⟨hc_w11, hf_w11⟩ := bcell hb_w11; have hs_w11 := hb_w11.size; (try simp only [World.size_alloc, World.size_setCell, World.size_drew, World.heap_drewN] at hs_w11)
  have b11 : Below w.heap.size w w11 := (by repeat (first | exact Below.refl _ _ | assumption | (refine below_drewN ?_ _) | (refine Below.drew ?_) | (refine Below.alloc ?_ (by first | omega | (simp; omega) | simp) _) | (refine Below.setCell ?_ (by first | omega | (simp; omega) | simp) _) | (refine below_trans ?_ (by assumption) (by first | omega | (simp; omega) | simp))))
  have b611 : Below w6.heap.size w6 w11 := below_trans b610 hb_w11 (by first | omega | (simp; omega) | simp)
  have p5 := Lib.hid (p5.later b611)
  have p6 := Lib.hid (p6.later b611)
  have r0 := r0.later b611
  have rt := hr.later b11
  clear hc_w7 hf_w7 hc_w8 hf_w8 hc_w9 hf_w9 hc_w10 hf_w10 hc_w11 hf_w11 q1 q2 q5 q6 hq hr
  go_wp2_with fail
  go_loopw [143] (fun ii wr => ∃ k : Nat, ii = .int .i64 (k : Nat) ∧ k ≤ l3.length ∧ Below w11.heap.size w11 wr) (fun ii _ => l3.length - (intOf ii).toNat)
  case atStart => exact ⟨0, rfl, Nat.zero_le _, (by repeat (first | exact Below.refl _ _ | assumption | (refine below_drewN ?_ _) | (refine Below.drew ?_) | (refine Below.alloc ?_ (by first | omega | (simp; omega) | simp) _) | (refine Below.setCell ?_ (by first | omega | (simp; omega) | simp) _) | (refine below_trans ?_ (by assumption) (by first | omega | (simp; omega) | simp))))⟩
  case round =>
    obtain ⟨k, rfl, hk, hb_wr⟩ := hrel
    have hsr := hb_wr.size
    by_cases hlt : k < l3.length
    · obtain ⟨ba, oa, rfl, hba, ca⟩ := (p5.out.later hb_wr).at_ (by omega)
      obtain ⟨bb, ob, rfl, hbb, cb⟩ := (p6.out.later hb_wr).at_ (by omega)
      have ca := ca k hlt
      have cb := cb k hlt
      generalize l3.getD k 0 = x at *
      have nx : (x != x) = false := by simp
      have i1 : (k : Int) < (l3.length : Int) := by omega
      have i2 : (0 : Int) ≤ (k : Int) := by omega
      go_wp2_with fail
      go_quiet (fail)
      go_wp2
      go_roundw
      case rel => exact ⟨k + 1, by go_num, by omega, (by repeat (first | exact Below.refl _ _ | assumption | (refine below_drewN ?_ _) | (refine Below.drew ?_) | (refine Below.alloc ?_ (by first | omega | (simp; omega) | simp) _) | (refine Below.setCell ?_ (by first | omega | (simp; omega) | simp) _) | (refine below_trans ?_ (by assumption) (by first | omega | (simp; omega) | simp))))⟩
      case measure => simp [intOf]; omega
    · have b12 : Below w.heap.size w wr := below_trans b11 hb_wr (by first | omega | (simp; omega) | simp)
      have r0 := r0.later hb_wr
      have rt := rt.later hb_wr
      go_wp2_with fail
      go_at_call 19
      refine (HC.out _ _ _ (r0.later (by repeat (first | exact Below.refl _ _ | assumption | (refine below_drewN ?_ _) | (refine Below.drew ?_) | (refine Below.alloc ?_ (by first | omega | (simp; omega) | simp) _) | (refine Below.setCell ?_ (by first | omega | (simp; omega) | simp) _) | (refine below_trans ?_ (by assumption) (by first | omega | (simp; omega) | simp))))) k0).mono ?_
      rintro e w12 ⟨rfl, hb_w12⟩
      obtain ⟨hc_w12, hf_w12⟩ := bcell hb_w12; have hs_w12 := hb_w12.size; (try simp only [World.size_alloc, World.size_setCell, World.size_drew, World.heap_drewN] at hs_w12)
      have b13 : Below w.heap.size w w12 := below_trans b12 hb_w12 (by first | omega | (simp; omega) | simp)
      go_wp2_with fail
      go_at_call 20
      refine (HXC.out _ ((rt.later hb_w12).later (by repeat (first | exact Below.refl _ _ | assumption | (refine below_drewN ?_ _) | (refine Below.drew ?_) | (refine Below.alloc ?_ (by first | omega | (simp; omega) | simp) _) | (refine Below.setCell ?_ (by first | omega | (simp; omega) | simp) _) | (refine below_trans ?_ (by assumption) (by first | omega | (simp; omega) | simp)))))).mono ?_
      rintro e w13 ⟨rfl, hb_w13⟩
      obtain ⟨hc_w13, hf_w13⟩ := bcell hb_w13; have hs_w13 := hb_w13.size; (try simp only [World.size_alloc, World.size_setCell, World.size_drew, World.heap_drewN] at hs_w13)
      have b14 : Below w.heap.size w w13 := below_trans b13 hb_w13 (by first | omega | (simp; omega) | simp)
      go_wp2_with fail
      go_at_call 18
      refine (HS5.out _ _ _ _ _ (((r0.later hb_w12).later hb_w13).later (by repeat (first | exact Below.refl _ _ | assumption | (refine below_drewN ?_ _) | (refine Below.drew ?_) | (refine Below.alloc ?_ (by first | omega | (simp; omega) | simp) _) | (refine Below.setCell ?_ (by first | omega | (simp; omega) | simp) _) | (refine below_trans ?_ (by assumption) (by first | omega | (simp; omega) | simp))))) (((rt.later hb_w12).later hb_w13).later (by repeat (first | exact Below.refl _ _ | assumption | (refine below_drewN ?_ _) | (refine Below.drew ?_) | (refine Below.alloc ?_ (by first | omega | (simp; omega) | simp) _) | (refine Below.setCell ?_ (by first | omega | (simp; omega) | simp) _) | (refine below_trans ?_ (by assumption) (by first | omega | (simp; omega) | simp)))))).mono ?_
      rintro e w14 ⟨rfl, hb_w14⟩
      obtain ⟨hc_w14, hf_w14⟩ := bcell hb_w14; have hs_w14 := hb_w14.size; (try simp only [World.size_alloc, World.size_setCell, World.size_drew, World.heap_drewN] at hs_w14)
      go_wp2
      go_ret
      exact ⟨rfl, below_trans b14 hb_w14 (by first | omega | (simp; omega) | simp)⟩
end Go.Proofs.Ytkfcnjdjcnfmfaa
