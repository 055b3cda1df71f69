/- The walk of the law SpecialDoes. -/
import Derived.Test.YtamnfgpoelbgcaaV24
import Derived.Test.YtamnfgpoelbgcaaV20
namespace Go.Proofs.Ytamnfgpoelbgcaa
open Go.RowKit
set_option linter.unusedVariables false
set_option linter.unusedSimpArgs false

theorem AddE.len {l more l' : List Sc} {y : Int} (h : AddE l more l' y) (hl : l.length ≤ 5864062014805) : l'.length ≤ 5864062014805 := by
  rcases h with ⟨_, rfl, _⟩ | ⟨h1, h2, rfl, _⟩ | ⟨k, _, _, _, _, _, rfl⟩
  · simp
  · have := (stC_ok h1 more.length h2).1
    omega
  · exact hl
theorem OfE.len {l r : List Sc} {p : Sc → Bool} {y : Int} (h : OfE l p r y) (hl : l.length ≤ 5864062014805) : r.length ≤ 5864062014805 := by
  rcases h with ⟨_, rfl, _⟩ | ⟨_, rfl, _⟩
  · have := List.length_filter_le p l
    omega
  · simp
theorem TakeE.len {l r t : List Sc} {x kd y : Int} (h : TakeE l x kd r t y) (hl : l.length ≤ 5864062014805) : r.length ≤ 5864062014805 ∧ t.length ≤ 5864062014805 := by
  rcases h with ⟨_, rfl, rfl, _⟩ | ⟨_, rfl, rfl, _⟩
  · have := List.length_filter_le (leftP x kd) l
    have := List.length_filter_le (takeP x kd) l
    omega
  · simp
theorem xsame_self (w : World) (A C : Option Addr) (ca cc : Nat) (l : List Sc) (hl : l.length ≤ 5864062014805) (hr : CRow w w.heap.size A l) (hq : CRow w w.heap.size C l) :
    Calls Try.prog 17 #[.slice A l.length ca, .slice C l.length cc] w fun e w' => e = .returned (.bool true) ∧ Below w.heap.size w w' :=
  xsameC_any (w := w) (A := A) (C := C) (l := l) (m := l) ca cc hr hq hl hl true ⟨fun _ => rfl, fun _ => rfl⟩
set_option maxHeartbeats 8000000 in
theorem specialDoes_walk (A M : Option Addr) (cap cm : Nat) (l more : List Sc) (x kd : Int) (w : World) (hr : CRow w w.heap.size A l) (hcl : l.length ≤ cap) (hl : l.length ≤ 5864062014805) (hm : CRow w w.heap.size M more) (hml : more.length ≤ 5864062014805) :
    Calls Try.prog 3 #[.slice A l.length cap, .slice M more.length cm, .int .u64 x, .int .u8 kd] w fun e w' => e = .returned (.bool true) ∧ Below w.heap.size w w' := by
  obtain ⟨la, ya, hE⟩ := AddE.ex l more
  obtain ⟨lo, yo, hO⟩ := OfE.ex l (ofP x)
  obtain ⟨lr, lt, yt, hT⟩ := TakeE.ex l x kd
  have ha := hE.len hl
  have ho := hO.len hl
  obtain ⟨hlr, hlt⟩ := hT.len hl
  have HCP := Lib.hid fun (w : World) hr => xcopyS_any (w := w) (A := A) (l := l) cap hr hl
  unfold CopiedS at HCP
  have HA := Lib.hid fun (w : World) (A : Option Addr) (cap : Nat) hr hcl hnil hm => cadd_any (w := w) (A := A) (M := M) (l := l) (more := more) cap cm hr hcl hl hnil hm hml _ _ hE
  have HXA := Lib.hid fun (w : World) hr hm => xaddL_any (w := w) (A := A) (M := M) (l := l) (more := more) cap cm hr hcl hl hm hml _ _ hE
  have HO := Lib.hid fun (w : World) (A : Option Addr) (cap : Nat) hr hcl => cofL_any (w := w) (A := A) (l := l) cap hr hcl hl x _ _ hO
  have HXO := Lib.hid fun (w : World) hr => xofL_any (w := w) (A := A) (l := l) cap hr hcl hl x _ _ hO
  have HT := Lib.hid fun (w : World) (A : Option Addr) (cap : Nat) hr hcl => ctakeL_any (w := w) (A := A) (l := l) cap hr hcl hl x kd _ _ _ hT
  have HXT := Lib.hid fun (w : World) hr => xtakeL_any (w := w) (A := A) (l := l) cap hr hcl hl x kd _ _ _ hT
  have HS1 := Lib.hid fun (w : World) (A C : Option Addr) (ca cc : Nat) hr hq => xsame_self w A C ca cc la ha hr hq
  have HS2 := Lib.hid fun (w : World) (A C : Option Addr) (ca cc : Nat) hr hq => xsame_self w A C ca cc lo ho hr hq
  have HS3 := Lib.hid fun (w : World) (A C : Option Addr) (ca cc : Nat) hr hq => xsame_self w A C ca cc lr hlr hr hq
  have HS4 := Lib.hid fun (w : World) (A C : Option Addr) (ca cc : Nat) hr hq => xsame_self w A C ca cc lt hlt hr hq
  have HS5 := Lib.hid fun (w : World) (A C : Option Addr) (ca cc : Nat) hr hq => xsame_self w A C ca cc l hl hr hq
  have y1 : (ya == ya) = true := by simp
  have y2 : (yo == yo) = true := by simp
  have y3 : (yt == yt) = true := by simp
  clear hE hO hT
  go_enter Try.func3, Try.ntmps3
  go_wp2_with fail
  go_at_call 9
  refine (HCP.out _ (hr.later (by repeat (first | exact Below.refl _ _ | assumption | (refine below_drewN ?_ _) | (refine Below.drew ?_) | (refine Below.alloc ?_ (by first | omega | (simp; omega) | simp) _) | (refine Below.setCell ?_ (by first | omega | (simp; omega) | simp) _) | (refine below_trans ?_ (by assumption) (by first | omega | (simp; omega) | simp)))))).mono ?_
  rintro e w1 ⟨g1, c1, rfl, o1, hb_w1⟩
  obtain ⟨hc_w1, hf_w1⟩ := bcell hb_w1; have hs_w1 := hb_w1.size; (try simp only [World.size_alloc, World.size_setCell, World.size_drew, World.heap_drewN] at hs_w1)
  have r1 := CRow.of_owns o1
  have k1 := capC o1
  have b1 : Below w.heap.size w w1 := (by repeat (first | exact Below.refl _ _ | assumption | (refine below_drewN ?_ _) | (refine Below.drew ?_) | (refine Below.alloc ?_ (by first | omega | (simp; omega) | simp) _) | (refine Below.setCell ?_ (by first | omega | (simp; omega) | simp) _) | (refine below_trans ?_ (by assumption) (by first | omega | (simp; omega) | simp))))
  go_wp2_with fail
  go_at_call 10
  refine (HA.out _ _ _ (r1.later (by repeat (first | exact Below.refl _ _ | assumption | (refine below_drewN ?_ _) | (refine Below.drew ?_) | (refine Below.alloc ?_ (by first | omega | (simp; omega) | simp) _) | (refine Below.setCell ?_ (by first | omega | (simp; omega) | simp) _) | (refine below_trans ?_ (by assumption) (by first | omega | (simp; omega) | simp))))) k1 (fun e => (by cases e)) ((hm.later b1).later (by repeat (first | exact Below.refl _ _ | assumption | (refine below_drewN ?_ _) | (refine Below.drew ?_) | (refine Below.alloc ?_ (by first | omega | (simp; omega) | simp) _) | (refine Below.setCell ?_ (by first | omega | (simp; omega) | simp) _) | (refine below_trans ?_ (by assumption) (by first | omega | (simp; omega) | simp)))))).mono ?_
  rintro e w2 ⟨B2, c2, rfl, o2, hb_w2⟩
  obtain ⟨hc_w2, hf_w2⟩ := bcell hb_w2; have hs_w2 := hb_w2.size; (try simp only [World.size_alloc, World.size_setCell, World.size_drew, World.heap_drewN] at hs_w2)
  have r2 := CRow.of_owns o2
  have b2 : Below w.heap.size w w2 := (by repeat (first | exact Below.refl _ _ | assumption | (refine below_drewN ?_ _) | (refine Below.drew ?_) | (refine Below.alloc ?_ (by first | omega | (simp; omega) | simp) _) | (refine Below.setCell ?_ (by first | omega | (simp; omega) | simp) _) | (refine below_trans ?_ (by assumption) (by first | omega | (simp; omega) | simp))))
  have r1 := r1.later hb_w2
  go_wp2_with fail
  go_at_call 11
  refine (HXA.out _ ((hr.later b2).later (by repeat (first | exact Below.refl _ _ | assumption | (refine below_drewN ?_ _) | (refine Below.drew ?_) | (refine Below.alloc ?_ (by first | omega | (simp; omega) | simp) _) | (refine Below.setCell ?_ (by first | omega | (simp; omega) | simp) _) | (refine below_trans ?_ (by assumption) (by first | omega | (simp; omega) | simp))))) ((hm.later b2).later (by repeat (first | exact Below.refl _ _ | assumption | (refine below_drewN ?_ _) | (refine Below.drew ?_) | (refine Below.alloc ?_ (by first | omega | (simp; omega) | simp) _) | (refine Below.setCell ?_ (by first | omega | (simp; omega) | simp) _) | (refine below_trans ?_ (by assumption) (by first | omega | (simp; omega) | simp)))))).mono ?_
  rintro e w3 ⟨B3, c3, rfl, o3, hb_w3⟩
  obtain ⟨hc_w3, hf_w3⟩ := bcell hb_w3; have hs_w3 := hb_w3.size; (try simp only [World.size_alloc, World.size_setCell, World.size_drew, World.heap_drewN] at hs_w3)
  have r3 := CRow.of_owns o3
  have b3 : Below w.heap.size w w3 := (by repeat (first | exact Below.refl _ _ | assumption | (refine below_drewN ?_ _) | (refine Below.drew ?_) | (refine Below.alloc ?_ (by first | omega | (simp; omega) | simp) _) | (refine Below.setCell ?_ (by first | omega | (simp; omega) | simp) _) | (refine below_trans ?_ (by assumption) (by first | omega | (simp; omega) | simp))))
  have r1 := r1.later hb_w3
  have r2 := r2.later hb_w3
  clear hc_w1 hf_w1 hc_w2 hf_w2 hc_w3 hf_w3
  go_wp2_with fail
  go_at_call 12
  refine (HO.out _ _ _ (r1.later (by repeat (first | exact Below.refl _ _ | assumption | (refine below_drewN ?_ _) | (refine Below.drew ?_) | (refine Below.alloc ?_ (by first | omega | (simp; omega) | simp) _) | (refine Below.setCell ?_ (by first | omega | (simp; omega) | simp) _) | (refine below_trans ?_ (by assumption) (by first | omega | (simp; omega) | simp))))) k1).mono ?_
  rintro e w4 ⟨B4, c4, rfl, o4, hb_w4⟩
  obtain ⟨hc_w4, hf_w4⟩ := bcell hb_w4; have hs_w4 := hb_w4.size; (try simp only [World.size_alloc, World.size_setCell, World.size_drew, World.heap_drewN] at hs_w4)
  have r4 := CRow.of_owns o4
  have b4 : Below w.heap.size w w4 := (by repeat (first | exact Below.refl _ _ | assumption | (refine below_drewN ?_ _) | (refine Below.drew ?_) | (refine Below.alloc ?_ (by first | omega | (simp; omega) | simp) _) | (refine Below.setCell ?_ (by first | omega | (simp; omega) | simp) _) | (refine below_trans ?_ (by assumption) (by first | omega | (simp; omega) | simp))))
  have r1 := r1.later hb_w4
  have r2 := r2.later hb_w4
  have r3 := r3.later hb_w4
  go_wp2_with fail
  go_at_call 13
  refine (HXO.out _ ((hr.later b4).later (by repeat (first | exact Below.refl _ _ | assumption | (refine below_drewN ?_ _) | (refine Below.drew ?_) | (refine Below.alloc ?_ (by first | omega | (simp; omega) | simp) _) | (refine Below.setCell ?_ (by first | omega | (simp; omega) | simp) _) | (refine below_trans ?_ (by assumption) (by first | omega | (simp; omega) | simp)))))).mono ?_
  rintro e w5 ⟨B5, c5, rfl, o5, hb_w5⟩
  obtain ⟨hc_w5, hf_w5⟩ := bcell hb_w5; have hs_w5 := hb_w5.size; (try simp only [World.size_alloc, World.size_setCell, World.size_drew, World.heap_drewN] at hs_w5)
  have r5 := CRow.of_owns o5
  have b5 : Below w.heap.size w w5 := (by repeat (first | exact Below.refl _ _ | assumption | (refine below_drewN ?_ _) | (refine Below.drew ?_) | (refine Below.alloc ?_ (by first | omega | (simp; omega) | simp) _) | (refine Below.setCell ?_ (by first | omega | (simp; omega) | simp) _) | (refine below_trans ?_ (by assumption) (by first | omega | (simp; omega) | simp))))
  have r1 := r1.later hb_w5
  have r2 := r2.later hb_w5
  have r3 := r3.later hb_w5
  have r4 := r4.later hb_w5
  clear hc_w4 hf_w4 hc_w5 hf_w5
  go_wp2_with fail
  go_at_call 14
  refine (HT.out _ _ _ (r1.later (by repeat (first | exact Below.refl _ _ | assumption | (refine below_drewN ?_ _) | (refine Below.drew ?_) | (refine Below.alloc ?_ (by first | omega | (simp; omega) | simp) _) | (refine Below.setCell ?_ (by first | omega | (simp; omega) | simp) _) | (refine below_trans ?_ (by assumption) (by first | omega | (simp; omega) | simp))))) k1).mono ?_
  rintro e w6 ⟨B6, c6, C6, d6, rfl, o6, o6', hb_w6⟩
  obtain ⟨hc_w6, hf_w6⟩ := bcell hb_w6; have hs_w6 := hb_w6.size; (try simp only [World.size_alloc, World.size_setCell, World.size_drew, World.heap_drewN] at hs_w6)
  have r6 := CRow.of_owns o6
  have r6' := CRow.of_owns o6'
  have b6 : Below w.heap.size w w6 := (by repeat (first | exact Below.refl _ _ | assumption | (refine below_drewN ?_ _) | (refine Below.drew ?_) | (refine Below.alloc ?_ (by first | omega | (simp; omega) | simp) _) | (refine Below.setCell ?_ (by first | omega | (simp; omega) | simp) _) | (refine below_trans ?_ (by assumption) (by first | omega | (simp; omega) | simp))))
  have r1 := r1.later hb_w6
  have r2 := r2.later hb_w6
  have r3 := r3.later hb_w6
  have r4 := r4.later hb_w6
  have r5 := r5.later hb_w6
  go_wp2_with fail
  go_at_call 15
  refine (HXT.out _ ((hr.later b6).later (by repeat (first | exact Below.refl _ _ | assumption | (refine below_drewN ?_ _) | (refine Below.drew ?_) | (refine Below.alloc ?_ (by first | omega | (simp; omega) | simp) _) | (refine Below.setCell ?_ (by first | omega | (simp; omega) | simp) _) | (refine below_trans ?_ (by assumption) (by first | omega | (simp; omega) | simp)))))).mono ?_
  rintro e w7 ⟨B7, c7, C7, d7, rfl, o7, o7', hb_w7⟩
  obtain ⟨hc_w7, hf_w7⟩ := bcell hb_w7; have hs_w7 := hb_w7.size; (try simp only [World.size_alloc, World.size_setCell, World.size_drew, World.heap_drewN] at hs_w7)
  have r7 := CRow.of_owns o7
  have r7' := CRow.of_owns o7'
  have b7 : Below w.heap.size w w7 := (by repeat (first | exact Below.refl _ _ | assumption | (refine below_drewN ?_ _) | (refine Below.drew ?_) | (refine Below.alloc ?_ (by first | omega | (simp; omega) | simp) _) | (refine Below.setCell ?_ (by first | omega | (simp; omega) | simp) _) | (refine below_trans ?_ (by assumption) (by first | omega | (simp; omega) | simp))))
  have r1 := r1.later hb_w7
  have r2 := r2.later hb_w7
  have r3 := r3.later hb_w7
  have r4 := r4.later hb_w7
  have r5 := r5.later hb_w7
  have r6 := r6.later hb_w7
  have r6' := r6'.later hb_w7
  have rl := hr.later b7
  clear hc_w6 hf_w6 hc_w7 hf_w7 o1 o2 o3 o4 o5 o6 o6' o7 o7' hr hm
  go_wp2_with fail
  go_at_call 16
  refine (clives_any _).mono ?_
  rintro e w8 ⟨rfl, hb_w8⟩
  obtain ⟨hc_w8, hf_w8⟩ := bcell hb_w8; have hs_w8 := hb_w8.size; (try simp only [World.size_alloc, World.size_setCell, World.size_drew, World.heap_drewN] at hs_w8)
  go_wp2_with fail
  go_at_call 17
  refine (HS1.out _ _ _ _ _ (r2.later (by repeat (first | exact Below.refl _ _ | assumption | (refine below_drewN ?_ _) | (refine Below.drew ?_) | (refine Below.alloc ?_ (by first | omega | (simp; omega) | simp) _) | (refine Below.setCell ?_ (by first | omega | (simp; omega) | simp) _) | (refine below_trans ?_ (by assumption) (by first | omega | (simp; omega) | simp))))) (r3.later (by repeat (first | exact Below.refl _ _ | assumption | (refine below_drewN ?_ _) | (refine Below.drew ?_) | (refine Below.alloc ?_ (by first | omega | (simp; omega) | simp) _) | (refine Below.setCell ?_ (by first | omega | (simp; omega) | simp) _) | (refine below_trans ?_ (by assumption) (by first | omega | (simp; omega) | simp)))))).mono ?_
  rintro e w9 ⟨rfl, hb_w9⟩
  obtain ⟨hc_w9, hf_w9⟩ := bcell hb_w9; have hs_w9 := hb_w9.size; (try simp only [World.size_alloc, World.size_setCell, World.size_drew, World.heap_drewN] at hs_w9)
  have b79 : Below w7.heap.size w7 w9 := (by repeat (first | exact Below.refl _ _ | assumption | (refine below_drewN ?_ _) | (refine Below.drew ?_) | (refine Below.alloc ?_ (by first | omega | (simp; omega) | simp) _) | (refine Below.setCell ?_ (by first | omega | (simp; omega) | simp) _) | (refine below_trans ?_ (by assumption) (by first | omega | (simp; omega) | simp))))
  go_wp2_with fail
  go_at_call 17
  refine (HS2.out _ _ _ _ _ ((r4.later b79).later (by repeat (first | exact Below.refl _ _ | assumption | (refine below_drewN ?_ _) | (refine Below.drew ?_) | (refine Below.alloc ?_ (by first | omega | (simp; omega) | simp) _) | (refine Below.setCell ?_ (by first | omega | (simp; omega) | simp) _) | (refine below_trans ?_ (by assumption) (by first | omega | (simp; omega) | simp))))) ((r5.later b79).later (by repeat (first | exact Below.refl _ _ | assumption | (refine below_drewN ?_ _) | (refine Below.drew ?_) | (refine Below.alloc ?_ (by first | omega | (simp; omega) | simp) _) | (refine Below.setCell ?_ (by first | omega | (simp; omega) | simp) _) | (refine below_trans ?_ (by assumption) (by first | omega | (simp; omega) | simp)))))).mono ?_
  rintro e w10 ⟨rfl, hb_w10⟩
  obtain ⟨hc_w10, hf_w10⟩ := bcell hb_w10; have hs_w10 := hb_w10.size; (try simp only [World.size_alloc, World.size_setCell, World.size_drew, World.heap_drewN] at hs_w10)
  have b710 : Below w7.heap.size w7 w10 := (by repeat (first | exact Below.refl _ _ | assumption | (refine below_drewN ?_ _) | (refine Below.drew ?_) | (refine Below.alloc ?_ (by first | omega | (simp; omega) | simp) _) | (refine Below.setCell ?_ (by first | omega | (simp; omega) | simp) _) | (refine below_trans ?_ (by assumption) (by first | omega | (simp; omega) | simp))))
  go_wp2_with fail
  go_at_call 17
  refine (HS3.out _ _ _ _ _ ((r6.later b710).later (by repeat (first | exact Below.refl _ _ | assumption | (refine below_drewN ?_ _) | (refine Below.drew ?_) | (refine Below.alloc ?_ (by first | omega | (simp; omega) | simp) _) | (refine Below.setCell ?_ (by first | omega | (simp; omega) | simp) _) | (refine below_trans ?_ (by assumption) (by first | omega | (simp; omega) | simp))))) ((r7.later b710).later (by repeat (first | exact Below.refl _ _ | assumption | (refine below_drewN ?_ _) | (refine Below.drew ?_) | (refine Below.alloc ?_ (by first | omega | (simp; omega) | simp) _) | (refine Below.setCell ?_ (by first | omega | (simp; omega) | simp) _) | (refine below_trans ?_ (by assumption) (by first | omega | (simp; omega) | simp)))))).mono ?_
  rintro e w11 ⟨rfl, hb_w11⟩
  obtain ⟨hc_w11, hf_w11⟩ := bcell hb_w11; have hs_w11 := hb_w11.size; (try simp only [World.size_alloc, World.size_setCell, World.size_drew, World.heap_drewN] at hs_w11)
  have b711 : Below w7.heap.size w7 w11 := (by repeat (first | exact Below.refl _ _ | assumption | (refine below_drewN ?_ _) | (refine Below.drew ?_) | (refine Below.alloc ?_ (by first | omega | (simp; omega) | simp) _) | (refine Below.setCell ?_ (by first | omega | (simp; omega) | simp) _) | (refine below_trans ?_ (by assumption) (by first | omega | (simp; omega) | simp))))
  go_wp2_with fail
  go_at_call 17
  refine (HS4.out _ _ _ _ _ ((r6'.later b711).later (by repeat (first | exact Below.refl _ _ | assumption | (refine below_drewN ?_ _) | (refine Below.drew ?_) | (refine Below.alloc ?_ (by first | omega | (simp; omega) | simp) _) | (refine Below.setCell ?_ (by first | omega | (simp; omega) | simp) _) | (refine below_trans ?_ (by assumption) (by first | omega | (simp; omega) | simp))))) ((r7'.later b711).later (by repeat (first | exact Below.refl _ _ | assumption | (refine below_drewN ?_ _) | (refine Below.drew ?_) | (refine Below.alloc ?_ (by first | omega | (simp; omega) | simp) _) | (refine Below.setCell ?_ (by first | omega | (simp; omega) | simp) _) | (refine below_trans ?_ (by assumption) (by first | omega | (simp; omega) | simp)))))).mono ?_
  rintro e w12 ⟨rfl, hb_w12⟩
  obtain ⟨hc_w12, hf_w12⟩ := bcell hb_w12; have hs_w12 := hb_w12.size; (try simp only [World.size_alloc, World.size_setCell, World.size_drew, World.heap_drewN] at hs_w12)
  have b712 : Below w7.heap.size w7 w12 := (by repeat (first | exact Below.refl _ _ | assumption | (refine below_drewN ?_ _) | (refine Below.drew ?_) | (refine Below.alloc ?_ (by first | omega | (simp; omega) | simp) _) | (refine Below.setCell ?_ (by first | omega | (simp; omega) | simp) _) | (refine below_trans ?_ (by assumption) (by first | omega | (simp; omega) | simp))))
  go_wp2_with fail
  go_at_call 17
  refine (HS5.out _ _ _ _ _ ((r1.later b712).later (by repeat (first | exact Below.refl _ _ | assumption | (refine below_drewN ?_ _) | (refine Below.drew ?_) | (refine Below.alloc ?_ (by first | omega | (simp; omega) | simp) _) | (refine Below.setCell ?_ (by first | omega | (simp; omega) | simp) _) | (refine below_trans ?_ (by assumption) (by first | omega | (simp; omega) | simp))))) ((rl.later b712).later (by repeat (first | exact Below.refl _ _ | assumption | (refine below_drewN ?_ _) | (refine Below.drew ?_) | (refine Below.alloc ?_ (by first | omega | (simp; omega) | simp) _) | (refine Below.setCell ?_ (by first | omega | (simp; omega) | simp) _) | (refine below_trans ?_ (by assumption) (by first | omega | (simp; omega) | simp)))))).mono ?_
  rintro e w13 ⟨rfl, hb_w13⟩
  obtain ⟨hc_w13, hf_w13⟩ := bcell hb_w13; have hs_w13 := hb_w13.size; (try simp only [World.size_alloc, World.size_setCell, World.size_drew, World.heap_drewN] at hs_w13)
  go_wp2
  go_ret
  exact ⟨rfl, (by repeat (first | exact Below.refl _ _ | assumption | (refine below_drewN ?_ _) | (refine Below.drew ?_) | (refine Below.alloc ?_ (by first | omega | (simp; omega) | simp) _) | (refine Below.setCell ?_ (by first | omega | (simp; omega) | simp) _) | (refine below_trans ?_ (by assumption) (by first | omega | (simp; omega) | simp))))⟩
end Go.Proofs.Ytamnfgpoelbgcaa
