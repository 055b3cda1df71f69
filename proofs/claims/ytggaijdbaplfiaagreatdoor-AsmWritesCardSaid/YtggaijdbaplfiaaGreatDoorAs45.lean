/- The walk of AsmWrites. -/
import Derived.Test.YtggaijdbaplfiaaGreatDoorAs44
import Derived.Test.YtggaijdbaplfiaaGreatDoorAs26
namespace Go.Proofs.YtggaijdbaplfiaaGreatDoor
open Go.RowKit
set_option linter.unusedVariables false
set_option linter.unusedSimpArgs false
theorem aprint_both {A : Option Addr} {l : List In} (cap : Nat) (hl : l.length ≤ 17592186044416) (hx : ∀ x ∈ l, OpB x) : ∃ (s : ByteArray) (y : Int),
    (∀ (w : World), PRow w w.heap.size A l → Lw w → Calls Tryz.prog 12 #[.slice A l.length cap] w fun e w' => e = .returned (.tuple #[.string s, .int .i64 y]) ∧ Below w.heap.size w w') ∧
    (∀ (w : World), PRow w w.heap.size A l → Calls Tryz.prog 13 #[.slice A l.length cap] w fun e w' => e = .returned (.tuple #[.string s, .int .i64 y]) ∧ Below w.heap.size w w') := by
  have hi : InL l := fun x h => (hx x h).r
  by_cases hok : OkP l
  · refine ⟨bs (printP l), 0, fun w hr hL => Calls.mono (print_any cap hr hl hi hL) ?_, fun w hr => Calls.mono (xprintP_any cap hr hl hx) ?_⟩
    · rintro e w' ⟨⟨_, rfl⟩ | ⟨h, _⟩, hb⟩
      · exact ⟨rfl, hb⟩
      · exact absurd hok h
    · rintro e w' ⟨⟨_, rfl⟩ | ⟨h, _⟩, hb⟩
      · exact ⟨rfl, hb⟩
      · exact absurd hok h
  · refine ⟨bs [], 2, fun w hr hL => Calls.mono (print_any cap hr hl hi hL) ?_, fun w hr => Calls.mono (xprintP_any cap hr hl hx) ?_⟩
    · rintro e w' ⟨⟨h, _⟩ | ⟨_, rfl⟩, hb⟩
      · exact absurd h hok
      · exact ⟨rfl, hb⟩
    · rintro e w' ⟨⟨h, _⟩ | ⟨_, rfl⟩, hb⟩
      · exact absurd h hok
      · exact ⟨rfl, hb⟩
theorem aline_both (x : In) (hx : OpB x) : ∃ (s : ByteArray) (y : Int),
    (∀ (w : World), Lw w → Calls Tryz.prog 14 #[inv x] w fun e w' => e = .returned (.tuple #[.string s, .int .i64 y]) ∧ Below w.heap.size w w') ∧
    (∀ (w : World), Calls Tryz.prog 15 #[inv x] w fun e w' => e = .returned (.tuple #[.string s, .int .i64 y]) ∧ Below w.heap.size w w') := by
  by_cases hok : OkI 256 x
  · exact ⟨_, _, fun w hL => aline_ok x hx.r hok hL, fun w => xlineP_ok x hx hok⟩
  · exact ⟨_, _, fun w hL => aline_bad x hx.r hok hL, fun w => xlineP_bad x hx hok⟩
theorem acount_both {A K : Option Addr} {l : List In} {ks : List Int} (cap kcap : Nat) (hl : l.length ≤ 17592186044416) (hx : ∀ x ∈ l, OpB x) (hkl : ks.length ≤ 140737488351232) : ∃ (n y : Int),
    (∀ (w : World), PRow w w.heap.size A l → KRow w w.heap.size K ks → Lw w → Calls Tryz.prog 16 #[.slice A l.length cap, .slice K ks.length kcap] w fun e w' => e = .returned (.tuple #[.int .i64 n, .int .i64 y]) ∧ Below w.heap.size w w') ∧
    (∀ (w : World), PRow w w.heap.size A l → KRow w w.heap.size K ks → Calls Tryz.prog 17 #[.slice A l.length cap, .slice K ks.length kcap] w fun e w' => e = .returned (.tuple #[.int .i64 n, .int .i64 y]) ∧ Below w.heap.size w w') := by
  have hi : ∀ x ∈ l, InR x := fun x h => (hx x h).r
  by_cases hok : OkP l
  · exact ⟨cntK l ks, 0, fun w hr hk hL => count_any cap kcap hr hl hi hk hkl hL _ _ (.inl ⟨hok, rfl, rfl⟩), fun w hr hk => xcountP_any cap kcap hr hl hx hk hkl _ _ (.inl ⟨hok, rfl, rfl⟩)⟩
  · exact ⟨0, 2, fun w hr hk hL => count_any cap kcap hr hl hi hk hkl hL _ _ (.inr ⟨hok, rfl, rfl⟩), fun w hr hk => xcountP_any cap kcap hr hl hx hk hkl _ _ (.inr ⟨hok, rfl, rfl⟩)⟩
theorem acheck_both {A : Option Addr} {l : List In} (cap : Nat) (hl : l.length ≤ 17592186044416) (hx : ∀ x ∈ l, OpB x) : ∃ (y : Int),
    (∀ (w : World), PRow w w.heap.size A l → Lw w → Calls Tryz.prog 18 #[.slice A l.length cap] w fun e w' => e = .returned (.int .i64 y) ∧ Below w.heap.size w w') ∧
    (∀ (w : World), PRow w w.heap.size A l → Calls Tryz.prog 19 #[.slice A l.length cap] w fun e w' => e = .returned (.int .i64 y) ∧ Below w.heap.size w w') := by
  have hi : ∀ x ∈ l, InR x := fun x h => (hx x h).r
  by_cases hok : OkP l
  · exact ⟨0, fun w hr hL => check_any cap hr hl hi hL _ (.inl ⟨hok, rfl⟩), fun w hr => xcheckP_any cap hr hl hx _ (.inl ⟨hok, rfl⟩)⟩
  · exact ⟨2, fun w hr hL => check_any cap hr hl hi hL _ (.inr ⟨hok, rfl⟩), fun w hr => xcheckP_any cap hr hl hx _ (.inr ⟨hok, rfl⟩)⟩
section
variable {w : World}
set_option maxRecDepth 100000 in
set_option maxHeartbeats 8000000 in
theorem asmWrites_walk (A K : Option Addr) (cap kcap : Nat) (l : List In) (x : In) (ks : List Int) (hL : Lw w) (hr : PRow w w.heap.size A l) (hl : l.length ≤ 17592186044416) (hx : ∀ x ∈ l, OpB x) (hX : OpB x) (hK : KRow w w.heap.size K ks) (hkl : ks.length ≤ 140737488351232) :
    Calls Tryz.prog 4 #[.slice A l.length cap, inv x, .slice K ks.length kcap] w fun r w' => r = .returned (.bool true) ∧ Below w.heap.size w w' := by
  have HLV := Lib.hid fun (w : World) hL => lives_any (w := w) hL
  obtain ⟨P, yp, H1, H2⟩ := aprint_both (A := A) cap hl hx
  obtain ⟨S, ys, H3, H4⟩ := aline_both x hX
  obtain ⟨n, yn, H5, H6⟩ := acount_both (A := A) (K := K) cap kcap hl hx hkl
  obtain ⟨yc, H7, H8⟩ := acheck_both (A := A) cap hl hx
  replace H1 := Lib.hid H1
  replace H2 := Lib.hid H2
  replace H3 := Lib.hid H3
  replace H4 := Lib.hid H4
  replace H5 := Lib.hid H5
  replace H6 := Lib.hid H6
  replace H7 := Lib.hid H7
  replace H8 := Lib.hid H8
  clear hx hX
  unfold inv at H3 H4 ⊢
  have HX0 := Lib.hid (In11.new w x 37)
  go_enter Tryz.func4, Tryz.ntmps4
  go_wp2_with fail
  go_at_call 12
  refine (H1.out _ (hr.later (by repeat (first | exact Below.refl _ _ | assumption | (refine below_drewN ?_ _) | (refine Below.drew ?_) | (refine Below.alloc ?_ (by first | omega | (simp; omega) | simp) _) | (refine Below.setCell ?_ (by first | omega | (simp; omega) | simp) _) | (refine below_trans ?_ (by assumption) (by first | omega | (simp; omega) | simp))))) (hL.later (by repeat (first | exact Below.refl _ _ | assumption | (refine below_drewN ?_ _) | (refine Below.drew ?_) | (refine Below.alloc ?_ (by first | omega | (simp; omega) | simp) _) | (refine Below.setCell ?_ (by first | omega | (simp; omega) | simp) _) | (refine below_trans ?_ (by assumption) (by first | omega | (simp; omega) | simp)))))).mono ?_
  rintro e w1 ⟨rfl, hb_w1⟩
  obtain ⟨hc_w1, hf_w1⟩ := bcell hb_w1; have hz_w1_w_0 : w.heap.size < w1.heap.size := (by have hzz := hb_w1.size; (try simp only [World.size_alloc, World.size_setCell, World.size_drew, World.heap_drewN] at hzz); omega); have hs_w1 := hb_w1.size; (try simp only [World.size_alloc, World.size_setCell, World.size_drew, World.heap_drewN] at hs_w1)
  have HX1 := Lib.hid (HX0.out.later hb_w1)
  have g1 := HX1.out.lt
  go_wp2_with fail
  go_at_call 13
  refine (H2.out _ (hr.later (by repeat (first | exact Below.refl _ _ | assumption | (refine below_drewN ?_ _) | (refine Below.drew ?_) | (refine Below.alloc ?_ (by first | omega | (simp; omega) | simp) _) | (refine Below.setCell ?_ (by first | omega | (simp; omega) | simp) _) | (refine below_trans ?_ (by assumption) (by first | omega | (simp; omega) | simp)))))).mono ?_
  rintro e w2 ⟨rfl, hb_w2⟩
  obtain ⟨hc_w2, hf_w2⟩ := bcell hb_w2; have hs_w2 := hb_w2.size; (try simp only [World.size_alloc, World.size_setCell, World.size_drew, World.heap_drewN] at hs_w2)
  have HX2 := Lib.hid (HX1.out.later hb_w2)
  have g2 := HX2.out.lt
  obtain ⟨c0, c1, c2, c3, c4, c5, c6, c7, c8, c9, c10⟩ := id HX2.out
  simp only [Nat.zero_add] at c0 c1 c2 c3 c4 c5 c6 c7 c8 c9 c10
  go_wp2_with fail
  go_at_call 14
  refine (H3.out _ (hL.later (by repeat (first | exact Below.refl _ _ | assumption | (refine below_drewN ?_ _) | (refine Below.drew ?_) | (refine Below.alloc ?_ (by first | omega | (simp; omega) | simp) _) | (refine Below.setCell ?_ (by first | omega | (simp; omega) | simp) _) | (refine below_trans ?_ (by assumption) (by first | omega | (simp; omega) | simp)))))).mono ?_
  rintro e w3 ⟨rfl, hb_w3⟩
  obtain ⟨hc_w3, hf_w3⟩ := bcell hb_w3; have hs_w3 := hb_w3.size; (try simp only [World.size_alloc, World.size_setCell, World.size_drew, World.heap_drewN] at hs_w3)
  clear c0 c1 c2 c3 c4 c5 c6 c7 c8 c9 c10
  have HX3 := Lib.hid (HX2.out.later hb_w3)
  obtain ⟨c0, c1, c2, c3, c4, c5, c6, c7, c8, c9, c10⟩ := id HX3.out
  simp only [Nat.zero_add] at c0 c1 c2 c3 c4 c5 c6 c7 c8 c9 c10
  go_wp2_with fail
  go_at_call 15
  refine (H4.out _).mono ?_
  rintro e w4 ⟨rfl, hb_w4⟩
  obtain ⟨hc_w4, hf_w4⟩ := bcell hb_w4; have hs_w4 := hb_w4.size; (try simp only [World.size_alloc, World.size_setCell, World.size_drew, World.heap_drewN] at hs_w4)
  clear c0 c1 c2 c3 c4 c5 c6 c7 c8 c9 c10
  go_wp2_with fail
  go_at_call 16
  refine (H5.out _ (hr.later (by repeat (first | exact Below.refl _ _ | assumption | (refine below_drewN ?_ _) | (refine Below.drew ?_) | (refine Below.alloc ?_ (by first | omega | (simp; omega) | simp) _) | (refine Below.setCell ?_ (by first | omega | (simp; omega) | simp) _) | (refine below_trans ?_ (by assumption) (by first | omega | (simp; omega) | simp))))) (hK.later (by repeat (first | exact Below.refl _ _ | assumption | (refine below_drewN ?_ _) | (refine Below.drew ?_) | (refine Below.alloc ?_ (by first | omega | (simp; omega) | simp) _) | (refine Below.setCell ?_ (by first | omega | (simp; omega) | simp) _) | (refine below_trans ?_ (by assumption) (by first | omega | (simp; omega) | simp))))) (hL.later (by repeat (first | exact Below.refl _ _ | assumption | (refine below_drewN ?_ _) | (refine Below.drew ?_) | (refine Below.alloc ?_ (by first | omega | (simp; omega) | simp) _) | (refine Below.setCell ?_ (by first | omega | (simp; omega) | simp) _) | (refine below_trans ?_ (by assumption) (by first | omega | (simp; omega) | simp)))))).mono ?_
  rintro e w5 ⟨rfl, hb_w5⟩
  obtain ⟨hc_w5, hf_w5⟩ := bcell hb_w5; have hs_w5 := hb_w5.size; (try simp only [World.size_alloc, World.size_setCell, World.size_drew, World.heap_drewN] at hs_w5)
  go_wp2_with fail
  go_at_call 17
  refine (H6.out _ (hr.later (by repeat (first | exact Below.refl _ _ | assumption | (refine below_drewN ?_ _) | (refine Below.drew ?_) | (refine Below.alloc ?_ (by first | omega | (simp; omega) | simp) _) | (refine Below.setCell ?_ (by first | omega | (simp; omega) | simp) _) | (refine below_trans ?_ (by assumption) (by first | omega | (simp; omega) | simp))))) (hK.later (by repeat (first | exact Below.refl _ _ | assumption | (refine below_drewN ?_ _) | (refine Below.drew ?_) | (refine Below.alloc ?_ (by first | omega | (simp; omega) | simp) _) | (refine Below.setCell ?_ (by first | omega | (simp; omega) | simp) _) | (refine below_trans ?_ (by assumption) (by first | omega | (simp; omega) | simp)))))).mono ?_
  rintro e w6 ⟨rfl, hb_w6⟩
  obtain ⟨hc_w6, hf_w6⟩ := bcell hb_w6; have hs_w6 := hb_w6.size; (try simp only [World.size_alloc, World.size_setCell, World.size_drew, World.heap_drewN] at hs_w6)
  go_wp2_with fail
  go_at_call 10
  refine (HLV.out _ (hL.later (by repeat (first | exact Below.refl _ _ | assumption | (refine below_drewN ?_ _) | (refine Below.drew ?_) | (refine Below.alloc ?_ (by first | omega | (simp; omega) | simp) _) | (refine Below.setCell ?_ (by first | omega | (simp; omega) | simp) _) | (refine below_trans ?_ (by assumption) (by first | omega | (simp; omega) | simp)))))).mono ?_
  rintro e w7 ⟨rfl, hb_w7⟩
  obtain ⟨hc_w7, hf_w7⟩ := bcell hb_w7; have hs_w7 := hb_w7.size; (try simp only [World.size_alloc, World.size_setCell, World.size_drew, World.heap_drewN] at hs_w7)
  go_wp2_with fail
  go_at_call 18
  refine (H7.out _ (hr.later (by repeat (first | exact Below.refl _ _ | assumption | (refine below_drewN ?_ _) | (refine Below.drew ?_) | (refine Below.alloc ?_ (by first | omega | (simp; omega) | simp) _) | (refine Below.setCell ?_ (by first | omega | (simp; omega) | simp) _) | (refine below_trans ?_ (by assumption) (by first | omega | (simp; omega) | simp))))) (hL.later (by repeat (first | exact Below.refl _ _ | assumption | (refine below_drewN ?_ _) | (refine Below.drew ?_) | (refine Below.alloc ?_ (by first | omega | (simp; omega) | simp) _) | (refine Below.setCell ?_ (by first | omega | (simp; omega) | simp) _) | (refine below_trans ?_ (by assumption) (by first | omega | (simp; omega) | simp)))))).mono ?_
  rintro e w8 ⟨rfl, hb_w8⟩
  obtain ⟨hc_w8, hf_w8⟩ := bcell hb_w8; have hs_w8 := hb_w8.size; (try simp only [World.size_alloc, World.size_setCell, World.size_drew, World.heap_drewN] at hs_w8)
  go_wp2_with fail
  go_at_call 19
  refine (H8.out _ (hr.later (by repeat (first | exact Below.refl _ _ | assumption | (refine below_drewN ?_ _) | (refine Below.drew ?_) | (refine Below.alloc ?_ (by first | omega | (simp; omega) | simp) _) | (refine Below.setCell ?_ (by first | omega | (simp; omega) | simp) _) | (refine below_trans ?_ (by assumption) (by first | omega | (simp; omega) | simp)))))).mono ?_
  rintro e w9 ⟨rfl, hb_w9⟩
  obtain ⟨hc_w9, hf_w9⟩ := bcell hb_w9; have hs_w9 := hb_w9.size; (try simp only [World.size_alloc, World.size_setCell, World.size_drew, World.heap_drewN] at hs_w9)
  go_wp2
  go_ret
  exact ⟨rfl, (by repeat (first | exact Below.refl _ _ | assumption | (refine below_drewN ?_ _) | (refine Below.drew ?_) | (refine Below.alloc ?_ (by first | omega | (simp; omega) | simp) _) | (refine Below.setCell ?_ (by first | omega | (simp; omega) | simp) _) | (refine below_trans ?_ (by assumption) (by first | omega | (simp; omega) | simp))))⟩
end
end Go.Proofs.YtggaijdbaplfiaaGreatDoor
