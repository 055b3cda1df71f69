/- The walk of the law SpecialParts. -/
import Derived.Test.YtamnfgpoelbgcaaV19
import Derived.Test.YtamnfgpoelbgcaaV18
namespace Go.Proofs.Ytamnfgpoelbgcaa
open Go.RowKit
set_option linter.unusedVariables false
set_option linter.unusedSimpArgs false

theorem capC {w : World} {B cap : Nat} {A : Option Addr} {l : List Sc} (h : OwnsC w B (.slice A l.length cap) l) : l.length ≤ cap := by
  obtain ⟨_, ⟨h1, h2⟩ | ⟨g, cap', cur, e, _, _, hc, _⟩⟩ := h
  · omega
  · injection e with _ _ e3
    omega
set_option maxHeartbeats 4000000 in
theorem specialParts_walk (A : Option Addr) (cap : Nat) (l : List Sc) (x : Int) (w : World) (hr : CRow w w.heap.size A l) (hcl : l.length ≤ cap) (hl : l.length ≤ 5864062014805) :
    Calls Try.prog 6 #[.slice A l.length cap, .int .u64 x] w fun e w' => e = .returned (.bool true) ∧ Below w.heap.size w w' := by
  by_cases hok : OkC l
  · obtain ⟨p1, p2, p3⟩ := parts_count x l hok.2.ok
    have p4 := finals_one hok.2 x
    have hl64 := hok.1
    have hoa := hok.filter (leftP x 1)
    have hob := hoa.filter (leftP x 2)
    have HO1 := Lib.hid fun (w : World) hr => cofL_any (w := w) (A := A) (l := l) cap hr hcl hl x _ _ (.inl ⟨hok, rfl, rfl⟩)
    have HT1 := Lib.hid fun (w : World) hr => ctakeL_any (w := w) (A := A) (l := l) cap hr hcl hl x 1 _ _ _ (.inl ⟨hok, rfl, rfl, rfl⟩)
    have HT2 := Lib.hid fun (w : World) (A : Option Addr) (cap : Nat) hr hcl => ctakeL_any (w := w) (A := A) (l := l.filter (leftP x 1)) cap hr hcl (by have := hoa.1; omega) x 2 _ _ _ (.inl ⟨hoa, rfl, rfl, rfl⟩)
    have HO2 := Lib.hid fun (w : World) (A : Option Addr) (cap : Nat) hr hcl => cofL_any (w := w) (A := A) (l := (l.filter (leftP x 1)).filter (leftP x 2)) cap hr hcl (by have := hob.1; omega) x _ _ (.inl ⟨hob, rfl, rfl⟩)
    rw [p3] at HO2
    have l1 := List.length_filter_le (takeP x 1) l
    have l2 := List.length_filter_le (leftP x 1) l
    have l3 := List.length_filter_le (takeP x 2) (l.filter (leftP x 1))
    generalize (l.filter (leftP x 1)).filter (leftP x 2) = lb at *
    generalize (l.filter (leftP x 1)).filter (takeP x 2) = ly at *
    generalize l.filter (leftP x 1) = la at *
    generalize l.filter (takeP x 1) = lx at *
    generalize l.filter (ofP x) = lo at *
    simp only [List.length_nil] at HO2
    have e1 : ((lx.length : Int) + (ly.length : Int) == (lo.length : Int)) = true := by simp; omega
    have e2 : ((lb.length : Int) + (lo.length : Int) == (l.length : Int)) = true := by simp; omega
    have e3 : decide ((lx.length : Int) ≤ 1) = true := decide_eq_true (by omega)
    have e4 : decide (lx.length ≤ 1) = true := decide_eq_true p4
    have hx64 : (lx.length : Int) ≤ 64 := by omega
    have hy64 : (ly.length : Int) ≤ 64 := by omega
    have hb64 : (lb.length : Int) ≤ 64 := by have := hob.1; omega
    have ho64 : (lo.length : Int) ≤ 64 := by omega
    have P1 := Lib.hid p1
    have P2 := Lib.hid p2
    clear p1 p2 p3 hok hoa hob
    go_enter Try.func6, Try.ntmps6
    go_wp2_with fail
    go_at_call 16
    refine (clives_any _).mono ?_
    rintro e w1 ⟨rfl, hb_w1⟩
    obtain ⟨hc_w1, hf_w1⟩ := bcell hb_w1; have hs_w1 := hb_w1.size; (try simp only [World.size_alloc, World.size_setCell, World.size_drew, World.heap_drewN] at hs_w1)
    go_wp2_with fail
    go_at_call 12
    refine (HO1.out _ (hr.later (by repeat (first | exact Below.refl _ _ | assumption | (refine below_drewN ?_ _) | (refine Below.drew ?_) | (refine Below.alloc ?_ (by first | omega | (simp; omega) | simp) _) | (refine Below.setCell ?_ (by first | omega | (simp; omega) | simp) _) | (refine below_trans ?_ (by assumption) (by first | omega | (simp; omega) | simp)))))).mono ?_
    rintro e w2 ⟨B2, c2, rfl, o2, hb_w2⟩
    obtain ⟨hc_w2, hf_w2⟩ := bcell hb_w2; have hs_w2 := hb_w2.size; (try simp only [World.size_alloc, World.size_setCell, World.size_drew, World.heap_drewN] at hs_w2)
    go_wp2_with fail
    go_at_call 14
    refine (HT1.out _ ((hr.later (show Below w.heap.size w w2 from (by repeat (first | exact Below.refl _ _ | assumption | (refine below_drewN ?_ _) | (refine Below.drew ?_) | (refine Below.alloc ?_ (by first | omega | (simp; omega) | simp) _) | (refine Below.setCell ?_ (by first | omega | (simp; omega) | simp) _) | (refine below_trans ?_ (by assumption) (by first | omega | (simp; omega) | simp)))))).later (by repeat (first | exact Below.refl _ _ | assumption | (refine below_drewN ?_ _) | (refine Below.drew ?_) | (refine Below.alloc ?_ (by first | omega | (simp; omega) | simp) _) | (refine Below.setCell ?_ (by first | omega | (simp; omega) | simp) _) | (refine below_trans ?_ (by assumption) (by first | omega | (simp; omega) | simp)))))).mono ?_
    rintro e w3 ⟨B3, c3, C3, d3, rfl, o3, o3', hb_w3⟩
    obtain ⟨hc_w3, hf_w3⟩ := bcell hb_w3; have hs_w3 := hb_w3.size; (try simp only [World.size_alloc, World.size_setCell, World.size_drew, World.heap_drewN] at hs_w3)
    have r3 := CRow.of_owns o3
    go_wp2_with fail
    go_at_call 14
    refine (HT2.out _ _ _ (r3.later (by repeat (first | exact Below.refl _ _ | assumption | (refine below_drewN ?_ _) | (refine Below.drew ?_) | (refine Below.alloc ?_ (by first | omega | (simp; omega) | simp) _) | (refine Below.setCell ?_ (by first | omega | (simp; omega) | simp) _) | (refine below_trans ?_ (by assumption) (by first | omega | (simp; omega) | simp))))) (capC o3)).mono ?_
    rintro e w4 ⟨B4, c4, C4, d4, rfl, o4, o4', hb_w4⟩
    obtain ⟨hc_w4, hf_w4⟩ := bcell hb_w4; have hs_w4 := hb_w4.size; (try simp only [World.size_alloc, World.size_setCell, World.size_drew, World.heap_drewN] at hs_w4)
    have r4 := CRow.of_owns o4
    go_wp2_with fail
    go_at_call 12
    refine (HO2.out _ _ _ (r4.later (by repeat (first | exact Below.refl _ _ | assumption | (refine below_drewN ?_ _) | (refine Below.drew ?_) | (refine Below.alloc ?_ (by first | omega | (simp; omega) | simp) _) | (refine Below.setCell ?_ (by first | omega | (simp; omega) | simp) _) | (refine below_trans ?_ (by assumption) (by first | omega | (simp; omega) | simp))))) (capC o4)).mono ?_
    rintro e w5 ⟨B5, c5, rfl, o5, hb_w5⟩
    obtain ⟨hc_w5, hf_w5⟩ := bcell hb_w5; have hs_w5 := hb_w5.size; (try simp only [World.size_alloc, World.size_setCell, World.size_drew, World.heap_drewN] at hs_w5)
    go_wp2
    go_ret
    exact ⟨rfl, (by repeat (first | exact Below.refl _ _ | assumption | (refine below_drewN ?_ _) | (refine Below.drew ?_) | (refine Below.alloc ?_ (by first | omega | (simp; omega) | simp) _) | (refine Below.setCell ?_ (by first | omega | (simp; omega) | simp) _) | (refine below_trans ?_ (by assumption) (by first | omega | (simp; omega) | simp))))⟩
  · have HO1 := Lib.hid fun (w : World) hr => cofL_any (w := w) (A := A) (l := l) cap hr hcl hl x _ _ (.inr ⟨hok, rfl, rfl⟩)
    have HT1 := Lib.hid fun (w : World) hr => ctakeL_any (w := w) (A := A) (l := l) cap hr hcl hl x 1 _ _ _ (.inr ⟨hok, rfl, rfl, rfl⟩)
    have HT2 := Lib.hid fun (w : World) (A : Option Addr) (cap : Nat) => ctakeL_any (w := w) (A := A) (l := []) cap (CRow.nil _ _ _) (by simp) (by simp) x 2 _ _ _ (.inl ⟨okC_nil, rfl, rfl, rfl⟩)
    simp only [List.filter_nil, List.length_nil] at HO1 HT1 HT2
    clear hok
    go_enter Try.func6, Try.ntmps6
    go_wp2_with fail
    go_at_call 16
    refine (clives_any _).mono ?_
    rintro e w1 ⟨rfl, hb_w1⟩
    obtain ⟨hc_w1, hf_w1⟩ := bcell hb_w1; have hs_w1 := hb_w1.size; (try simp only [World.size_alloc, World.size_setCell, World.size_drew, World.heap_drewN] at hs_w1)
    go_wp2_with fail
    go_at_call 12
    refine (HO1.out _ (hr.later (by repeat (first | exact Below.refl _ _ | assumption | (refine below_drewN ?_ _) | (refine Below.drew ?_) | (refine Below.alloc ?_ (by first | omega | (simp; omega) | simp) _) | (refine Below.setCell ?_ (by first | omega | (simp; omega) | simp) _) | (refine below_trans ?_ (by assumption) (by first | omega | (simp; omega) | simp)))))).mono ?_
    rintro e w2 ⟨B2, c2, rfl, o2, hb_w2⟩
    obtain ⟨hc_w2, hf_w2⟩ := bcell hb_w2; have hs_w2 := hb_w2.size; (try simp only [World.size_alloc, World.size_setCell, World.size_drew, World.heap_drewN] at hs_w2)
    go_wp2_with fail
    go_at_call 14
    refine (HT1.out _ ((hr.later (show Below w.heap.size w w2 from (by repeat (first | exact Below.refl _ _ | assumption | (refine below_drewN ?_ _) | (refine Below.drew ?_) | (refine Below.alloc ?_ (by first | omega | (simp; omega) | simp) _) | (refine Below.setCell ?_ (by first | omega | (simp; omega) | simp) _) | (refine below_trans ?_ (by assumption) (by first | omega | (simp; omega) | simp)))))).later (by repeat (first | exact Below.refl _ _ | assumption | (refine below_drewN ?_ _) | (refine Below.drew ?_) | (refine Below.alloc ?_ (by first | omega | (simp; omega) | simp) _) | (refine Below.setCell ?_ (by first | omega | (simp; omega) | simp) _) | (refine below_trans ?_ (by assumption) (by first | omega | (simp; omega) | simp)))))).mono ?_
    rintro e w3 ⟨B3, c3, C3, d3, rfl, o3, o3', hb_w3⟩
    obtain ⟨hc_w3, hf_w3⟩ := bcell hb_w3; have hs_w3 := hb_w3.size; (try simp only [World.size_alloc, World.size_setCell, World.size_drew, World.heap_drewN] at hs_w3)
    go_wp2_with fail
    go_at_call 14
    refine (HT2.out _ _ _).mono ?_
    rintro e w4 ⟨B4, c4, C4, d4, rfl, o4, o4', hb_w4⟩
    obtain ⟨hc_w4, hf_w4⟩ := bcell hb_w4; have hs_w4 := hb_w4.size; (try simp only [World.size_alloc, World.size_setCell, World.size_drew, World.heap_drewN] at hs_w4)
    go_wp2
    go_ret
    exact ⟨rfl, (by repeat (first | exact Below.refl _ _ | assumption | (refine below_drewN ?_ _) | (refine Below.drew ?_) | (refine Below.alloc ?_ (by first | omega | (simp; omega) | simp) _) | (refine Below.setCell ?_ (by first | omega | (simp; omega) | simp) _) | (refine below_trans ?_ (by assumption) (by first | omega | (simp; omega) | simp))))⟩
end Go.Proofs.Ytamnfgpoelbgcaa
