/- The document's own pacers: Goal, Due, Begin. -/
import Derived.Test.YtkdbcoibapcmjaaN18
import Derived.Deep.QuietTactic
import Derived.BigQuiet
namespace Go.Proofs.Ytkdbcoibapcmjaa
open Go.RowKit
set_option linter.unusedVariables false
set_option linter.unusedSimpArgs false
set_option maxRecDepth 100000

section
variable {w : World} {p : Pc} {A : Option Addr} (c : Nat)
set_option maxHeartbeats 2000000 in
theorem xpgoalX_any (hf : FitP p) (hr : Row w w.heap.size A p.ds) (g t : Nat) (y : Int) (hy : GoalE p g t y) :
    Calls Try.prog 10 #[(.agg #[.int .i64 p.pct, .int .u64 (p.least : Nat), .int .u64 (p.live : Nat), .bool p.on, .int .u64 (p.est : Nat), .int .u64 (p.room : Nat), .int .u64 (p.credit : Nat), .int .u64 (p.done : Nat), .int .u64 (p.made : Nat), .slice A p.ds.length c])] w fun e w' => e = .returned (.tuple #[.int .u64 (g : Nat), .int .u64 (t : Nat), .int .i64 y]) ∧ Below w.heap.size w w' := by
  rcases hy with ⟨hk, rfl, rfl, rfl⟩ | ⟨hk, rfl, rfl, rfl⟩
  · have HK := Lib.hid fun (w : World) hr => xpcheck_any (w := w) (p := p) (A := A) c hf hr 0 (.inl ⟨hk, rfl⟩)
    have HG := Lib.hid fun (w : World) => xpgoal_any (w := w) (p := p) (A := A) c hk
    have h4 := goalP_live hk; have h5 := goalP_le p; have h3 := hk.live
    have HX : Hid (trigP p = p.live + (goalP p - p.live) * 7 / 10) := Lib.hid rfl
    generalize goalP p = g at *
    generalize trigP p = t at *
    clear hk hf
    obtain ⟨pct, least, live, on, est, room, credit, done, made, ds⟩ := p
    simp only at *
    obtain ⟨d, hd⟩ : ∃ d : Nat, g = live + d := ⟨g - live, by omega⟩
    have hdd : (g : Int) - (live : Int) = (d : Int) := by omega
    have hdl : d ≤ 1099511627776 := by omega
    have c1 : IntKind.u64.wrap ((g : Int) - (live : Int)) = (d : Int) := by rw [IntKind.wrap_u64]; omega
    have c2 : IntKind.u64.wrap ((d : Int) * 7) = (d : Int) * 7 := by rw [IntKind.wrap_u64]; omega
    have HT : Hid (t = live + d * 7 / 10) := Lib.hid (by rw [HX.out]; omega)
    have HD := Lib.hid hd
    clear HX hd
    go_enter Try.func10, Try.ntmps10
    go_wp2_with fail
    go_at_call 18
    refine (HK.out _ (hr.later (by repeat (first | exact Below.refl _ _ | assumption | (refine below_drewN ?_ _) | (refine Below.drew ?_) | (refine Below.alloc ?_ (by first | omega | (simp; omega) | simp) _) | (refine Below.setCell ?_ (by first | omega | (simp; omega) | simp) _) | (refine below_trans ?_ (by assumption) (by first | omega | (simp; omega) | simp)))))).mono ?_
    rintro e w1 ⟨rfl, hb_w1⟩
    obtain ⟨hc_w1, hf_w1⟩ := bcell hb_w1; have hz_w1_w_0 : w.heap.size < w1.heap.size := (by have hzz := hb_w1.size; (try simp only [World.size_alloc, World.size_setCell, World.size_drew, World.heap_drewN] at hzz); omega); have hs_w1 := hb_w1.size; (try simp only [World.size_alloc, World.size_setCell, World.size_drew, World.heap_drewN] at hs_w1)
    have b1 : Below w.heap.size w w1 := (by repeat (first | exact Below.refl _ _ | assumption | (refine below_drewN ?_ _) | (refine Below.drew ?_) | (refine Below.alloc ?_ (by first | omega | (simp; omega) | simp) _) | (refine Below.setCell ?_ (by first | omega | (simp; omega) | simp) _) | (refine below_trans ?_ (by assumption) (by first | omega | (simp; omega) | simp))))
    have t1 := (Ten.new w (.int .i64 pct) (.int .u64 (least : Nat)) (.int .u64 (live : Nat)) (.bool on) (.int .u64 (est : Nat)) (.int .u64 (room : Nat)) (.int .u64 (credit : Nat)) (.int .u64 (done : Nat)) (.int .u64 (made : Nat)) (.slice A ds.length c) 25).later hb_w1
    clear hc_w1 hf_w1
    obtain ⟨n0, n1, n2, n3, n4, n5, n6, n7, n8, n9, nf⟩ := id t1
    go_wp2_with fail
    go_at_call 31
    refine (HG.out _).mono ?_
    rintro e w2 ⟨rfl, hb_w2⟩
    obtain ⟨hc_w2, hf_w2⟩ := bcell hb_w2; have hz_w2_w_0 : w.heap.size < w2.heap.size := (by have hzz := hb_w2.size; (try simp only [World.size_alloc, World.size_setCell, World.size_drew, World.heap_drewN] at hzz); omega); have hs_w2 := hb_w2.size; (try simp only [World.size_alloc, World.size_setCell, World.size_drew, World.heap_drewN] at hs_w2)
    have b2 : Below w.heap.size w w2 := (by repeat (first | exact Below.refl _ _ | assumption | (refine below_drewN ?_ _) | (refine Below.drew ?_) | (refine Below.alloc ?_ (by first | omega | (simp; omega) | simp) _) | (refine Below.setCell ?_ (by first | omega | (simp; omega) | simp) _) | (refine below_trans ?_ (by assumption) (by first | omega | (simp; omega) | simp))))
    have t2 := t1.later hb_w2
    clear hc_w2 hf_w2 n0 n1 n2 n3 n4 n5 n6 n7 n8 n9 nf
    obtain ⟨n0, n1, n2, n3, n4, n5, n6, n7, n8, n9, nf⟩ := id t2
    go_wp2_with fail
    go_quiet (fail)
    go_wp2
    go_ret3
    refine ⟨?_, (by repeat (first | exact Below.refl _ _ | assumption | (refine below_drewN ?_ _) | (refine Below.drew ?_) | (refine Below.alloc ?_ (by first | omega | (simp; omega) | simp) _) | (refine Below.setCell ?_ (by first | omega | (simp; omega) | simp) _) | (refine below_trans ?_ (by assumption) (by first | omega | (simp; omega) | simp))))⟩
    congr 1
    congr 1
    have := HT.out
    simp
    omega
  · have HK := Lib.hid fun (w : World) hr => xpcheck_any (w := w) (p := p) (A := A) c hf hr 2 (.inr ⟨hk, rfl⟩)
    clear hk hf
    obtain ⟨pct, least, live, on, est, room, credit, done, made, ds⟩ := p
    simp only at *
    go_enter Try.func10, Try.ntmps10
    go_wp2_with fail
    go_at_call 18
    refine (HK.out _ (hr.later (by repeat (first | exact Below.refl _ _ | assumption | (refine below_drewN ?_ _) | (refine Below.drew ?_) | (refine Below.alloc ?_ (by first | omega | (simp; omega) | simp) _) | (refine Below.setCell ?_ (by first | omega | (simp; omega) | simp) _) | (refine below_trans ?_ (by assumption) (by first | omega | (simp; omega) | simp)))))).mono ?_
    rintro e w1 ⟨rfl, hb_w1⟩
    obtain ⟨hc_w1, hf_w1⟩ := bcell hb_w1; have hz_w1_w_0 : w.heap.size < w1.heap.size := (by have hzz := hb_w1.size; (try simp only [World.size_alloc, World.size_setCell, World.size_drew, World.heap_drewN] at hzz); omega); have hs_w1 := hb_w1.size; (try simp only [World.size_alloc, World.size_setCell, World.size_drew, World.heap_drewN] at hs_w1)
    go_wp2
    go_ret3
    exact ⟨rfl, (by repeat (first | exact Below.refl _ _ | assumption | (refine below_drewN ?_ _) | (refine Below.drew ?_) | (refine Below.alloc ?_ (by first | omega | (simp; omega) | simp) _) | (refine Below.setCell ?_ (by first | omega | (simp; omega) | simp) _) | (refine below_trans ?_ (by assumption) (by first | omega | (simp; omega) | simp))))⟩
theorem xpdue_any (hf : FitP p) (hr : Row w w.heap.size A p.ds) (heap : Nat) (b : Bool) (y : Int) (hy : DueE p heap b y) :
    Calls Try.prog 12 #[(.agg #[.int .i64 p.pct, .int .u64 (p.least : Nat), .int .u64 (p.live : Nat), .bool p.on, .int .u64 (p.est : Nat), .int .u64 (p.room : Nat), .int .u64 (p.credit : Nat), .int .u64 (p.done : Nat), .int .u64 (p.made : Nat), .slice A p.ds.length c]), .int .u64 (heap : Nat)] w fun e w' => e = .returned (.tuple #[.bool b, .int .i64 y]) ∧ Below w.heap.size w w' := by
  rcases hy with ⟨hk, rfl, rfl⟩ | ⟨hk, rfl, rfl⟩
  · have HX := Lib.hid fun (w : World) hr => xpgoalX_any (w := w) (p := p) (A := A) c hf hr _ _ _ (.inl ⟨hk, rfl, rfl, rfl⟩)
    generalize goalP p = g at *
    generalize trigP p = t at *
    clear hk hf
    obtain ⟨pct, least, live, on, est, room, credit, done, made, ds⟩ := p
    simp only at *
    cases on
    all_goals
      go_enter Try.func12, Try.ntmps12
      go_wp2_with fail
      go_at_call 10
      refine (HX.out _ (hr.later (by repeat (first | exact Below.refl _ _ | assumption | (refine below_drewN ?_ _) | (refine Below.drew ?_) | (refine Below.alloc ?_ (by first | omega | (simp; omega) | simp) _) | (refine Below.setCell ?_ (by first | omega | (simp; omega) | simp) _) | (refine below_trans ?_ (by assumption) (by first | omega | (simp; omega) | simp)))))).mono ?_
      rintro e w1 ⟨rfl, hb_w1⟩
      obtain ⟨hc_w1, hf_w1⟩ := bcell hb_w1; have hz_w1_w_0 : w.heap.size < w1.heap.size := (by have hzz := hb_w1.size; (try simp only [World.size_alloc, World.size_setCell, World.size_drew, World.heap_drewN] at hzz); omega); have hs_w1 := hb_w1.size; (try simp only [World.size_alloc, World.size_setCell, World.size_drew, World.heap_drewN] at hs_w1)
      go_wp2
      go_ret2
      exact ⟨rfl, (by repeat (first | exact Below.refl _ _ | assumption | (refine below_drewN ?_ _) | (refine Below.drew ?_) | (refine Below.alloc ?_ (by first | omega | (simp; omega) | simp) _) | (refine Below.setCell ?_ (by first | omega | (simp; omega) | simp) _) | (refine below_trans ?_ (by assumption) (by first | omega | (simp; omega) | simp))))⟩
  · have HX := Lib.hid fun (w : World) hr => xpgoalX_any (w := w) (p := p) (A := A) c hf hr _ _ _ (.inr ⟨hk, rfl, rfl, rfl⟩)
    clear hk hf
    obtain ⟨pct, least, live, on, est, room, credit, done, made, ds⟩ := p
    simp only at *
    go_enter Try.func12, Try.ntmps12
    go_wp2_with fail
    go_at_call 10
    refine (HX.out _ (hr.later (by repeat (first | exact Below.refl _ _ | assumption | (refine below_drewN ?_ _) | (refine Below.drew ?_) | (refine Below.alloc ?_ (by first | omega | (simp; omega) | simp) _) | (refine Below.setCell ?_ (by first | omega | (simp; omega) | simp) _) | (refine below_trans ?_ (by assumption) (by first | omega | (simp; omega) | simp)))))).mono ?_
    rintro e w1 ⟨rfl, hb_w1⟩
    obtain ⟨hc_w1, hf_w1⟩ := bcell hb_w1; have hz_w1_w_0 : w.heap.size < w1.heap.size := (by have hzz := hb_w1.size; (try simp only [World.size_alloc, World.size_setCell, World.size_drew, World.heap_drewN] at hzz); omega); have hs_w1 := hb_w1.size; (try simp only [World.size_alloc, World.size_setCell, World.size_drew, World.heap_drewN] at hs_w1)
    go_wp2
    go_ret2
    exact ⟨rfl, (by repeat (first | exact Below.refl _ _ | assumption | (refine below_drewN ?_ _) | (refine Below.drew ?_) | (refine Below.alloc ?_ (by first | omega | (simp; omega) | simp) _) | (refine Below.setCell ?_ (by first | omega | (simp; omega) | simp) _) | (refine below_trans ?_ (by assumption) (by first | omega | (simp; omega) | simp))))⟩
end
end Go.Proofs.Ytkdbcoibapcmjaa
