/- Contracts of package pace: phases, views, Check. -/
import Derived.Test.YtkdbcoibapcmjaaN2
namespace Go.Proofs.Ytkdbcoibapcmjaa
open Go.RowKit
set_option linter.unusedVariables false
set_option linter.unusedSimpArgs false

theorem or_zero (a b : Nat) : a ||| b = 0 ↔ a = 0 ∧ b = 0 := by
  constructor
  · intro h
    have k : ∀ i, (a ||| b).testBit i = false := fun i => by rw [h]; simp
    simp only [Nat.testBit_or, Bool.or_eq_false_iff] at k
    exact ⟨Nat.eq_of_testBit_eq fun i => by rw [(k i).1]; simp, Nat.eq_of_testBit_eq fun i => by rw [(k i).2]; simp⟩
  · rintro ⟨rfl, rfl⟩
    simp
theorem or_lt {a b : Nat} (ha : a < W64) (hb : b < W64) : a ||| b < W64 := by
  rw [W64_eq] at *
  exact Nat.or_lt_two_pow ha hb
/-- five words at once -/
theorem or_five (a b c d e : Nat) (ha : a < W64) (hb : b < W64) (hc : c < W64) (hd : d < W64) (he : e < W64) :
    ∃ x y z u : Nat, bits .or .u64 (a : Int) (b : Int) = (x : Int) ∧ bits .or .u64 (x : Int) (c : Int) = (y : Int) ∧ bits .or .u64 (y : Int) (d : Int) = (z : Int) ∧ bits .or .u64 (z : Int) (e : Int) = (u : Int) ∧ (u = 0 ↔ a = 0 ∧ b = 0 ∧ c = 0 ∧ d = 0 ∧ e = 0) := by
  have h1 := or_lt ha hb
  have h2 := or_lt h1 hc
  have h3 := or_lt h2 hd
  unfold W64 at ha hb hc hd he
  have k1 := h1; have k2 := h2; have k3 := h3
  unfold W64 at k1 k2 k3
  refine ⟨a ||| b, a ||| b ||| c, a ||| b ||| c ||| d, a ||| b ||| c ||| d ||| e, u64_or_nat _ _ ha hb, u64_or_nat _ _ k1 hc, u64_or_nat _ _ k2 hd, u64_or_nat _ _ k3 he, ?_⟩
  rw [or_zero, or_zero, or_zero, or_zero]
  constructor
  · rintro ⟨⟨⟨⟨a, b⟩, c⟩, d⟩, e⟩; exact ⟨a, b, c, d, e⟩
  · rintro ⟨a, b, c, d, e⟩; exact ⟨⟨⟨⟨a, b⟩, c⟩, d⟩, e⟩
theorem all0_any (l : List Nat) : l.any (fun d => !decide (d = 0)) = false ↔ ∀ d ∈ l, d = 0 := by
  rw [List.any_eq_false]
  constructor
  · intro h d hd
    have := h d hd
    simpa using this
  · intro h d hd
    have := h d hd
    simp [this]
section
variable {w : World} {p : Pc} {A : Option Addr} (c : Nat)
set_option maxHeartbeats 1000000 in
theorem pphased_any (hf : FitP p) (hr : Row w w.heap.size A p.ds) (hl : p.ds.length ≤ 17592186044416) (b : Bool) (hb : b = true ↔ PhaP p) :
    Calls Try.prog 43 #[(.agg #[.int .i64 p.pct, .int .u64 (p.least : Nat), .int .u64 (p.live : Nat), .bool p.on, .int .u64 (p.est : Nat), .int .u64 (p.room : Nat), .int .u64 (p.credit : Nat), .int .u64 (p.done : Nat), .int .u64 (p.made : Nat), .slice A p.ds.length c])] w fun e w' => e = .returned (.bool b) ∧ Below w.heap.size w w' := by
  have HB := Lib.hid hb
  have HD := Lib.hid fun (w : World) hr => wcontainsf_any (w := w) (A := A) (l := p.ds) c 48 #[] (fun d => !decide (d = 0)) eg_phased1 hr hl (fun W s _ _ => pphased1_any W s)
  have HA := Lib.hid (all0_any p.ds)
  obtain ⟨x, y, z, u, o1, o2, o3, o4, o5⟩ := or_five p.est p.room p.credit p.done p.made hf.est hf.room hf.credit hf.done hf.made
  have O5 := Lib.hid o5
  clear hf hb o5
  rcases ho : p.on with _ | _
  · by_cases hu : u = 0
    · have f1 : ((u : Int) == 0) = true := by simp [hu]
      rcases h7 : p.ds.any (fun d => !decide (d = 0)) with _ | _
      · rw [h7] at HD
        obtain rfl : b = true := HB.out.2 ⟨fun e => (by rw [ho] at e; cases e), fun _ => (by
          obtain ⟨a1, a2, a3, a4, a5⟩ := O5.out.1 hu
          exact ⟨a1, a2, a3, a4, a5, HA.out.1 h7⟩)⟩
        clear HB HA h7 O5 hu
        obtain ⟨pct, least, live, on, est, room, credit, done, made, ds⟩ := p
        simp only at *
        subst ho
        go_enter Try.func43, Try.ntmps43
        go_wp2_with fail
        go_at_call 46
        refine (HD.out _ (hr.later (by repeat (first | exact Below.refl _ _ | assumption | (refine below_drewN ?_ _) | (refine Below.drew ?_) | (refine Below.alloc ?_ (by first | omega | (simp; omega) | simp) _) | (refine Below.setCell ?_ (by first | omega | (simp; omega) | simp) _) | (refine below_trans ?_ (by assumption) (by first | omega | (simp; omega) | simp)))))).mono ?_
        rintro e w1 ⟨rfl, hb_w1⟩
        obtain ⟨hc_w1, hf_w1⟩ := bcell hb_w1; have hz_w1_w_0 : w.heap.size < w1.heap.size := (by have hzz := hb_w1.size; (try simp only [World.size_alloc, World.size_setCell, World.size_drew, World.heap_drewN] at hzz); omega); have hs_w1 := hb_w1.size; (try simp only [World.size_alloc, World.size_setCell, World.size_drew, World.heap_drewN] at hs_w1)
        go_wp2
        go_ret
        exact ⟨rfl, (by repeat (first | exact Below.refl _ _ | assumption | (refine below_drewN ?_ _) | (refine Below.drew ?_) | (refine Below.alloc ?_ (by first | omega | (simp; omega) | simp) _) | (refine Below.setCell ?_ (by first | omega | (simp; omega) | simp) _) | (refine below_trans ?_ (by assumption) (by first | omega | (simp; omega) | simp))))⟩
      · rw [h7] at HD
        obtain rfl : b = false := by cases b; rfl; exact absurd (HA.out.2 ((HB.out.1 rfl).off ho).2.2.2.2.2) (by rw [h7]; simp)
        clear HB HA h7 O5 hu
        obtain ⟨pct, least, live, on, est, room, credit, done, made, ds⟩ := p
        simp only at *
        subst ho
        go_enter Try.func43, Try.ntmps43
        go_wp2_with fail
        go_at_call 46
        refine (HD.out _ (hr.later (by repeat (first | exact Below.refl _ _ | assumption | (refine below_drewN ?_ _) | (refine Below.drew ?_) | (refine Below.alloc ?_ (by first | omega | (simp; omega) | simp) _) | (refine Below.setCell ?_ (by first | omega | (simp; omega) | simp) _) | (refine below_trans ?_ (by assumption) (by first | omega | (simp; omega) | simp)))))).mono ?_
        rintro e w1 ⟨rfl, hb_w1⟩
        obtain ⟨hc_w1, hf_w1⟩ := bcell hb_w1; have hz_w1_w_0 : w.heap.size < w1.heap.size := (by have hzz := hb_w1.size; (try simp only [World.size_alloc, World.size_setCell, World.size_drew, World.heap_drewN] at hzz); omega); have hs_w1 := hb_w1.size; (try simp only [World.size_alloc, World.size_setCell, World.size_drew, World.heap_drewN] at hs_w1)
        go_wp2
        go_ret
        exact ⟨rfl, (by repeat (first | exact Below.refl _ _ | assumption | (refine below_drewN ?_ _) | (refine Below.drew ?_) | (refine Below.alloc ?_ (by first | omega | (simp; omega) | simp) _) | (refine Below.setCell ?_ (by first | omega | (simp; omega) | simp) _) | (refine below_trans ?_ (by assumption) (by first | omega | (simp; omega) | simp))))⟩
    · have f1 : ((u : Int) == 0) = false := by simp; omega
      obtain rfl : b = false := by cases b; rfl; exact absurd (O5.out.2 (by obtain ⟨a1, a2, a3, a4, a5, _⟩ := (HB.out.1 rfl).off ho; exact ⟨a1, a2, a3, a4, a5⟩)) hu
      clear HB HA O5 hu HD
      obtain ⟨pct, least, live, on, est, room, credit, done, made, ds⟩ := p
      simp only at *
      subst ho
      go_enter Try.func43, Try.ntmps43
      go_wp2
      go_ret
      exact ⟨rfl, (by repeat (first | exact Below.refl _ _ | assumption | (refine below_drewN ?_ _) | (refine Below.drew ?_) | (refine Below.alloc ?_ (by first | omega | (simp; omega) | simp) _) | (refine Below.setCell ?_ (by first | omega | (simp; omega) | simp) _) | (refine below_trans ?_ (by assumption) (by first | omega | (simp; omega) | simp))))⟩
  · clear o1 o2 o3 o4 O5 HD HA
    by_cases h1 : 1 ≤ p.est
    · have f1 : decide ((1 : Int) ≤ (p.est : Int)) = true := by simp; omega
      by_cases h2 : 1 ≤ p.room
      · have f2 : decide ((1 : Int) ≤ (p.room : Int)) = true := by simp; omega
        obtain rfl : b = true := HB.out.2 ⟨fun _ => ⟨h1, h2⟩, fun e => (by rw [ho] at e; cases e)⟩
        clear HB h1 h2
        obtain ⟨pct, least, live, on, est, room, credit, done, made, ds⟩ := p
        simp only at *
        subst ho
        go_enter Try.func43, Try.ntmps43
        go_wp2
        go_ret
        exact ⟨rfl, (by repeat (first | exact Below.refl _ _ | assumption | (refine below_drewN ?_ _) | (refine Below.drew ?_) | (refine Below.alloc ?_ (by first | omega | (simp; omega) | simp) _) | (refine Below.setCell ?_ (by first | omega | (simp; omega) | simp) _) | (refine below_trans ?_ (by assumption) (by first | omega | (simp; omega) | simp))))⟩
      · have f2 : decide ((1 : Int) ≤ (p.room : Int)) = false := by simp; omega
        obtain rfl : b = false := by cases b; rfl; exact absurd ((HB.out.1 rfl).on1 ho).2 h2
        clear HB h1 h2
        obtain ⟨pct, least, live, on, est, room, credit, done, made, ds⟩ := p
        simp only at *
        subst ho
        go_enter Try.func43, Try.ntmps43
        go_wp2
        go_ret
        exact ⟨rfl, (by repeat (first | exact Below.refl _ _ | assumption | (refine below_drewN ?_ _) | (refine Below.drew ?_) | (refine Below.alloc ?_ (by first | omega | (simp; omega) | simp) _) | (refine Below.setCell ?_ (by first | omega | (simp; omega) | simp) _) | (refine below_trans ?_ (by assumption) (by first | omega | (simp; omega) | simp))))⟩
    · have f1 : decide ((1 : Int) ≤ (p.est : Int)) = false := by simp; omega
      obtain rfl : b = false := by cases b; rfl; exact absurd ((HB.out.1 rfl).on1 ho).1 h1
      clear HB h1
      obtain ⟨pct, least, live, on, est, room, credit, done, made, ds⟩ := p
      simp only at *
      subst ho
      go_enter Try.func43, Try.ntmps43
      go_wp2
      go_ret
      exact ⟨rfl, (by repeat (first | exact Below.refl _ _ | assumption | (refine below_drewN ?_ _) | (refine Below.drew ?_) | (refine Below.alloc ?_ (by first | omega | (simp; omega) | simp) _) | (refine Below.setCell ?_ (by first | omega | (simp; omega) | simp) _) | (refine below_trans ?_ (by assumption) (by first | omega | (simp; omega) | simp))))⟩
end
end Go.Proofs.Ytkdbcoibapcmjaa
