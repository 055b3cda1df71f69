/- Contracts of package pace: the goal and the trigger. -/
import Derived.Test.YtkdbcoibapcmjaaN4
import Derived.Deep.RegionHeld3
namespace Go.Proofs.Ytkdbcoibapcmjaa
open Go.RowKit
set_option linter.unusedVariables false
set_option linter.unusedSimpArgs false
set_option maxRecDepth 100000

theorem prod_le {a b x y : Nat} (h1 : a ≤ x) (h2 : b ≤ y) : a * b ≤ x * y := Nat.mul_le_mul h1 h2
section
variable {w : World} {p : Pc} {A : Option Addr} (c : Nat)
theorem pgoal_any (hk : OkP p) :
    Calls Try.prog 29 #[(.agg #[.int .i64 p.pct, .int .u64 (p.least : Nat), .int .u64 (p.live : Nat), .bool p.on, .int .u64 (p.est : Nat), .int .u64 (p.room : Nat), .int .u64 (p.credit : Nat), .int .u64 (p.done : Nat), .int .u64 (p.made : Nat), .slice A p.ds.length c])] w fun e w' => e = .returned (.int .u64 (goalP p : Nat)) ∧ Below w.heap.size w w' := by
  have h1 := hk.pct1; have h2 := hk.pct2; have h3 := hk.live; have h4 := hk.least2; have h5 := hk.least1
  obtain ⟨m, hm⟩ : ∃ m, p.live * p.pct.toNat = m := ⟨_, rfl⟩
  obtain ⟨k, hkk⟩ : ∃ k : Nat, p.pct = (k : Int) := ⟨p.pct.toNat, by omega⟩
  have hm2 : m ≤ 1099511627776 * 10000 := by rw [← hm]; exact prod_le h3 (by omega)
  have hm3 : (p.live : Int) * p.pct = (m : Int) := by rw [← hm, hkk, Int.toNat_natCast]; simp
  have HG : Hid (goalP p = min (max (p.live + m / 100) p.least) 1099511627776) := Lib.hid (by unfold goalP; rw [hm])
  have c1 : IntKind.u64.wrap p.pct = p.pct := by rw [IntKind.wrap_u64]; omega
  have c2 : IntKind.u64.wrap (m : Int) = (m : Int) := by rw [IntKind.wrap_u64]; omega
  clear hk hkk hm
  generalize goalP p = g at *
  obtain ⟨pct, least, live, on, est, room, credit, done, made, ds⟩ := p
  simp only at *
  go_enter Try.func29, Try.ntmps29
  go_wp2
  all_goals
    go_ret
    exact ⟨ret_int (by rw [HG.out]; omega), (by repeat (first | exact Below.refl _ _ | assumption | (refine below_drewN ?_ _) | (refine Below.drew ?_) | (refine Below.alloc ?_ (by first | omega | (simp; omega) | simp) _) | (refine Below.setCell ?_ (by first | omega | (simp; omega) | simp) _) | (refine below_trans ?_ (by assumption) (by first | omega | (simp; omega) | simp))))⟩
theorem ptrigger_any (hk : OkP p) :
    Calls Try.prog 30 #[(.agg #[.int .i64 p.pct, .int .u64 (p.least : Nat), .int .u64 (p.live : Nat), .bool p.on, .int .u64 (p.est : Nat), .int .u64 (p.room : Nat), .int .u64 (p.credit : Nat), .int .u64 (p.done : Nat), .int .u64 (p.made : Nat), .slice A p.ds.length c])] w fun e w' => e = .returned (.int .u64 (trigP p : Nat)) ∧ Below w.heap.size w w' := by
  have h3 := hk.live; have h4 := goalP_live hk; have h5 := goalP_le p
  have HX := Lib.hid fun (w : World) => pgoal_any (w := w) (A := A) c hk
  have HG : Hid (trigP p = p.live + (goalP p - p.live) * 7 / 10) := Lib.hid rfl
  generalize goalP p = g at *
  generalize trigP p = t at *
  clear hk
  obtain ⟨pct, least, live, on, est, room, credit, done, made, ds⟩ := p
  simp only at *
  have c1 : IntKind.u64.wrap ((g : Int) - (live : Int)) = ((g : Int) - (live : Int)) := by rw [IntKind.wrap_u64]; omega
  have c2 : IntKind.u64.wrap (((g : Int) - (live : Int)) * 7) = (((g : Int) - (live : Int)) * 7) := by rw [IntKind.wrap_u64]; omega
  go_enter Try.func30, Try.ntmps30
  go_wp2_with fail
  go_region_held3 (fun X : World => X.cell? ⟨w.heap.size, 0, none⟩ = some (.int .i64 pct) ∧ X.cell? ⟨w.heap.size, 1, none⟩ = some (.int .u64 (least : Nat)) ∧ X.cell? ⟨w.heap.size, 2, none⟩ = some (.int .u64 (live : Nat)) ∧ X.cell? ⟨w.heap.size, 3, none⟩ = some (.bool on) ∧ X.cell? ⟨w.heap.size, 4, none⟩ = some (.int .u64 (est : Nat)) ∧ X.cell? ⟨w.heap.size, 5, none⟩ = some (.int .u64 (room : Nat)) ∧ X.cell? ⟨w.heap.size, 6, none⟩ = some (.int .u64 (credit : Nat)) ∧ X.cell? ⟨w.heap.size, 7, none⟩ = some (.int .u64 (done : Nat)) ∧ X.cell? ⟨w.heap.size, 8, none⟩ = some (.int .u64 (made : Nat)) ∧ X.cell? ⟨w.heap.size, 9, none⟩ = some (.slice A ds.length c))
    ((refine ⟨?_, ?_, ?_, ?_, ?_, ?_, ?_, ?_, ?_, ?_⟩ <;> first | assumption | (simp [go_sem]; done)))
    ((go_at_call 29; refine (HX.out _).mono ?_; rintro e w1 ⟨rfl, hb_w1⟩; have n0 : w1.cell? ⟨w.heap.size, 0, none⟩ = some (.int .i64 pct) := (hb_w1.cell (p := ⟨w.heap.size, 0, none⟩) (by first | omega | (simp; omega) | simp)).trans (by simp [go_sem]); have n1 : w1.cell? ⟨w.heap.size, 1, none⟩ = some (.int .u64 (least : Nat)) := (hb_w1.cell (p := ⟨w.heap.size, 1, none⟩) (by first | omega | (simp; omega) | simp)).trans (by simp [go_sem]); have n2 : w1.cell? ⟨w.heap.size, 2, none⟩ = some (.int .u64 (live : Nat)) := (hb_w1.cell (p := ⟨w.heap.size, 2, none⟩) (by first | omega | (simp; omega) | simp)).trans (by simp [go_sem]); have n3 : w1.cell? ⟨w.heap.size, 3, none⟩ = some (.bool on) := (hb_w1.cell (p := ⟨w.heap.size, 3, none⟩) (by first | omega | (simp; omega) | simp)).trans (by simp [go_sem]); have n4 : w1.cell? ⟨w.heap.size, 4, none⟩ = some (.int .u64 (est : Nat)) := (hb_w1.cell (p := ⟨w.heap.size, 4, none⟩) (by first | omega | (simp; omega) | simp)).trans (by simp [go_sem]); have n5 : w1.cell? ⟨w.heap.size, 5, none⟩ = some (.int .u64 (room : Nat)) := (hb_w1.cell (p := ⟨w.heap.size, 5, none⟩) (by first | omega | (simp; omega) | simp)).trans (by simp [go_sem]); have n6 : w1.cell? ⟨w.heap.size, 6, none⟩ = some (.int .u64 (credit : Nat)) := (hb_w1.cell (p := ⟨w.heap.size, 6, none⟩) (by first | omega | (simp; omega) | simp)).trans (by simp [go_sem]); have n7 : w1.cell? ⟨w.heap.size, 7, none⟩ = some (.int .u64 (done : Nat)) := (hb_w1.cell (p := ⟨w.heap.size, 7, none⟩) (by first | omega | (simp; omega) | simp)).trans (by simp [go_sem]); have n8 : w1.cell? ⟨w.heap.size, 8, none⟩ = some (.int .u64 (made : Nat)) := (hb_w1.cell (p := ⟨w.heap.size, 8, none⟩) (by first | omega | (simp; omega) | simp)).trans (by simp [go_sem]); have n9 : w1.cell? ⟨w.heap.size, 9, none⟩ = some (.slice A ds.length c) := (hb_w1.cell (p := ⟨w.heap.size, 9, none⟩) (by first | omega | (simp; omega) | simp)).trans (by simp [go_sem])))
  all_goals
    go_wp2
    go_ret
    refine ⟨ret_int ?_, (by repeat (first | exact Below.refl _ _ | assumption | (refine below_drewN ?_ _) | (refine Below.drew ?_) | (refine Below.alloc ?_ (by first | omega | (simp; omega) | simp) _) | (refine Below.setCell ?_ (by first | omega | (simp; omega) | simp) _) | (refine below_trans ?_ (by assumption) (by first | omega | (simp; omega) | simp))))⟩
    obtain ⟨d, hd⟩ : ∃ d : Nat, g = live + d := ⟨g - live, by omega⟩
    rw [HG.out, Int.tdiv_eq_ediv_of_nonneg (by omega), show ((g : Int) - (live : Int)) * 7 / 10 = ((d * 7 / 10 : Nat) : Int) by omega, show g - live = d by omega]
    have hq : d * 7 / 10 ≤ 1099511627776 := by omega
    generalize d * 7 / 10 = q at hq
    rw [IntKind.wrap_u64 (q : Int), Int.emod_eq_of_lt (by omega) (by omega), IntKind.wrap_u64, Int.emod_eq_of_lt (by omega) (by omega)]
    omega
end
end Go.Proofs.Ytkdbcoibapcmjaa
