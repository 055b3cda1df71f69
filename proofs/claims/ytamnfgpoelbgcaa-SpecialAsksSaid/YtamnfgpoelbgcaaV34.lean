/- The walk of the law SpecialAsks. -/
import Derived.Test.YtamnfgpoelbgcaaV33
import Derived.Test.YtamnfgpoelbgcaaV20
namespace Go.Proofs.Ytamnfgpoelbgcaa
open Go.RowKit
set_option linter.unusedVariables false
set_option linter.unusedSimpArgs false

set_option maxHeartbeats 4000000 in
theorem specialAsks_core (A : Option Addr) (cap : Nat) (l : List Sc) (kd : Int) (r : List Int) (y : Int) (hr64 : r.length ≤ 64)
    (HA : Hid (∀ w : World, CRow w w.heap.size A l → Calls Try.prog 18 #[.slice A l.length cap, .int .u8 kd] w fun e w' => ∃ A' c', e = .returned (.tuple #[.slice A' r.length c', .int .i64 y]) ∧ WRow w' A' r ∧ Below w.heap.size w w'))
    (HX : Hid (∀ w : World, CRow w w.heap.size A l → Calls Try.prog 19 #[.slice A l.length cap, .int .u8 kd] w fun e w' => ∃ A' c', e = .returned (.tuple #[.slice A' r.length c', .int .i64 y]) ∧ WRow w' A' r ∧ Below w.heap.size w w'))
    (HC : Hid (∀ w : World, CRow w w.heap.size A l → Calls Try.prog 20 #[.slice A l.length cap] w fun e w' => e = .returned (.int .i64 y) ∧ Below w.heap.size w w'))
    (HD : Hid (∀ w : World, CRow w w.heap.size A l → Calls Try.prog 21 #[.slice A l.length cap] w fun e w' => e = .returned (.int .i64 y) ∧ Below w.heap.size w w'))
    (w : World) (hr : CRow w w.heap.size A l) :
    Calls Try.prog 4 #[.slice A l.length cap, .int .u8 kd] w fun e w' => e = .returned (.bool true) ∧ Below w.heap.size w w' := by
  have ny : (y != y) = false := by simp
  go_enter Try.func4, Try.ntmps4
  go_wp2_with fail
  go_at_call 18
  refine (HA.out _ (hr.later (by repeat (first | exact Below.refl _ _ | assumption | (refine below_drewN ?_ _) | (refine Below.drew ?_) | (refine Below.alloc ?_ (by first | omega | (simp; omega) | simp) _) | (refine Below.setCell ?_ (by first | omega | (simp; omega) | simp) _) | (refine below_trans ?_ (by assumption) (by first | omega | (simp; omega) | simp)))))).mono ?_
  rintro e w2 ⟨A2, c2, rfl, o2, hb_w2⟩
  obtain ⟨hc_w2, hf_w2⟩ := bcell hb_w2; have hs_w2 := hb_w2.size; (try simp only [World.size_alloc, World.size_setCell, World.size_drew, World.heap_drewN] at hs_w2)
  have b2 : Below w.heap.size w w2 := (by repeat (first | exact Below.refl _ _ | assumption | (refine below_drewN ?_ _) | (refine Below.drew ?_) | (refine Below.alloc ?_ (by first | omega | (simp; omega) | simp) _) | (refine Below.setCell ?_ (by first | omega | (simp; omega) | simp) _) | (refine below_trans ?_ (by assumption) (by first | omega | (simp; omega) | simp))))
  go_wp2_with fail
  go_at_call 19
  refine (HX.out _ ((hr.later b2).later (by repeat (first | exact Below.refl _ _ | assumption | (refine below_drewN ?_ _) | (refine Below.drew ?_) | (refine Below.alloc ?_ (by first | omega | (simp; omega) | simp) _) | (refine Below.setCell ?_ (by first | omega | (simp; omega) | simp) _) | (refine below_trans ?_ (by assumption) (by first | omega | (simp; omega) | simp)))))).mono ?_
  rintro e w3 ⟨A3, c3, rfl, o3, hb_w3⟩
  obtain ⟨hc_w3, hf_w3⟩ := bcell hb_w3; have hs_w3 := hb_w3.size; (try simp only [World.size_alloc, World.size_setCell, World.size_drew, World.heap_drewN] at hs_w3)
  have b3 : Below w.heap.size w w3 := (by repeat (first | exact Below.refl _ _ | assumption | (refine below_drewN ?_ _) | (refine Below.drew ?_) | (refine Below.alloc ?_ (by first | omega | (simp; omega) | simp) _) | (refine Below.setCell ?_ (by first | omega | (simp; omega) | simp) _) | (refine below_trans ?_ (by assumption) (by first | omega | (simp; omega) | simp))))
  have o2 := o2.later hb_w3
  go_wp2_with fail
  go_at_call 16
  refine (clives_any _).mono ?_
  rintro e w4 ⟨rfl, hb_w4⟩
  obtain ⟨hc_w4, hf_w4⟩ := bcell hb_w4; have hs_w4 := hb_w4.size; (try simp only [World.size_alloc, World.size_setCell, World.size_drew, World.heap_drewN] at hs_w4)
  have b4 : Below w.heap.size w w4 := (by repeat (first | exact Below.refl _ _ | assumption | (refine below_drewN ?_ _) | (refine Below.drew ?_) | (refine Below.alloc ?_ (by first | omega | (simp; omega) | simp) _) | (refine Below.setCell ?_ (by first | omega | (simp; omega) | simp) _) | (refine below_trans ?_ (by assumption) (by first | omega | (simp; omega) | simp))))
  have b34 : Below w3.heap.size w3 w4 := (by repeat (first | exact Below.refl _ _ | assumption | (refine below_drewN ?_ _) | (refine Below.drew ?_) | (refine Below.alloc ?_ (by first | omega | (simp; omega) | simp) _) | (refine Below.setCell ?_ (by first | omega | (simp; omega) | simp) _) | (refine below_trans ?_ (by assumption) (by first | omega | (simp; omega) | simp))))
  go_wp2_with fail
  go_at_call 20
  refine (HC.out _ ((hr.later b4).later (by repeat (first | exact Below.refl _ _ | assumption | (refine below_drewN ?_ _) | (refine Below.drew ?_) | (refine Below.alloc ?_ (by first | omega | (simp; omega) | simp) _) | (refine Below.setCell ?_ (by first | omega | (simp; omega) | simp) _) | (refine below_trans ?_ (by assumption) (by first | omega | (simp; omega) | simp)))))).mono ?_
  rintro e w5 ⟨rfl, hb_w5⟩
  obtain ⟨hc_w5, hf_w5⟩ := bcell hb_w5; have hs_w5 := hb_w5.size; (try simp only [World.size_alloc, World.size_setCell, World.size_drew, World.heap_drewN] at hs_w5)
  have b35 : Below w3.heap.size w3 w5 := below_trans b34 hb_w5 (by first | omega | (simp; omega) | simp)
  have b5 : Below w.heap.size w w5 := below_trans b3 b35 (by first | omega | (simp; omega) | simp)
  go_wp2_with fail
  go_at_call 21
  refine (HD.out _ ((hr.later b5).later (by repeat (first | exact Below.refl _ _ | assumption | (refine below_drewN ?_ _) | (refine Below.drew ?_) | (refine Below.alloc ?_ (by first | omega | (simp; omega) | simp) _) | (refine Below.setCell ?_ (by first | omega | (simp; omega) | simp) _) | (refine below_trans ?_ (by assumption) (by first | omega | (simp; omega) | simp)))))).mono ?_
  rintro e w6 ⟨rfl, hb_w6⟩
  obtain ⟨hc_w6, hf_w6⟩ := bcell hb_w6; have hs_w6 := hb_w6.size; (try simp only [World.size_alloc, World.size_setCell, World.size_drew, World.heap_drewN] at hs_w6)
  have b36 : Below w3.heap.size w3 w6 := below_trans b35 hb_w6 (by first | omega | (simp; omega) | simp)
  have b6 : Below w.heap.size w w6 := below_trans b3 b36 (by first | omega | (simp; omega) | simp)
  have o2 := Lib.hid (o2.later b36)
  have o3 := Lib.hid (o3.later b36)
  go_wp2_with fail
  go_loopw [45] (fun ii wr => ∃ k : Nat, ii = .int .i64 (k : Nat) ∧ k ≤ r.length ∧ Below w6.heap.size w6 wr) (fun ii _ => r.length - (intOf ii).toNat)
  case atStart => exact ⟨0, rfl, Nat.zero_le _, (by repeat (first | exact Below.refl _ _ | assumption | (refine below_drewN ?_ _) | (refine Below.drew ?_) | (refine Below.alloc ?_ (by first | omega | (simp; omega) | simp) _) | (refine Below.setCell ?_ (by first | omega | (simp; omega) | simp) _) | (refine below_trans ?_ (by assumption) (by first | omega | (simp; omega) | simp))))⟩
  case round =>
    obtain ⟨k, rfl, hk, hb_wr⟩ := hrel
    have hsr := hb_wr.size
    by_cases hlt : k < r.length
    · obtain ⟨ga, rfl, hga, ca⟩ := (o2.out.later hb_wr) (by omega)
      obtain ⟨gb, rfl, hgb, cb⟩ := (o3.out.later hb_wr) (by omega)
      have ca := ca k hlt
      have cb := cb k hlt
      generalize r.getD k 0 = x at *
      have nx : (x != x) = false := by simp
      have i1 : (k : Int) < (r.length : Int) := by omega
      have i2 : (0 : Int) ≤ (k : Int) := by omega
      go_wp2_with fail
      go_quiet (fail)
      go_wp2
      go_roundw
      case rel => exact ⟨k + 1, by go_num, by omega, (by repeat (first | exact Below.refl _ _ | assumption | (refine below_drewN ?_ _) | (refine Below.drew ?_) | (refine Below.alloc ?_ (by first | omega | (simp; omega) | simp) _) | (refine Below.setCell ?_ (by first | omega | (simp; omega) | simp) _) | (refine below_trans ?_ (by assumption) (by first | omega | (simp; omega) | simp))))⟩
      case measure => simp [intOf]; omega
    · go_wp2
      go_ret
      exact ⟨rfl, below_trans b6 hb_wr (by first | omega | (simp; omega) | simp)⟩
theorem specialAsks_walk (A : Option Addr) (cap : Nat) (l : List Sc) (kd : Int) (w : World) (hr : CRow w w.heap.size A l) (hcl : l.length ≤ cap) (hl : l.length ≤ 5864062014805) :
    Calls Try.prog 4 #[.slice A l.length cap, .int .u8 kd] w fun e w' => e = .returned (.bool true) ∧ Below w.heap.size w w' := by
  by_cases hok : OkC l
  · have hx : addrsOf l kd = intsV ((l.filter fun s => s.k == kd).map fun s => s.a) := by
      unfold addrsOf intsV
      rw [List.map_map]
      rfl
    have hlen : (cmpI ((l.filter fun s => s.k == kd).map fun s => s.a)).length ≤ 64 := by
      have h1 := cmp_len ((l.filter fun s => s.k == kd).map fun s => s.a) _ (Nat.le_refl _)
      rw [List.take_length, List.length_map] at h1
      have := List.length_filter_le (fun s : Sc => s.k == kd) l
      have := hok.1
      omega
    refine specialAsks_core A cap l kd _ 0 hlen (Lib.hid fun w hr => caddrs_ok cap hr hcl hok kd _ hx) (Lib.hid fun w hr => (xaddrs_ok cap hr hcl hok kd _ (adsI_cmp l kd)).mono ?_) (Lib.hid fun w hr => ccheck_any cap hr hcl hl 0 (.inl ⟨hok, rfl⟩)) (Lib.hid fun w hr => xccheck_any cap hr hcl hl 0 (.inl ⟨hok, rfl⟩)) w hr
    rintro e w' ⟨B, cb, rfl, o, hb⟩
    exact ⟨B, cb, rfl, WRow.of_owns o rfl, hb⟩
  · refine specialAsks_core A cap l kd [] 2 (by simp) (Lib.hid fun w hr => (caddrs_bad cap hr hcl hl hok kd).mono ?_) (Lib.hid fun w hr => (xaddrs_bad cap hr hcl hl hok kd).mono ?_) (Lib.hid fun w hr => ccheck_any cap hr hcl hl 2 (.inr ⟨hok, rfl⟩)) (Lib.hid fun w hr => xccheck_any cap hr hcl hl 2 (.inr ⟨hok, rfl⟩)) w hr
    · rintro e w' ⟨rfl, hb⟩
      exact ⟨none, 0, rfl, fun h => by simp at h, hb⟩
    · rintro e w' ⟨rfl, hb⟩
      exact ⟨none, 0, rfl, fun h => by simp at h, hb⟩
end Go.Proofs.Ytamnfgpoelbgcaa
