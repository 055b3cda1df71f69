/- Contracts of package arena: words are added up. -/
import Derived.Test.YtofkdpgnngbkfaaB2
namespace Go.Proofs.Ytofkdpgnngbkfaa
open Go.RowKit
set_option linter.unusedVariables false
set_option linter.unusedSimpArgs false

theorem wrap_add (x y : Nat) : IntKind.u64.wrap ((x : Int) + (y : Int)) = (((x + y) % W64 : Nat) : Int) := by
  unfold W64
  simp [IntKind.wrap, IntKind.bits]
  intro h
  cases h
def sumTo (ws ps : List Nat) : Nat → Nat
  | 0 => 0
  | k + 1 => (sumTo ws ps k + ws.getD (ps.getD k 0) 0) % W64
def AllIn (ws ps : List Nat) (k : Nat) : Prop := ∀ j, j < k → ps.getD j 0 < ws.length
section
variable {A B : Option Addr} {ws ps : List Nat} {w : World} (cap cap' : Nat)
theorem sum_bad (h : ¬ ws.length ≤ 16384) : Calls Try.prog 7 #[.agg #[.slice A ws.length cap], .slice B ps.length cap'] w fun e w' => e = .returned (.tuple #[.int .u64 0, .int .i64 2]) ∧ Below w.heap.size w w' := by
  have HR := Lib.hid h
  clear h
  go_enter Try.func7, Try.ntmps7
  go_wp2_with (go_at_call 13; refine (acheck_bad _ _ HR.out).mono ?_; rintro e w1 ⟨rfl, hb_w1⟩; obtain ⟨hc_w1, hf_w1⟩ := bcell hb_w1; have hz_w1_w_0 : w.heap.size < w1.heap.size := (by have hzz := hb_w1.size; (try simp only [World.size_alloc, World.size_setCell, World.size_drew, World.heap_drewN] at hzz); omega))
  go_ret2
  exact ⟨rfl, (by repeat (first | exact Below.refl _ _ | assumption | (refine below_drewN ?_ _) | (refine Below.drew ?_) | (refine Below.alloc ?_ (by first | omega | (simp; omega) | simp) _) | (refine Below.setCell ?_ (by first | omega | (simp; omega) | simp) _) | (refine below_trans ?_ (by assumption) (by first | omega | (simp; omega) | simp))))⟩
def SumE (ws ps : List Nat) (e : Ending) : Prop := (AllIn ws ps ps.length ∧ e = .returned (.tuple #[.int .u64 (sumTo ws ps ps.length : Nat), .int .i64 0])) ∨ (¬ AllIn ws ps ps.length ∧ e = .returned (.tuple #[.int .u64 0, .int .i64 1]))
theorem sum_ok (hr : Row w w.heap.size A ws) (hp : Row w w.heap.size B ps) (hl : ps.length ≤ 17592186044416) (h : ws.length ≤ 16384) : Calls Try.prog 7 #[.agg #[.slice A ws.length cap], .slice B ps.length cap'] w fun e w' => SumE ws ps e ∧ Below w.heap.size w w' := by
  go_enter Try.func7, Try.ntmps7
  go_wp2_with fail
  go_at_call 13
  refine (acheck_ok _ _ h).mono ?_
  rintro e w1 ⟨rfl, hb_w1⟩
  obtain ⟨hc_w1, hf_w1⟩ := bcell hb_w1; have hz_w1_w_0 : w.heap.size < w1.heap.size := (by have hzz := hb_w1.size; (try simp only [World.size_alloc, World.size_setCell, World.size_drew, World.heap_drewN] at hzz); omega); have hs_w1 := hb_w1.size; (try simp only [World.size_alloc, World.size_setCell, World.size_drew, World.heap_drewN] at hs_w1)
  have t1 : w1.cell? ⟨w.heap.size, 0, none⟩ = some (.slice A ws.length cap) := (hc_w1 _ _ (by first | omega | (simp; omega) | simp)).trans (by simp [go_sem])
  go_wp2_with fail
  go_loopw [7, 19] (fun s i wr => ∃ k : Nat, i = .int .i64 k ∧ k ≤ ps.length ∧ s = .int .u64 (sumTo ws ps k : Nat) ∧ AllIn ws ps k ∧ wr.cell? ⟨w.heap.size, 0, none⟩ = some (.slice A ws.length cap) ∧ w.heap.size + 1 ≤ wr.heap.size ∧ Below w.heap.size w wr)
    (fun _ i _ => ps.length - (intOf i).toNat)
  case atStart => exact ⟨0, rfl, Nat.zero_le _, rfl, fun j h => by omega, t1, (by first | omega | (simp; omega) | simp), (by repeat (first | exact Below.refl _ _ | assumption | (refine below_drewN ?_ _) | (refine Below.drew ?_) | (refine Below.alloc ?_ (by first | omega | (simp; omega) | simp) _) | (refine Below.setCell ?_ (by first | omega | (simp; omega) | simp) _) | (refine below_trans ?_ (by assumption) (by first | omega | (simp; omega) | simp))))⟩
  case round =>
    obtain ⟨k, rfl, hk, rfl, hs, hc0, hsz, hb_wr⟩ := hrel
    by_cases hlt : k < ps.length
    · obtain ⟨b, off, rfl, hb, hc⟩ := (hp.later hb_wr).at_ (by omega)
      have hck := hc k hlt
      have hpk := hp.words.at_ k
      obtain ⟨y, hy⟩ := named ps k
      rw [hy.out] at hck hpk
      clear hc
      have hL := load_any cap y (hr.later (w' := wr) hb_wr) hpk
      by_cases hin : y + 1 ≤ ws.length
      · obtain ⟨x, hx⟩ := named ws y
        have e1 : gotA ws y = x := by unfold gotA; rw [if_pos h, if_pos hin, hx.out]
        have e2 : errA ws (y + 1 ≤ ws.length) = 0 := (resA_in (us := []) h hin).2
        rw [e1, e2] at hL
        have HL := Lib.hid hL
        have e3 := wrap_add (sumTo ws ps k) x
        have E : Hid (sumTo ws ps (k + 1) = (sumTo ws ps k + x) % W64) := Lib.hid (by rw [sumTo, hy.out, hx.out])
        clear hL e1 e2
        go_wp2_with fail
        go_at_call 5
        refine HL.out.mono ?_
        rintro e w3 ⟨rfl, hb_w3⟩
        obtain ⟨hc_w3, hf_w3⟩ := bcell hb_w3; have hz_w3_w_0 : w.heap.size < w3.heap.size := (by have hzz := hb_w3.size; (try simp only [World.size_alloc, World.size_setCell, World.size_drew, World.heap_drewN] at hzz); omega); have hs_w3 := hb_w3.size; (try simp only [World.size_alloc, World.size_setCell, World.size_drew, World.heap_drewN] at hs_w3)
        have t3 : w3.cell? ⟨w.heap.size, 0, none⟩ = some (.slice A ws.length cap) := (hc_w3 _ _ (by first | omega | (simp; omega) | simp)).trans hc0
        go_wp2_with fail
        go_roundw
        case rel =>
          exact ⟨k + 1, by go_num, by omega, by rw [E.out]; first | done | rfl | (simp only [W64]; push_cast; rfl) | (congr 1; unfold W64; omega), fun j hj => by
            by_cases ej : j = k
            · rw [ej, hy.out]; omega
            · exact hs j (by omega), t3, (by first | omega | (simp; omega) | simp), (by repeat (first | exact Below.refl _ _ | assumption | (refine below_drewN ?_ _) | (refine Below.drew ?_) | (refine Below.alloc ?_ (by first | omega | (simp; omega) | simp) _) | (refine Below.setCell ?_ (by first | omega | (simp; omega) | simp) _) | (refine below_trans ?_ (by assumption) (by first | omega | (simp; omega) | simp))))⟩
        case measure => simp [intOf]; omega
      · have e1 : gotA ws y = 0 := by unfold gotA; rw [if_pos h, if_neg hin]
        have e2 : errA ws (y + 1 ≤ ws.length) = 1 := (resA_out (us := []) h hin).2
        rw [e1, e2] at hL
        have HL := Lib.hid hL
        clear hL e1 e2
        go_wp2_with fail
        go_at_call 5
        refine HL.out.mono ?_
        rintro e w3 ⟨rfl, hb_w3⟩
        obtain ⟨hc_w3, hf_w3⟩ := bcell hb_w3; have hz_w3_w_0 : w.heap.size < w3.heap.size := (by have hzz := hb_w3.size; (try simp only [World.size_alloc, World.size_setCell, World.size_drew, World.heap_drewN] at hzz); omega); have hs_w3 := hb_w3.size; (try simp only [World.size_alloc, World.size_setCell, World.size_drew, World.heap_drewN] at hs_w3)
        go_wp2_with fail
        go_ret2
        exact ⟨.inr ⟨fun hh => by have := hh k hlt; rw [hy.out] at this; omega, rfl⟩, (by repeat (first | exact Below.refl _ _ | assumption | (refine below_drewN ?_ _) | (refine Below.drew ?_) | (refine Below.alloc ?_ (by first | omega | (simp; omega) | simp) _) | (refine Below.setCell ?_ (by first | omega | (simp; omega) | simp) _) | (refine below_trans ?_ (by assumption) (by first | omega | (simp; omega) | simp))))⟩
    · obtain rfl : k = ps.length := by omega
      go_wp2
      go_ret2
      exact ⟨.inl ⟨hs, rfl⟩, (by repeat (first | exact Below.refl _ _ | assumption | (refine below_drewN ?_ _) | (refine Below.drew ?_) | (refine Below.alloc ?_ (by first | omega | (simp; omega) | simp) _) | (refine Below.setCell ?_ (by first | omega | (simp; omega) | simp) _) | (refine below_trans ?_ (by assumption) (by first | omega | (simp; omega) | simp))))⟩
end
end Go.Proofs.Ytofkdpgnngbkfaa
