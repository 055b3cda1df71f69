/- Contracts: the questions whose answers the document gives (asks). -/
import Derived.Test.YtbhblffomlhopaaAgree
namespace Go.Proofs.Ytbhblffomlhopaa
open Go.RowKit
set_option linter.unusedVariables false
set_option linter.unusedSimpArgs false

theorem right4 : Right 4 [6] := right_fillW (right_wordsN 4 (by omega) (by omega)) 1 2 true (by omega)
theorem right4' : Right 4 [12] := right_fillW (right_wordsN 4 (by omega) (by omega)) 2 2 true (by omega)
theorem first4 : FirstP [6] true 0 4 1 0 := .inl ⟨rfl, by omega, by omega, by decide, fun j g1 g2 => by
  obtain rfl : j = 0 := by omega
  decide⟩
theorem run4 : RunP [6] 1 4 0 0 := .inl ⟨rfl, 0, by omega, by decide, fun j g => by
  obtain rfl : j = 0 := by omega
  decide, by omega⟩
theorem run4' : RunP [6] 2 4 0 3 := .inr ⟨rfl, rfl, fun j g => by
  have h : j = 0 ∨ j = 1 ∨ j = 2 ∨ j = 3 ∨ j = 4 := by omega
  rcases h with rfl | rfl | rfl | rfl | rfl <;> decide⟩
theorem row_one (W : World) (g x : Nat) (hx : x < W64) (hg : g < W.heap.size) (hc : W.cell? ⟨g, 0, none⟩ = some (.int .u64 (x : Nat))) : Row W W.heap.size (some ⟨g, 0, none⟩) [x] :=
  ⟨fun y hy => by rw [List.mem_singleton] at hy; rw [hy]; exact hx, fun _ => ⟨g, 0, rfl, hg, fun i hi => by
    obtain rfl : i = 0 := by simpa using hi
    exact hc⟩⟩

theorem asks_any (w : World) : Calls Try.prog 34 #[] w fun e w' => e = .returned (.bool true) ∧ Below w.heap.size w w' := by
  go_enter Try.func34, Try.ntmps34
  go_wp2_with fail
  go_at_call 28
  have r0 := row_one ((w.alloc (.cells #[.int .u64 6] 49)).alloc (.cells #[.int .i64 4, .slice (some ⟨w.heap.size, 0, none⟩) 1 1] 24)) w.heap.size 6 (by decide) (by first | omega | (simp; omega) | simp) (by simp [go_sem])
  refine (count_ok (ws := [6]) 1 r0 right4).mono ?_
  rintro e w1 ⟨rfl, hb_w1⟩
  rw [show countTo [6] (4 : Int).toNat = 2 by decide]
  obtain ⟨hc_w1, hf_w1⟩ := bcell hb_w1; have hz_w1_w_0 : w.heap.size < w1.heap.size := (by have hzz := hb_w1.size; (try simp only [World.size_alloc, World.size_setCell, World.size_drew, World.heap_drewN] at hzz); omega); have hz_w1_w_1 : w.heap.size + 1 < w1.heap.size := (by have hzz := hb_w1.size; (try simp only [World.size_alloc, World.size_setCell, World.size_drew, World.heap_drewN] at hzz); omega); have hs_w1 := hb_w1.size; (try simp only [World.size_alloc, World.size_setCell, World.size_drew, World.heap_drewN] at hs_w1)
  have r1 := r0.later hb_w1
  go_wp2_with fail
  go_at_call 30
  refine (first_in (ws := [6]) 1 0 true r1 right4 (by omega) (by omega)).mono ?_
  rintro e w2 ⟨h2, hb_w2⟩
  rw [h2.is (fun i why h => h.one first4 (by omega))]
  clear h2
  obtain ⟨hc_w2, hf_w2⟩ := bcell hb_w2; have hz_w2_w_0 : w.heap.size < w2.heap.size := (by have hzz := hb_w2.size; (try simp only [World.size_alloc, World.size_setCell, World.size_drew, World.heap_drewN] at hzz); omega); have hz_w2_w_1 : w.heap.size + 1 < w2.heap.size := (by have hzz := hb_w2.size; (try simp only [World.size_alloc, World.size_setCell, World.size_drew, World.heap_drewN] at hzz); omega); have hs_w2 := hb_w2.size; (try simp only [World.size_alloc, World.size_setCell, World.size_drew, World.heap_drewN] at hs_w2)
  have r2 := r1.later hb_w2
  go_wp2_with fail
  go_at_call 32
  refine (bits_run_in (ws := [6]) 1 1 r2 right4 (by omega) (by omega)).mono ?_
  rintro e w3 ⟨h3, hb_w3⟩
  rw [h3.is (fun i why h => h.one run4)]
  clear h3
  obtain ⟨hc_w3, hf_w3⟩ := bcell hb_w3; have hz_w3_w_0 : w.heap.size < w3.heap.size := (by have hzz := hb_w3.size; (try simp only [World.size_alloc, World.size_setCell, World.size_drew, World.heap_drewN] at hzz); omega); have hz_w3_w_1 : w.heap.size + 1 < w3.heap.size := (by have hzz := hb_w3.size; (try simp only [World.size_alloc, World.size_setCell, World.size_drew, World.heap_drewN] at hzz); omega); have hs_w3 := hb_w3.size; (try simp only [World.size_alloc, World.size_setCell, World.size_drew, World.heap_drewN] at hs_w3)
  have r3 := r2.later hb_w3
  go_wp2_with fail
  go_at_call 32
  refine (bits_run_in (ws := [6]) 1 2 r3 right4 (by omega) (by omega)).mono ?_
  rintro e w4 ⟨h4, hb_w4⟩
  rw [h4.is (fun i why h => h.one run4')]
  clear h4
  obtain ⟨hc_w4, hf_w4⟩ := bcell hb_w4; have hz_w4_w_0 : w.heap.size < w4.heap.size := (by have hzz := hb_w4.size; (try simp only [World.size_alloc, World.size_setCell, World.size_drew, World.heap_drewN] at hzz); omega); have hz_w4_w_1 : w.heap.size + 1 < w4.heap.size := (by have hzz := hb_w4.size; (try simp only [World.size_alloc, World.size_setCell, World.size_drew, World.heap_drewN] at hzz); omega); have hs_w4 := hb_w4.size; (try simp only [World.size_alloc, World.size_setCell, World.size_drew, World.heap_drewN] at hs_w4)
  have r4 := r3.later hb_w4
  go_wp2_with fail
  go_at_call 35
  have r5 := row_one (w4.alloc (.cells #[.int .u64 12] 49)) w4.heap.size 12 (by decide) (by first | omega | (simp; omega) | simp) (by simp [go_sem])
  refine (both_ok (ws := [6]) (us := [12]) 1 1 (r4.later (by repeat (first | exact Below.refl _ _ | assumption | (refine below_drewN ?_ _) | (refine Below.drew ?_) | (refine Below.alloc ?_ (by first | omega | (simp; omega) | simp) _) | (refine Below.setCell ?_ (by first | omega | (simp; omega) | simp) _) | (refine below_trans ?_ (by assumption) (by first | omega | (simp; omega) | simp))))) r5 right4 right4').mono ?_
  rintro e w5 ⟨A5, cap5, rfl, ho5, hb_w5⟩
  obtain ⟨hc_w5, hf_w5⟩ := bcell hb_w5; have hz_w5_w_0 : w.heap.size < w5.heap.size := (by have hzz := hb_w5.size; (try simp only [World.size_alloc, World.size_setCell, World.size_drew, World.heap_drewN] at hzz); omega); have hz_w5_w_1 : w.heap.size + 1 < w5.heap.size := (by have hzz := hb_w5.size; (try simp only [World.size_alloc, World.size_setCell, World.size_drew, World.heap_drewN] at hzz); omega); have hz_w5_w4_0 : w4.heap.size < w5.heap.size := (by have hzz := hb_w5.size; (try simp only [World.size_alloc, World.size_setCell, World.size_drew, World.heap_drewN] at hzz); omega); have hs_w5 := hb_w5.size; (try simp only [World.size_alloc, World.size_setCell, World.size_drew, World.heap_drewN] at hs_w5)
  obtain ⟨g5, rfl, _, hg5, hcg⟩ := ho5.at_ (by decide)
  have f5 : w5.cell? ⟨g5, 0, none⟩ = some (.int .u64 4) := (hcg 0 (by decide)).1
  clear hcg
  go_wp2
  go_ret
  exact ⟨rfl, (by repeat (first | exact Below.refl _ _ | assumption | (refine below_drewN ?_ _) | (refine Below.drew ?_) | (refine Below.alloc ?_ (by first | omega | (simp; omega) | simp) _) | (refine Below.setCell ?_ (by first | omega | (simp; omega) | simp) _) | (refine below_trans ?_ (by assumption) (by first | omega | (simp; omega) | simp))))⟩
end Go.Proofs.Ytbhblffomlhopaa
