/- The walk of the law ArenaLoads: the document's Load, Sum, Make; words. -/
import Derived.Test.YtofkdpgnngbkfaaC2
namespace Go.Proofs.Ytofkdpgnngbkfaa
open Go.RowKit
set_option linter.unusedVariables false
set_option linter.unusedSimpArgs false

section
variable {A B : Option Addr} {ws ps : List Nat} {w : World} (cap cap' : Nat)
theorem raload_any (i : Nat) (hr : Row w w.heap.size A ws) (h1 : i < W64) :
    Calls Try.prog 6 #[.agg #[.slice A ws.length cap], .int .u64 (i : Nat)] w fun e w' => e = .returned (.tuple #[.int .u64 (gotA ws i : Nat), .int .i64 (errA ws (i + 1 ≤ ws.length))]) ∧ Below w.heap.size w w' := by
  unfold gotA errA
  by_cases hb : ws.length ≤ 16384
  · rw [if_pos hb, if_pos hb]
    by_cases ht : i + 1 ≤ ws.length
    · rw [if_pos ht, if_pos ht]
      obtain ⟨b, off, rfl, hb', hc⟩ := hr.at_ (by omega)
      obtain ⟨x, hx⟩ := named ws i
      have hck := hc i (by omega)
      rw [hx.out] at hck
      rw [hx.out]
      clear hc
      have HT := Lib.hid ht
      have hi : i < ws.length := by omega
      clear ht
      go_enter Try.func6, Try.ntmps6
      go_wp2_with fail
      go_at_call 14
      refine (racheck_ok _ _ hb).mono ?_
      rintro e w1 ⟨rfl, hb_w1⟩
      obtain ⟨hc_w1, hf_w1⟩ := bcell hb_w1; have hz_w1_w_0 : w.heap.size < w1.heap.size := (by have hzz := hb_w1.size; (try simp only [World.size_alloc, World.size_setCell, World.size_drew, World.heap_drewN] at hzz); omega); have hs_w1 := hb_w1.size; (try simp only [World.size_alloc, World.size_setCell, World.size_drew, World.heap_drewN] at hs_w1)
      have hck1 : w1.cell? ⟨b, off + i, none⟩ = some (.int .u64 (x : Nat)) := (hc_w1 _ _ (by first | omega | (simp; omega) | simp)).trans ((World.cell?_alloc_lt _ _ ⟨_, _, _⟩ (by first | omega | (simp; omega) | simp)).trans hck)
      go_wp2_with fail
      go_at_call 22
      refine (athere_any _ ws.length i 1 true (by omega) h1 (by decide) (.inl ⟨rfl, HT.out⟩)).mono ?_
      rintro e w2 ⟨rfl, hb_w2⟩
      obtain ⟨hc_w2, hf_w2⟩ := bcell hb_w2; have hz_w2_w_0 : w.heap.size < w2.heap.size := (by have hzz := hb_w2.size; (try simp only [World.size_alloc, World.size_setCell, World.size_drew, World.heap_drewN] at hzz); omega); have hs_w2 := hb_w2.size; (try simp only [World.size_alloc, World.size_setCell, World.size_drew, World.heap_drewN] at hs_w2)
      have hck2 : w2.cell? ⟨b, off + i, none⟩ = some (.int .u64 (x : Nat)) := (hc_w2 _ _ (by first | omega | (simp; omega) | simp)).trans hck1
      go_wp2_with fail
      go_ret2
      exact ⟨rfl, (by repeat (first | exact Below.refl _ _ | assumption | (refine below_drewN ?_ _) | (refine Below.drew ?_) | (refine Below.alloc ?_ (by first | omega | (simp; omega) | simp) _) | (refine Below.setCell ?_ (by first | omega | (simp; omega) | simp) _) | (refine below_trans ?_ (by assumption) (by first | omega | (simp; omega) | simp))))⟩
    · rw [if_neg ht, if_neg ht]
      have HT := Lib.hid ht
      clear ht
      go_enter Try.func6, Try.ntmps6
      go_wp2_with fail
      go_at_call 14
      refine (racheck_ok _ _ hb).mono ?_
      rintro e w1 ⟨rfl, hb_w1⟩
      obtain ⟨hc_w1, hf_w1⟩ := bcell hb_w1; have hz_w1_w_0 : w.heap.size < w1.heap.size := (by have hzz := hb_w1.size; (try simp only [World.size_alloc, World.size_setCell, World.size_drew, World.heap_drewN] at hzz); omega); have hs_w1 := hb_w1.size; (try simp only [World.size_alloc, World.size_setCell, World.size_drew, World.heap_drewN] at hs_w1)
      go_wp2_with fail
      go_at_call 22
      refine (athere_any _ ws.length i 1 false (by omega) h1 (by decide) (.inr ⟨rfl, HT.out⟩)).mono ?_
      rintro e w2 ⟨rfl, hb_w2⟩
      obtain ⟨hc_w2, hf_w2⟩ := bcell hb_w2; have hz_w2_w_0 : w.heap.size < w2.heap.size := (by have hzz := hb_w2.size; (try simp only [World.size_alloc, World.size_setCell, World.size_drew, World.heap_drewN] at hzz); omega); have hs_w2 := hb_w2.size; (try simp only [World.size_alloc, World.size_setCell, World.size_drew, World.heap_drewN] at hs_w2)
      go_wp2_with fail
      go_ret2
      exact ⟨rfl, (by repeat (first | exact Below.refl _ _ | assumption | (refine below_drewN ?_ _) | (refine Below.drew ?_) | (refine Below.alloc ?_ (by first | omega | (simp; omega) | simp) _) | (refine Below.setCell ?_ (by first | omega | (simp; omega) | simp) _) | (refine below_trans ?_ (by assumption) (by first | omega | (simp; omega) | simp))))⟩
  · rw [if_neg hb, if_neg hb]
    have HR := Lib.hid hb
    clear hb
    go_enter Try.func6, Try.ntmps6
    go_wp2_with fail
    go_at_call 14
    refine (racheck_bad _ _ HR.out).mono ?_
    rintro e w1 ⟨rfl, hb_w1⟩
    obtain ⟨hc_w1, hf_w1⟩ := bcell hb_w1; have hz_w1_w_0 : w.heap.size < w1.heap.size := (by have hzz := hb_w1.size; (try simp only [World.size_alloc, World.size_setCell, World.size_drew, World.heap_drewN] at hzz); omega); have hs_w1 := hb_w1.size; (try simp only [World.size_alloc, World.size_setCell, World.size_drew, World.heap_drewN] at hs_w1)
    go_wp2_with fail
    go_ret2
    exact ⟨rfl, (by repeat (first | exact Below.refl _ _ | assumption | (refine below_drewN ?_ _) | (refine Below.drew ?_) | (refine Below.alloc ?_ (by first | omega | (simp; omega) | simp) _) | (refine Below.setCell ?_ (by first | omega | (simp; omega) | simp) _) | (refine below_trans ?_ (by assumption) (by first | omega | (simp; omega) | simp))))⟩
theorem ramake_ok (n : Int) (w : World) (h0 : 0 ≤ n) (h1 : n ≤ 16384) : Calls Try.prog 10 #[.int .i64 n] w fun e w' => FreshA w (List.replicate n.toNat 0) 0 e w' := by
  obtain ⟨k, rfl⟩ := Int.eq_ofNat_of_zero_le h0
  have hmk := run_make_words k (by omega)
  go_enter Try.func10, Try.ntmps10
  go_wp2
  rw [Int.toNat_natCast]
  refine bodyPost_ret (res_arena rfl rfl (g := w.heap.size) (by simp [go_sem] <;> rfl)) rfl ⟨some ⟨w.heap.size + 1, 0, none⟩, k, by rw [List.length_replicate]; rfl, ⟨?_, by rw [List.length_replicate]; exact Nat.le_refl _⟩, (by repeat (first | exact Below.refl _ _ | assumption | (refine below_drewN ?_ _) | (refine Below.drew ?_) | (refine Below.alloc ?_ (by first | omega | (simp; omega) | simp) _) | (refine Below.setCell ?_ (by first | omega | (simp; omega) | simp) _) | (refine below_trans ?_ (by assumption) (by first | omega | (simp; omega) | simp))))⟩
  exact Own.of_block (block2 _ _ _) (by omega) (words_zeros k)
theorem ramake_bad (n : Int) (w : World) (h : ¬ (0 ≤ n ∧ n ≤ 16384)) : Calls Try.prog 10 #[.int .i64 n] w fun e w' => FreshA w [] 1 e w' := by
  by_cases h0 : n < 0
  · have hd : decide (n < 0) = true := by simpa using h0
    go_enter Try.func10, Try.ntmps10
    go_wp2_with fail
    exact bodyPost_ret (res_arena rfl rfl (g := w.heap.size) (by simp [go_sem] <;> rfl)) rfl ⟨none, 0, rfl, ⟨Own.nil _ _, Nat.le_refl _⟩, (by repeat (first | exact Below.refl _ _ | assumption | (refine below_drewN ?_ _) | (refine Below.drew ?_) | (refine Below.alloc ?_ (by first | omega | (simp; omega) | simp) _) | (refine Below.setCell ?_ (by first | omega | (simp; omega) | simp) _) | (refine below_trans ?_ (by assumption) (by first | omega | (simp; omega) | simp))))⟩
  · have hd : decide (n < 0) = false := by simpa using h0
    have hd2 : decide (16384 < n) = true := by simp; omega
    go_enter Try.func10, Try.ntmps10
    go_wp2_with fail
    exact bodyPost_ret (res_arena rfl rfl (g := w.heap.size) (by simp [go_sem] <;> rfl)) rfl ⟨none, 0, rfl, ⟨Own.nil _ _, Nat.le_refl _⟩, (by repeat (first | exact Below.refl _ _ | assumption | (refine below_drewN ?_ _) | (refine Below.drew ?_) | (refine Below.alloc ?_ (by first | omega | (simp; omega) | simp) _) | (refine Below.setCell ?_ (by first | omega | (simp; omega) | simp) _) | (refine below_trans ?_ (by assumption) (by first | omega | (simp; omega) | simp))))⟩
end
end Go.Proofs.Ytofkdpgnngbkfaa
