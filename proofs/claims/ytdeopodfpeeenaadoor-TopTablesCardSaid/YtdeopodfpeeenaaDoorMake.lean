/- Contracts: new bits, copies of bits. -/
import Derived.Test.YtdeopodfpeeenaaDoorOwn
import Derived.Deep.RegionLaw
namespace Go.Proofs.YtdeopodfpeeenaaDoor
open Go.RowKit
set_option linter.unusedVariables false
set_option linter.unusedSimpArgs false

def wordsN (n : Int) : List Nat := List.replicate ((n + 63) / 64).toNat 0
theorem wordsN_words (n : Int) : Words (wordsN n) := fun x hx => by
  rw [List.eq_of_mem_replicate hx]; decide

theorem make_ok (n : Int) (w : World) (h0 : 0 ≤ n) (h1 : n ≤ 4096) : Calls Tryd.prog 12 #[.int .i64 n] w fun e w' => Fresh w n (wordsN n) 0 e w' := by
  have hd : decide (n < 0) = false := by simpa using h0
  obtain ⟨k, hk⟩ := Int.eq_ofNat_of_zero_le (show 0 ≤ (n + 63) / 64 by omega)
  have hk2 : k ≤ 64 := by omega
  have H := Lib.hid hk
  clear hk
  have hmk := run_make_words k (by omega)
  go_enter Tryd.func12, Tryd.ntmps12
  go_wp2_with (go_at_call 25; refine (wordsFor_any _ _ (by omega) (by omega)).mono ?_; rintro e w1 ⟨rfl, rfl⟩; rw [H.out])
  have hw : wordsN n = List.replicate k 0 := by unfold wordsN; rw [H.out]; simp
  rw [hw]
  refine bodyPost_ret (res_bits rfl rfl (g := w.heap.size) (by simp [go_sem] <;> rfl) (by simp [go_sem] <;> rfl)) rfl ⟨some ⟨w.heap.size + 1, 0, none⟩, k, by rw [List.length_replicate]; rfl, ?_, (by repeat (first | exact Below.refl _ _ | assumption | (refine below_drewN ?_ _) | (refine Below.drew ?_) | (refine Below.alloc ?_ (by first | omega | (simp; omega) | simp) _) | (refine Below.setCell ?_ (by first | omega | (simp; omega) | simp) _) | (refine below_trans ?_ (by assumption) (by first | omega | (simp; omega) | simp))))⟩
  exact Own.of_block (block2 _ _ _) (by omega) (by rw [← hw]; exact wordsN_words n)
theorem make_bad (n : Int) (w : World) (h : ¬ (0 ≤ n ∧ n ≤ 4096)) : Calls Tryd.prog 12 #[.int .i64 n] w fun e w' => Fresh w 0 [] 1 e w' := by
  by_cases h0 : n < 0
  · have hd : decide (n < 0) = true := by simpa using h0
    go_enter Tryd.func12, Tryd.ntmps12
    go_wp2_with fail
    exact bodyPost_ret (res_bits rfl rfl (g := w.heap.size) (by simp [go_sem] <;> rfl) (by simp [go_sem] <;> rfl)) rfl ⟨none, 0, rfl, Own.nil _ _, (by repeat (first | exact Below.refl _ _ | assumption | (refine below_drewN ?_ _) | (refine Below.drew ?_) | (refine Below.alloc ?_ (by first | omega | (simp; omega) | simp) _) | (refine Below.setCell ?_ (by first | omega | (simp; omega) | simp) _) | (refine below_trans ?_ (by assumption) (by first | omega | (simp; omega) | simp))))⟩
  · have hd : decide (n < 0) = false := by simpa using h0
    have hd2 : decide (4096 < n) = true := by simp; omega
    go_enter Tryd.func12, Tryd.ntmps12
    go_wp2_with fail
    exact bodyPost_ret (res_bits rfl rfl (g := w.heap.size) (by simp [go_sem] <;> rfl) (by simp [go_sem] <;> rfl)) rfl ⟨none, 0, rfl, Own.nil _ _, (by repeat (first | exact Below.refl _ _ | assumption | (refine below_drewN ?_ _) | (refine Below.drew ?_) | (refine Below.alloc ?_ (by first | omega | (simp; omega) | simp) _) | (refine Below.setCell ?_ (by first | omega | (simp; omega) | simp) _) | (refine below_trans ?_ (by assumption) (by first | omega | (simp; omega) | simp))))⟩
theorem twin_bad {n : Int} {A : Option Addr} {ws : List Nat} {w : World} (cap : Nat) (hr : Row w w.heap.size A ws) (h : ¬ Right n ws) :
    Calls Tryd.prog 39 #[.agg #[.int .i64 n, .slice A ws.length cap]] w fun e w' => Fresh w 0 [] 2 e w' := by
  have hR := Lib.hid h
  clear h
  go_enter Tryd.func39, Tryd.ntmps39
  go_wp2_with (go_at_call 27; refine (view_bad _ (hr.later (by repeat (first | exact Below.refl _ _ | assumption | (refine below_drewN ?_ _) | (refine Below.drew ?_) | (refine Below.alloc ?_ (by first | omega | (simp; omega) | simp) _) | (refine Below.setCell ?_ (by first | omega | (simp; omega) | simp) _) | (refine below_trans ?_ (by assumption) (by first | omega | (simp; omega) | simp))))) hR.out).mono ?_; rintro e w1 ⟨rfl, hb_w1⟩; obtain ⟨hc_w1, hf_w1⟩ := bcell hb_w1; have hz_w1_w_0 : w.heap.size < w1.heap.size := (by have hzz := hb_w1.size; (try simp only [World.size_alloc, World.size_setCell, World.size_drew, World.heap_drewN] at hzz); omega); have hz_w1_w_1 : w.heap.size + 1 < w1.heap.size := (by have hzz := hb_w1.size; (try simp only [World.size_alloc, World.size_setCell, World.size_drew, World.heap_drewN] at hzz); omega))
  have k0 : w1.cell? ⟨w.heap.size + 1, 0, none⟩ = _ := (hc_w1 _ _ (by simp)).trans (by simp [go_sem]; rfl)
  have k1 : w1.cell? ⟨w.heap.size + 1, 1, none⟩ = _ := (hc_w1 _ _ (by simp)).trans (by simp [go_sem]; rfl)
  exact bodyPost_ret (res_vec rfl rfl ((World.cell?_alloc_lt _ _ ⟨_, _, _⟩ (by simp; omega)).trans (set_two _ _ k0 k1).1) ((World.cell?_alloc_lt _ _ ⟨_, _, _⟩ (by simp; omega)).trans (set_two _ _ k0 k1).2)) rfl ⟨none, 0, rfl, Own.nil _ _, (by repeat (first | exact Below.refl _ _ | assumption | (refine below_drewN ?_ _) | (refine Below.drew ?_) | (refine Below.alloc ?_ (by first | omega | (simp; omega) | simp) _) | (refine Below.setCell ?_ (by first | omega | (simp; omega) | simp) _) | (refine below_trans ?_ (by assumption) (by first | omega | (simp; omega) | simp))))⟩
theorem twin_ok {n : Int} {A : Option Addr} {ws : List Nat} {w : World} (cap : Nat) (hr : Row w w.heap.size A ws) (h : Right n ws) :
    Calls Tryd.prog 39 #[.agg #[.int .i64 n, .slice A ws.length cap]] w fun e w' => Fresh w n ws 0 e w' := by
  have hl : ws.length ≤ 64 := by have := h.2.2.1; have := h.2.1; omega
  have hR := Lib.hid h
  clear h
  have hmk := run_make_words ws.length (by omega)
  go_enter Tryd.func39, Tryd.ntmps39
  go_wp2_with (first
    | (go_at_call 27; refine (view_ok _ (hr.later (by repeat (first | exact Below.refl _ _ | assumption | (refine below_drewN ?_ _) | (refine Below.drew ?_) | (refine Below.alloc ?_ (by first | omega | (simp; omega) | simp) _) | (refine Below.setCell ?_ (by first | omega | (simp; omega) | simp) _) | (refine below_trans ?_ (by assumption) (by first | omega | (simp; omega) | simp))))) hR.out).mono ?_; rintro e w1 ⟨rfl, hb_w1⟩; obtain ⟨hc_w1, hf_w1⟩ := bcell hb_w1; have hz_w1_w_0 : w.heap.size < w1.heap.size := (by have hzz := hb_w1.size; (try simp only [World.size_alloc, World.size_setCell, World.size_drew, World.heap_drewN] at hzz); omega); have hz_w1_w_1 : w.heap.size + 1 < w1.heap.size := (by have hzz := hb_w1.size; (try simp only [World.size_alloc, World.size_setCell, World.size_drew, World.heap_drewN] at hzz); omega))
    | (with_reducible refine wpList_copy_splice (o := ⟨some 26, _, _, _, _, _⟩) rfl (.tmp 23) (.tmp 25) 22 22 rfl 27 Tryd.underlying22 (by kernel_rfl) (some ⟨w1.heap.size + 1, 0, none⟩) A ws.length ws.length ws.length cap rfl rfl (w1.heap.size + 1) 0 (vals (List.replicate ws.length 0)) 27 ?c1 (vals ws) ?c2 ?c3 ?c4 (vals_one ws) (w1.heap.size + 1) (w1.alloc (.cells #[.int .i64 n, .slice (some ⟨w1.heap.size + 1, 0, none⟩) ws.length ws.length] 68)) ?c5 ?c6 ?_))
  case c1 => exact block2 _ _ _
  case c2 => rw [length_vals]; exact (Nat.min_self _).symm
  case c3 =>
    intro hp
    obtain ⟨ad, e, hc⟩ := (hr.later (w' := ((w1.alloc (.cells #[.int .i64 n, .slice (some ⟨w1.heap.size + 1, 0, none⟩) ws.length ws.length] 68)).alloc (.cells (vals (List.replicate ws.length 0)).toArray 27))) (by repeat (first | exact Below.refl _ _ | assumption | (refine below_drewN ?_ _) | (refine Below.drew ?_) | (refine Below.alloc ?_ (by first | omega | (simp; omega) | simp) _) | (refine Below.setCell ?_ (by first | omega | (simp; omega) | simp) _) | (refine below_trans ?_ (by assumption) (by first | omega | (simp; omega) | simp))))).src hp
    first | exact ⟨rfl, ad, e, hc⟩ | exact ⟨ad, e, hc⟩
  case c4 => rw [length_vals, length_vals, List.length_replicate]; omega
  case c5 => exact (Below.refl _ _).alloc (by simp) _
  case c6 => exact Nat.le_refl _
  intro w2 HG2 hb_w2
  obtain ⟨hc_w2, hf_w2⟩ := bcell hb_w2; have hz_w2_w_0 : w.heap.size < w2.heap.size := (by have hzz := hb_w2.size; (try simp only [World.size_alloc, World.size_setCell, World.size_drew, World.heap_drewN] at hzz); omega); have hz_w2_w_1 : w.heap.size + 1 < w2.heap.size := (by have hzz := hb_w2.size; (try simp only [World.size_alloc, World.size_setCell, World.size_drew, World.heap_drewN] at hzz); omega); have hz_w2_w1_0 : w1.heap.size < w2.heap.size := (by have hzz := hb_w2.size; (try simp only [World.size_alloc, World.size_setCell, World.size_drew, World.heap_drewN] at hzz); omega)
  go_wp2
  have k0 : w2.cell? ⟨w.heap.size + 1, 0, none⟩ = _ := (hc_w2 _ _ (by first | omega | (simp; omega) | simp)).trans ((World.cell?_alloc_lt _ _ ⟨_, _, _⟩ (by first | omega | (simp; omega) | simp)).trans ((hc_w1 _ _ (by first | omega | (simp; omega) | simp)).trans (by simp [go_sem]; rfl)))
  have k1 : w2.cell? ⟨w.heap.size + 1, 1, none⟩ = _ := (hc_w2 _ _ (by first | omega | (simp; omega) | simp)).trans ((World.cell?_alloc_lt _ _ ⟨_, _, _⟩ (by first | omega | (simp; omega) | simp)).trans ((hc_w1 _ _ (by first | omega | (simp; omega) | simp)).trans (by simp [go_sem]; rfl)))
  have hG := HG2.out
  rw [splice_all _ _ (by simp [vals])] at hG
  have ho := Own.of_block hG (Nat.le_refl _) hr.words
  exact bodyPost_ret (res_vec rfl rfl (set_two _ _ k0 k1).1 (set_two _ _ k0 k1).2) rfl ⟨_, ws.length, rfl, ((ho.far (.inl (by first | omega | (simp; omega) | simp)) _).far (.inl (by first | omega | (simp; omega) | simp)) _).mono (by first | omega | (simp; omega) | simp), (by repeat (first | exact Below.refl _ _ | assumption | (refine below_drewN ?_ _) | (refine Below.drew ?_) | (refine Below.alloc ?_ (by first | omega | (simp; omega) | simp) _) | (refine Below.setCell ?_ (by first | omega | (simp; omega) | simp) _) | (refine below_trans ?_ (by assumption) (by first | omega | (simp; omega) | simp))))⟩
end Go.Proofs.YtdeopodfpeeenaaDoor
