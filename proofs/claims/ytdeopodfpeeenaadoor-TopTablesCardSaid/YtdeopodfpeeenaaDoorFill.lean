/- Contracts: some bits are filled. -/
import Derived.Test.YtdeopodfpeeenaaDoorCopy
namespace Go.Proofs.YtdeopodfpeeenaaDoor
open Go.RowKit
set_option linter.unusedVariables false
set_option linter.unusedSimpArgs false

theorem Own.two {w : World} {B g : Nat} {A : Option Addr} {ws : List Nat} {u v : Value} (h : Own w B A ws) (hg : g < B) : Own ((w.setCell ⟨g, 0, none⟩ u).setCell ⟨g, 1, none⟩ v) B A ws :=
  (h.far (p := ⟨g, 0, none⟩) (.inl hg) u).far (p := ⟨g, 1, none⟩) (.inl hg) v
theorem Own.drewN {w : World} {B : Nat} {A : Option Addr} {ws : List Nat} (h : Own w B A ws) (n : Nat) : Own (w.drewN n) B A ws := h.later (below_drewN (Below.refl _ _) n)

section
variable {N : Int} {A : Option Addr} {ws : List Nat} {w : World} (cap : Nat) (a c : Int) (v : Bool)
theorem fill_bad (hr : Row w w.heap.size A ws) (h : ¬ Right N ws) :
    Calls Tryd.prog 26 #[.agg #[.int .i64 N, .slice A ws.length cap], .int .i64 a, .int .i64 c, .bool v] w fun e w' => Fresh w 0 [] 2 e w' := by
  have hR := Lib.hid h
  clear h
  go_enter Tryd.func26, Tryd.ntmps26
  go_wp2_with (go_at_call 39; refine (twin_bad _ (hr.later (by repeat (first | exact Below.refl _ _ | assumption | (refine below_drewN ?_ _) | (refine Below.drew ?_) | (refine Below.alloc ?_ (by first | omega | (simp; omega) | simp) _) | (refine Below.setCell ?_ (by first | omega | (simp; omega) | simp) _) | (refine below_trans ?_ (by assumption) (by first | omega | (simp; omega) | simp))))) hR.out).mono ?_; rintro e w1 ⟨A1, cap1, rfl, ho1, hb_w1⟩; obtain ⟨hc_w1, hf_w1⟩ := bcell hb_w1; have hz_w1_w_0 : w.heap.size < w1.heap.size := (by have hzz := hb_w1.size; (try simp only [World.size_alloc, World.size_setCell, World.size_drew, World.heap_drewN] at hzz); omega); have hz_w1_w_1 : w.heap.size + 1 < w1.heap.size := (by have hzz := hb_w1.size; (try simp only [World.size_alloc, World.size_setCell, World.size_drew, World.heap_drewN] at hzz); omega))
  have k0 : w1.cell? ⟨w.heap.size + 1, 0, none⟩ = _ := (hc_w1 _ _ (by first | omega | (simp; omega) | simp)).trans (by simp [go_sem]; rfl)
  have k1 : w1.cell? ⟨w.heap.size + 1, 1, none⟩ = _ := (hc_w1 _ _ (by first | omega | (simp; omega) | simp)).trans (by simp [go_sem]; rfl)
  exact bodyPost_ret (res_bits rfl rfl ((World.cell?_alloc_lt _ _ ⟨_, _, _⟩ (by first | omega | (simp; omega) | simp)).trans (set_two _ _ k0 k1).1) ((World.cell?_alloc_lt _ _ ⟨_, _, _⟩ (by first | omega | (simp; omega) | simp)).trans (set_two _ _ k0 k1).2)) rfl ⟨none, 0, rfl, Own.nil _ _, (by repeat (first | exact Below.refl _ _ | assumption | (refine below_drewN ?_ _) | (refine Below.drew ?_) | (refine Below.alloc ?_ (by first | omega | (simp; omega) | simp) _) | (refine Below.setCell ?_ (by first | omega | (simp; omega) | simp) _) | (refine below_trans ?_ (by assumption) (by first | omega | (simp; omega) | simp))))⟩

theorem fill_out (hr : Row w w.heap.size A ws) (h : Right N ws) (h63 : a ≤ 9223372036854775807) (hi : ¬ (0 ≤ a ∧ 0 ≤ c ∧ c ≤ N - a)) :
    Calls Tryd.prog 26 #[.agg #[.int .i64 N, .slice A ws.length cap], .int .i64 a, .int .i64 c, .bool v] w fun e w' => Fresh w N ws 1 e w' := by
  have hn := h.1
  have hn2 := h.2.1
  have hR := Lib.hid h
  clear h
  by_cases h0 : a < 0
  · have hd : decide (a < 0) = true := by simpa using h0
    clear hi
    go_enter Tryd.func26, Tryd.ntmps26
    go_wp2_with (go_at_call 39; refine (twin_ok _ (hr.later (by repeat (first | exact Below.refl _ _ | assumption | (refine below_drewN ?_ _) | (refine Below.drew ?_) | (refine Below.alloc ?_ (by first | omega | (simp; omega) | simp) _) | (refine Below.setCell ?_ (by first | omega | (simp; omega) | simp) _) | (refine below_trans ?_ (by assumption) (by first | omega | (simp; omega) | simp))))) hR.out).mono ?_; rintro e w1 ⟨A1, cap1, rfl, ho1, hb_w1⟩; obtain ⟨hc_w1, hf_w1⟩ := bcell hb_w1; have hz_w1_w_0 : w.heap.size < w1.heap.size := (by have hzz := hb_w1.size; (try simp only [World.size_alloc, World.size_setCell, World.size_drew, World.heap_drewN] at hzz); omega); have hz_w1_w_1 : w.heap.size + 1 < w1.heap.size := (by have hzz := hb_w1.size; (try simp only [World.size_alloc, World.size_setCell, World.size_drew, World.heap_drewN] at hzz); omega))
    have k0 : w1.cell? ⟨w.heap.size + 1, 0, none⟩ = _ := (hc_w1 _ _ (by first | omega | (simp; omega) | simp)).trans (by simp [go_sem]; rfl)
    have k1 : w1.cell? ⟨w.heap.size + 1, 1, none⟩ = _ := (hc_w1 _ _ (by first | omega | (simp; omega) | simp)).trans (by simp [go_sem]; rfl)
    exact bodyPost_ret (res_bits rfl rfl ((World.cell?_alloc_lt _ _ ⟨_, _, _⟩ (by first | omega | (simp; omega) | simp)).trans (set_two _ _ k0 k1).1) ((World.cell?_alloc_lt _ _ ⟨_, _, _⟩ (by first | omega | (simp; omega) | simp)).trans (set_two _ _ k0 k1).2)) rfl ⟨_, cap1, rfl, ((ho1.two (g := w.heap.size + 1) (by first | omega | (simp; omega) | simp)).later (by repeat (first | exact Below.refl _ _ | assumption | (refine below_drewN ?_ _) | (refine Below.drew ?_) | (refine Below.alloc ?_ (by first | omega | (simp; omega) | simp) _) | (refine Below.setCell ?_ (by first | omega | (simp; omega) | simp) _) | (refine below_trans ?_ (by assumption) (by first | omega | (simp; omega) | simp))))).mono (by first | omega | (simp; omega) | simp), (by repeat (first | exact Below.refl _ _ | assumption | (refine below_drewN ?_ _) | (refine Below.drew ?_) | (refine Below.alloc ?_ (by first | omega | (simp; omega) | simp) _) | (refine Below.setCell ?_ (by first | omega | (simp; omega) | simp) _) | (refine below_trans ?_ (by assumption) (by first | omega | (simp; omega) | simp))))⟩
  · have hd : decide (a < 0) = false := by simpa using h0
    by_cases h1 : c < 0
    · have hd1 : decide (c < 0) = true := by simpa using h1
      clear hi
      go_enter Tryd.func26, Tryd.ntmps26
      go_wp2_with (go_at_call 39; refine (twin_ok _ (hr.later (by repeat (first | exact Below.refl _ _ | assumption | (refine below_drewN ?_ _) | (refine Below.drew ?_) | (refine Below.alloc ?_ (by first | omega | (simp; omega) | simp) _) | (refine Below.setCell ?_ (by first | omega | (simp; omega) | simp) _) | (refine below_trans ?_ (by assumption) (by first | omega | (simp; omega) | simp))))) hR.out).mono ?_; rintro e w1 ⟨A1, cap1, rfl, ho1, hb_w1⟩; obtain ⟨hc_w1, hf_w1⟩ := bcell hb_w1; have hz_w1_w_0 : w.heap.size < w1.heap.size := (by have hzz := hb_w1.size; (try simp only [World.size_alloc, World.size_setCell, World.size_drew, World.heap_drewN] at hzz); omega); have hz_w1_w_1 : w.heap.size + 1 < w1.heap.size := (by have hzz := hb_w1.size; (try simp only [World.size_alloc, World.size_setCell, World.size_drew, World.heap_drewN] at hzz); omega))
      have k0 : w1.cell? ⟨w.heap.size + 1, 0, none⟩ = _ := (hc_w1 _ _ (by first | omega | (simp; omega) | simp)).trans (by simp [go_sem]; rfl)
      have k1 : w1.cell? ⟨w.heap.size + 1, 1, none⟩ = _ := (hc_w1 _ _ (by first | omega | (simp; omega) | simp)).trans (by simp [go_sem]; rfl)
      exact bodyPost_ret (res_bits rfl rfl ((World.cell?_alloc_lt _ _ ⟨_, _, _⟩ (by first | omega | (simp; omega) | simp)).trans (set_two _ _ k0 k1).1) ((World.cell?_alloc_lt _ _ ⟨_, _, _⟩ (by first | omega | (simp; omega) | simp)).trans (set_two _ _ k0 k1).2)) rfl ⟨_, cap1, rfl, ((ho1.two (g := w.heap.size + 1) (by first | omega | (simp; omega) | simp)).later (by repeat (first | exact Below.refl _ _ | assumption | (refine below_drewN ?_ _) | (refine Below.drew ?_) | (refine Below.alloc ?_ (by first | omega | (simp; omega) | simp) _) | (refine Below.setCell ?_ (by first | omega | (simp; omega) | simp) _) | (refine below_trans ?_ (by assumption) (by first | omega | (simp; omega) | simp))))).mono (by first | omega | (simp; omega) | simp), (by repeat (first | exact Below.refl _ _ | assumption | (refine below_drewN ?_ _) | (refine Below.drew ?_) | (refine Below.alloc ?_ (by first | omega | (simp; omega) | simp) _) | (refine Below.setCell ?_ (by first | omega | (simp; omega) | simp) _) | (refine below_trans ?_ (by assumption) (by first | omega | (simp; omega) | simp))))⟩
    · have hd1 : decide (c < 0) = false := by simpa using h1
      have hd2 : decide (N - a < c) = true := by simp; omega
      clear hi
      go_enter Tryd.func26, Tryd.ntmps26
      go_wp2_with (go_at_call 39; refine (twin_ok _ (hr.later (by repeat (first | exact Below.refl _ _ | assumption | (refine below_drewN ?_ _) | (refine Below.drew ?_) | (refine Below.alloc ?_ (by first | omega | (simp; omega) | simp) _) | (refine Below.setCell ?_ (by first | omega | (simp; omega) | simp) _) | (refine below_trans ?_ (by assumption) (by first | omega | (simp; omega) | simp))))) hR.out).mono ?_; rintro e w1 ⟨A1, cap1, rfl, ho1, hb_w1⟩; obtain ⟨hc_w1, hf_w1⟩ := bcell hb_w1; have hz_w1_w_0 : w.heap.size < w1.heap.size := (by have hzz := hb_w1.size; (try simp only [World.size_alloc, World.size_setCell, World.size_drew, World.heap_drewN] at hzz); omega); have hz_w1_w_1 : w.heap.size + 1 < w1.heap.size := (by have hzz := hb_w1.size; (try simp only [World.size_alloc, World.size_setCell, World.size_drew, World.heap_drewN] at hzz); omega))
      have k0 : w1.cell? ⟨w.heap.size + 1, 0, none⟩ = _ := (hc_w1 _ _ (by first | omega | (simp; omega) | simp)).trans (by simp [go_sem]; rfl)
      have k1 : w1.cell? ⟨w.heap.size + 1, 1, none⟩ = _ := (hc_w1 _ _ (by first | omega | (simp; omega) | simp)).trans (by simp [go_sem]; rfl)
      exact bodyPost_ret (res_bits rfl rfl ((World.cell?_alloc_lt _ _ ⟨_, _, _⟩ (by first | omega | (simp; omega) | simp)).trans (set_two _ _ k0 k1).1) ((World.cell?_alloc_lt _ _ ⟨_, _, _⟩ (by first | omega | (simp; omega) | simp)).trans (set_two _ _ k0 k1).2)) rfl ⟨_, cap1, rfl, ((ho1.two (g := w.heap.size + 1) (by first | omega | (simp; omega) | simp)).later (by repeat (first | exact Below.refl _ _ | assumption | (refine below_drewN ?_ _) | (refine Below.drew ?_) | (refine Below.alloc ?_ (by first | omega | (simp; omega) | simp) _) | (refine Below.setCell ?_ (by first | omega | (simp; omega) | simp) _) | (refine below_trans ?_ (by assumption) (by first | omega | (simp; omega) | simp))))).mono (by first | omega | (simp; omega) | simp), (by repeat (first | exact Below.refl _ _ | assumption | (refine below_drewN ?_ _) | (refine Below.drew ?_) | (refine Below.alloc ?_ (by first | omega | (simp; omega) | simp) _) | (refine Below.setCell ?_ (by first | omega | (simp; omega) | simp) _) | (refine below_trans ?_ (by assumption) (by first | omega | (simp; omega) | simp))))⟩

set_option maxHeartbeats 400000 in
theorem fill_in (hr : Row w w.heap.size A ws) (h : Right N ws) (h0 : 0 ≤ a) (h1 : 0 ≤ c) (h2 : c ≤ N - a) :
    Calls Tryd.prog 26 #[.agg #[.int .i64 N, .slice A ws.length cap], .int .i64 a, .int .i64 c, .bool v] w fun e w' => Fresh w N (fillW ws a.toNat c.toNat v) 0 e w' := by
  have hn := h.1
  have hn2 := h.2.1
  have hl := h.long
  have hl2 : ws.length ≤ 64 := by have := h.2.2.1; omega
  have hR := Lib.hid h
  clear h
  have hd : decide (a < 0) = false := by simpa using h0
  have hd1 : decide (c < 0) = false := by simpa using h1
  have hd2 : decide (N - a < c) = false := by simpa using h2
  go_enter Tryd.func26, Tryd.ntmps26
  go_wp2_with (go_at_call 39; refine (twin_ok _ (hr.later (by repeat (first | exact Below.refl _ _ | assumption | (refine below_drewN ?_ _) | (refine Below.drew ?_) | (refine Below.alloc ?_ (by first | omega | (simp; omega) | simp) _) | (refine Below.setCell ?_ (by first | omega | (simp; omega) | simp) _) | (refine below_trans ?_ (by assumption) (by first | omega | (simp; omega) | simp))))) hR.out).mono ?_; rintro e w1 ⟨A1, cap1, rfl, ho1, hb_w1⟩; obtain ⟨hc_w1, hf_w1⟩ := bcell hb_w1; have hz_w1_w_0 : w.heap.size < w1.heap.size := (by have hzz := hb_w1.size; (try simp only [World.size_alloc, World.size_setCell, World.size_drew, World.heap_drewN] at hzz); omega); have hz_w1_w_1 : w.heap.size + 1 < w1.heap.size := (by have hzz := hb_w1.size; (try simp only [World.size_alloc, World.size_setCell, World.size_drew, World.heap_drewN] at hzz); omega))
  simp only [World.size_alloc] at ho1
  go_loopw [40] (fun i wr => ∃ k : Nat, i = .int .i64 k ∧ (k : Int) ≤ c ∧ Own wr (w.heap.size + 1 + 1) A1 (fillW ws a.toNat k v) ∧ wr.cell? ⟨w1.heap.size, 0, none⟩ = some (.int .i64 N) ∧ wr.cell? ⟨w1.heap.size, 1, none⟩ = some (.slice A1 ws.length cap1) ∧
      w1.heap.size < wr.heap.size ∧ Below (w.heap.size + 1 + 1) w1 wr) (fun i _ => c.toNat - (intOf i).toNat)
  case atStart => exact ⟨0, rfl, h1, ho1.later (by repeat (first | exact Below.refl _ _ | assumption | (refine below_drewN ?_ _) | (refine Below.drew ?_) | (refine Below.alloc ?_ (by first | omega | (simp; omega) | simp) _) | (refine Below.setCell ?_ (by first | omega | (simp; omega) | simp) _) | (refine below_trans ?_ (by assumption) (by first | omega | (simp; omega) | simp)))), by simp [go_sem], by simp [go_sem], by simp, (by repeat (first | exact Below.refl _ _ | assumption | (refine below_drewN ?_ _) | (refine Below.drew ?_) | (refine Below.alloc ?_ (by first | omega | (simp; omega) | simp) _) | (refine Below.setCell ?_ (by first | omega | (simp; omega) | simp) _) | (refine below_trans ?_ (by assumption) (by first | omega | (simp; omega) | simp))))⟩
  case round =>
    obtain ⟨k, rfl, hk, hO, hv0, hv1, hsz, hb_wr⟩ := hrel
    obtain ⟨hc_wr, hf_wr⟩ := bcell hb_wr
    by_cases hlt : (k : Int) < c
    · obtain ⟨g, rfl, hBg, hg, _⟩ := ho1.at_ (by omega)
      obtain ⟨x, hx⟩ := named (fillW ws a.toNat k v) ((a + k) / 64).toNat
      have hlk : (fillW ws a.toNat k v).length = ws.length := length_fillW _ _ _ _
      have hxl : x < W64 := by rw [← hx.out]; exact hO.words.at_ _
      obtain ⟨g', hA', _, _, hcg⟩ := hO.at_ (by omega)
      injection hA' with hA'
      injection hA' with hA'
      subst hA'
      obtain ⟨hcx, hfx⟩ := hcg ((a + k) / 64).toNat (by omega)
      rw [hx.out] at hcx
      have HL := Lib.hid hlk
      clear hcg hlk
      go_wp2_with (go_at_call 40; refine (set_any (a + k) v w1.heap.size g 0 ws.length cap1 x _ (by omega) (by omega) hl2 hxl hv1 (by rw [Nat.zero_add]; exact hcx) (by rw [Nat.zero_add]; exact hfx)).mono ?_; rintro e w2 ⟨rfl, n2, rfl⟩)
      go_roundw
      case rel =>
        have hP := ((hO.put (i := a + k) v rfl (by omega) (by have := HL.out; omega) hx.out).drewN n2)
        rw [show (a + (k : Int)).toNat = a.toNat + k by omega] at hP
        exact ⟨k + 1, by go_num, by omega, hP, (World.cell?_setCell_other _ _ _ _ (by intro e; injection e; omega)).trans hv0, (World.cell?_setCell_other _ _ _ _ (by intro e; injection e; omega)).trans hv1, by simpa using hsz, (by repeat (first | exact Below.refl _ _ | assumption | (refine below_drewN ?_ _) | (refine Below.drew ?_) | (refine Below.alloc ?_ (by first | omega | (simp; omega) | simp) _) | (refine Below.setCell ?_ (by first | omega | (simp; omega) | simp) _) | (refine below_trans ?_ (by assumption) (by first | omega | (simp; omega) | simp))))⟩
      case measure => simp [intOf]; omega
    · go_wp2
      have hkc : c.toNat = k := by omega
      rw [hkc]
      have k0 : wr.cell? ⟨w.heap.size + 1, 0, none⟩ = _ := (hc_wr _ _ (by first | omega | (simp; omega) | simp)).trans ((hc_w1 _ _ (by first | omega | (simp; omega) | simp)).trans (by simp [go_sem]; rfl))
      have k1 : wr.cell? ⟨w.heap.size + 1, 1, none⟩ = _ := (hc_wr _ _ (by first | omega | (simp; omega) | simp)).trans ((hc_w1 _ _ (by first | omega | (simp; omega) | simp)).trans (by simp [go_sem]; rfl))
      exact bodyPost_ret (res_bits rfl rfl (set_two _ _ k0 k1).1 (set_two _ _ k0 k1).2) rfl ⟨A1, cap1, by rw [length_fillW]; rfl, (hO.two (g := w.heap.size + 1) (by first | omega | (simp; omega) | simp)).mono (by first | omega | (simp; omega) | simp), (by repeat (first | exact Below.refl _ _ | assumption | (refine below_drewN ?_ _) | (refine Below.drew ?_) | (refine Below.alloc ?_ (by first | omega | (simp; omega) | simp) _) | (refine Below.setCell ?_ (by first | omega | (simp; omega) | simp) _) | (refine below_trans ?_ (by assumption) (by first | omega | (simp; omega) | simp))))⟩

theorem put_bad (i : Int) (hr : Row w w.heap.size A ws) (h : ¬ Right N ws) :
    Calls Tryd.prog 13 #[.agg #[.int .i64 N, .slice A ws.length cap], .int .i64 i, .bool v] w fun e w' => Fresh w 0 [] 2 e w' := by
  have hR := Lib.hid h
  clear h
  go_enter Tryd.func13, Tryd.ntmps13
  go_wp2_with (go_at_call 26; refine (fill_bad _ _ _ _ (hr.later (by repeat (first | exact Below.refl _ _ | assumption | (refine below_drewN ?_ _) | (refine Below.drew ?_) | (refine Below.alloc ?_ (by first | omega | (simp; omega) | simp) _) | (refine Below.setCell ?_ (by first | omega | (simp; omega) | simp) _) | (refine below_trans ?_ (by assumption) (by first | omega | (simp; omega) | simp))))) hR.out).mono ?_; rintro e w1 ⟨A1, cap1, rfl, ho1, hb_w1⟩; obtain ⟨hc_w1, hf_w1⟩ := bcell hb_w1; have hz_w1_w_0 : w.heap.size < w1.heap.size := (by have hzz := hb_w1.size; (try simp only [World.size_alloc, World.size_setCell, World.size_drew, World.heap_drewN] at hzz); omega); have hz_w1_w_1 : w.heap.size + 1 < w1.heap.size := (by have hzz := hb_w1.size; (try simp only [World.size_alloc, World.size_setCell, World.size_drew, World.heap_drewN] at hzz); omega))
  have k0 : w1.cell? ⟨w.heap.size + 1, 0, none⟩ = _ := (hc_w1 _ _ (by first | omega | (simp; omega) | simp)).trans (by simp [go_sem]; rfl)
  have k1 : w1.cell? ⟨w.heap.size + 1, 1, none⟩ = _ := (hc_w1 _ _ (by first | omega | (simp; omega) | simp)).trans (by simp [go_sem]; rfl)
  exact bodyPost_ret (res_bits rfl rfl (set_two _ _ k0 k1).1 (set_two _ _ k0 k1).2) rfl ⟨A1, cap1, rfl, (ho1.two (g := w.heap.size + 1) (by first | omega | (simp; omega) | simp)).mono (by first | omega | (simp; omega) | simp), (by repeat (first | exact Below.refl _ _ | assumption | (refine below_drewN ?_ _) | (refine Below.drew ?_) | (refine Below.alloc ?_ (by first | omega | (simp; omega) | simp) _) | (refine Below.setCell ?_ (by first | omega | (simp; omega) | simp) _) | (refine below_trans ?_ (by assumption) (by first | omega | (simp; omega) | simp))))⟩
theorem put_out (i : Int) (hr : Row w w.heap.size A ws) (h : Right N ws) (h63 : i ≤ 9223372036854775807) (hi : ¬ (0 ≤ i ∧ i < N)) :
    Calls Tryd.prog 13 #[.agg #[.int .i64 N, .slice A ws.length cap], .int .i64 i, .bool v] w fun e w' => Fresh w N ws 1 e w' := by
  have hR := Lib.hid h
  have hI : Hid (¬ (0 ≤ i ∧ (0 : Int) ≤ 1 ∧ 1 ≤ N - i)) := Lib.hid (by omega)
  clear h hi
  go_enter Tryd.func13, Tryd.ntmps13
  go_wp2_with (go_at_call 26; refine (fill_out _ _ _ _ (hr.later (by repeat (first | exact Below.refl _ _ | assumption | (refine below_drewN ?_ _) | (refine Below.drew ?_) | (refine Below.alloc ?_ (by first | omega | (simp; omega) | simp) _) | (refine Below.setCell ?_ (by first | omega | (simp; omega) | simp) _) | (refine below_trans ?_ (by assumption) (by first | omega | (simp; omega) | simp))))) hR.out h63 hI.out).mono ?_; rintro e w1 ⟨A1, cap1, rfl, ho1, hb_w1⟩; obtain ⟨hc_w1, hf_w1⟩ := bcell hb_w1; have hz_w1_w_0 : w.heap.size < w1.heap.size := (by have hzz := hb_w1.size; (try simp only [World.size_alloc, World.size_setCell, World.size_drew, World.heap_drewN] at hzz); omega); have hz_w1_w_1 : w.heap.size + 1 < w1.heap.size := (by have hzz := hb_w1.size; (try simp only [World.size_alloc, World.size_setCell, World.size_drew, World.heap_drewN] at hzz); omega))
  have k0 : w1.cell? ⟨w.heap.size + 1, 0, none⟩ = _ := (hc_w1 _ _ (by first | omega | (simp; omega) | simp)).trans (by simp [go_sem]; rfl)
  have k1 : w1.cell? ⟨w.heap.size + 1, 1, none⟩ = _ := (hc_w1 _ _ (by first | omega | (simp; omega) | simp)).trans (by simp [go_sem]; rfl)
  exact bodyPost_ret (res_bits rfl rfl (set_two _ _ k0 k1).1 (set_two _ _ k0 k1).2) rfl ⟨A1, cap1, rfl, (ho1.two (g := w.heap.size + 1) (by first | omega | (simp; omega) | simp)).mono (by first | omega | (simp; omega) | simp), (by repeat (first | exact Below.refl _ _ | assumption | (refine below_drewN ?_ _) | (refine Below.drew ?_) | (refine Below.alloc ?_ (by first | omega | (simp; omega) | simp) _) | (refine Below.setCell ?_ (by first | omega | (simp; omega) | simp) _) | (refine below_trans ?_ (by assumption) (by first | omega | (simp; omega) | simp))))⟩
theorem put_in (i : Int) (hr : Row w w.heap.size A ws) (h : Right N ws) (h0 : 0 ≤ i) (h1 : i < N) :
    Calls Tryd.prog 13 #[.agg #[.int .i64 N, .slice A ws.length cap], .int .i64 i, .bool v] w fun e w' => Fresh w N (putW ws i.toNat v) 0 e w' := by
  have hR := Lib.hid h
  clear h
  have e1 : putW ws i.toNat v = fillW ws i.toNat (1 : Int).toNat v := rfl
  rw [e1]
  clear e1
  go_enter Tryd.func13, Tryd.ntmps13
  go_wp2_with (go_at_call 26; refine (fill_in _ _ _ _ (hr.later (by repeat (first | exact Below.refl _ _ | assumption | (refine below_drewN ?_ _) | (refine Below.drew ?_) | (refine Below.alloc ?_ (by first | omega | (simp; omega) | simp) _) | (refine Below.setCell ?_ (by first | omega | (simp; omega) | simp) _) | (refine below_trans ?_ (by assumption) (by first | omega | (simp; omega) | simp))))) hR.out h0 (by omega) (by omega)).mono ?_; rintro e w1 ⟨A1, cap1, rfl, ho1, hb_w1⟩; obtain ⟨hc_w1, hf_w1⟩ := bcell hb_w1; have hz_w1_w_0 : w.heap.size < w1.heap.size := (by have hzz := hb_w1.size; (try simp only [World.size_alloc, World.size_setCell, World.size_drew, World.heap_drewN] at hzz); omega); have hz_w1_w_1 : w.heap.size + 1 < w1.heap.size := (by have hzz := hb_w1.size; (try simp only [World.size_alloc, World.size_setCell, World.size_drew, World.heap_drewN] at hzz); omega))
  have k0 : w1.cell? ⟨w.heap.size + 1, 0, none⟩ = _ := (hc_w1 _ _ (by first | omega | (simp; omega) | simp)).trans (by simp [go_sem]; rfl)
  have k1 : w1.cell? ⟨w.heap.size + 1, 1, none⟩ = _ := (hc_w1 _ _ (by first | omega | (simp; omega) | simp)).trans (by simp [go_sem]; rfl)
  exact bodyPost_ret (res_bits rfl rfl (set_two _ _ k0 k1).1 (set_two _ _ k0 k1).2) rfl ⟨A1, cap1, rfl, (ho1.two (g := w.heap.size + 1) (by first | omega | (simp; omega) | simp)).mono (by first | omega | (simp; omega) | simp), (by repeat (first | exact Below.refl _ _ | assumption | (refine below_drewN ?_ _) | (refine Below.drew ?_) | (refine Below.alloc ?_ (by first | omega | (simp; omega) | simp) _) | (refine Below.setCell ?_ (by first | omega | (simp; omega) | simp) _) | (refine below_trans ?_ (by assumption) (by first | omega | (simp; omega) | simp))))⟩
end
end Go.Proofs.YtdeopodfpeeenaaDoor
