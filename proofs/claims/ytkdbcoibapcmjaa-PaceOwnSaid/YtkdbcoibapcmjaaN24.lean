/- Contracts: Make of package pace, and the document's. -/
import Derived.Test.YtkdbcoibapcmjaaN21
import Derived.Test.YtkdbcoibapcmjaaN23
namespace Go.Proofs.Ytkdbcoibapcmjaa
open Go.RowKit
set_option linter.unusedVariables false
set_option linter.unusedSimpArgs false
set_option maxRecDepth 100000

theorem fit_newP {pct : Int} {lst k : Nat} (h1 : -9223372036854775808 ≤ pct) (h2 : pct ≤ 9223372036854775807) (h3 : lst < W64) : FitP (newP pct lst k) :=
  ⟨h1, h2, h3, by simp [newP, W64], by simp [newP, W64], by simp [newP, W64], by simp [newP, W64], by simp [newP, W64], by simp [newP, W64], words_zeros _⟩
section
variable {w : World}
set_option maxHeartbeats 4000000 in
theorem pmakeP_any (pct : Int) (lst : Nat) (mu : Int) (hp1 : -9223372036854775808 ≤ pct) (hp2 : pct ≤ 9223372036854775807) (hl3 : lst < W64) (q : Pc) (y : Int) (hE : MakP pct lst mu q y) :
    Calls Try.prog 13 #[.int .i64 pct, .int .u64 (lst : Nat), .int .i64 mu] w fun e w' => ∃ A' c', e = .returned (.tuple #[(.agg #[.int .i64 q.pct, .int .u64 (q.least : Nat), .int .u64 (q.live : Nat), .bool q.on, .int .u64 (q.est : Nat), .int .u64 (q.room : Nat), .int .u64 (q.credit : Nat), .int .u64 (q.done : Nat), .int .u64 (q.made : Nat), .slice A' q.ds.length c']), .int .i64 y]) ∧ OwnD w' w.heap.size A' c' q.ds ∧ Below w.heap.size w w' := by
  rcases hE with ⟨k, rfl, hk1, hk2, hk, rfl, rfl⟩ | ⟨k, rfl, hk1, hk2, hk, rfl, rfl⟩ | ⟨hm, rfl, rfl⟩
  · have HCK := Lib.hid fun (w : World) (A : Option Addr) (hr : Row w w.heap.size A (List.replicate k 0)) => pcheck_anyP (w := w) (p := (newP pct lst k)) (A := A) k (fit_newP hp1 hp2 hl3) hr (by simp [newP]; omega) 0 (.inl ⟨hk, rfl⟩)
    simp only [newP, List.length_replicate] at HCK
    have hmk := run_make_words k (by omega)
    have g1 : decide ((k : Int) < 1) = false := by simp; omega
    have g2 : decide (4 < (k : Int)) = false := by simp; omega
    have HWZ := Lib.hid (words_zeros k)
    have HQ : Hid (newP pct lst k = ⟨pct, lst, 0, false, 0, 0, 0, 0, 0, List.replicate k 0⟩) := Lib.hid rfl
    clear hk
    go_enter Try.func13, Try.ntmps13
    go_wp2_with fail
    go_at_call 17
    refine (HCK.out _ _ (by exact (Row.news (w := w.alloc (.cells #[.int .i64 0, .int .u64 0, .int .u64 0, .bool false, .int .u64 0, .int .u64 0, .int .u64 0, .int .u64 0, .int .u64 0, .slice none 0 0] 25)) (g := w.heap.size + 1) HWZ.out (by simp)).later (by repeat (first | exact Below.refl _ _ | assumption | (refine below_drewN ?_ _) | (refine Below.drew ?_) | (refine Below.alloc ?_ (by first | omega | (simp; omega) | simp) _) | (refine Below.setCell ?_ (by first | omega | (simp; omega) | simp) _) | (refine below_trans ?_ (by assumption) (by first | omega | (simp; omega) | simp)))))).mono ?_
    rintro e w1 ⟨rfl, hb_w1⟩
    obtain ⟨hc_w1, hf_w1⟩ := bcell hb_w1; have hz_w1_w_0 : w.heap.size < w1.heap.size := (by have hzz := hb_w1.size; (try simp only [World.size_alloc, World.size_setCell, World.size_drew, World.heap_drewN] at hzz); omega); have hz_w1_w_1 : w.heap.size + 1 < w1.heap.size := (by have hzz := hb_w1.size; (try simp only [World.size_alloc, World.size_setCell, World.size_drew, World.heap_drewN] at hzz); omega); have hz_w1_w_2 : w.heap.size + 2 < w1.heap.size := (by have hzz := hb_w1.size; (try simp only [World.size_alloc, World.size_setCell, World.size_drew, World.heap_drewN] at hzz); omega); have hs_w1 := hb_w1.size; (try simp only [World.size_alloc, World.size_setCell, World.size_drew, World.heap_drewN] at hs_w1)
    have b1 : Below w.heap.size w w1 := (by repeat (first | exact Below.refl _ _ | assumption | (refine below_drewN ?_ _) | (refine Below.drew ?_) | (refine Below.alloc ?_ (by first | omega | (simp; omega) | simp) _) | (refine Below.setCell ?_ (by first | omega | (simp; omega) | simp) _) | (refine below_trans ?_ (by assumption) (by first | omega | (simp; omega) | simp))))
    have t0 := (((Ten.new w (.int .i64 0) (.int .u64 0) (.int .u64 0) (.bool false) (.int .u64 0) (.int .u64 0) (.int .u64 0) (.int .u64 0) (.int .u64 0) (.slice none 0 0) 25).later ((Below.refl _ _).alloc (Nat.le_refl _) (.cells (vals (List.replicate k 0)).toArray 22))).later ((Below.refl _ _).alloc (Nat.le_refl _) (.cells #[.int .i64 pct, .int .u64 (lst : Nat), .int .u64 0, .bool false, .int .u64 0, .int .u64 0, .int .u64 0, .int .u64 0, .int .u64 0, .slice (some ⟨w.heap.size + 1, 0, none⟩) k k] 25))).later hb_w1
    have t1 := (Ten.new ((w.alloc (.cells #[.int .i64 0, .int .u64 0, .int .u64 0, .bool false, .int .u64 0, .int .u64 0, .int .u64 0, .int .u64 0, .int .u64 0, .slice none 0 0] 25)).alloc (.cells (vals (List.replicate k 0)).toArray 22)) (.int .i64 pct) (.int .u64 (lst : Nat)) (.int .u64 0) (.bool false) (.int .u64 0) (.int .u64 0) (.int .u64 0) (.int .u64 0) (.int .u64 0) (.slice (some ⟨w.heap.size + 1, 0, none⟩) k k) 25).later hb_w1
    have oD := ((Own.news (w := w.alloc (.cells #[.int .i64 0, .int .u64 0, .int .u64 0, .bool false, .int .u64 0, .int .u64 0, .int .u64 0, .int .u64 0, .int .u64 0, .slice none 0 0] 25)) (l := List.replicate k 0) (t := 22) (g := w.heap.size + 1) (B := w.heap.size + 1) HWZ.out (by simp) (Nat.le_refl _)).later ((Below.refl _ _).alloc (Nat.le_refl _) (.cells #[.int .i64 pct, .int .u64 (lst : Nat), .int .u64 0, .bool false, .int .u64 0, .int .u64 0, .int .u64 0, .int .u64 0, .int .u64 0, .slice (some ⟨w.heap.size + 1, 0, none⟩) k k] 25))).later hb_w1
    simp only [World.size_alloc] at t0 t1 oD
    clear hc_w1 hf_w1
    obtain ⟨x0, x1, x2, x3, x4, x5, x6, x7, x8, x9, xf⟩ := id t1
    obtain ⟨y0, y1, y2, y3, y4, y5, y6, y7, y8, y9, yf⟩ := id t0
    go_wp2
    rw [HQ.out]
    exact bodyPost_ret (res_pp2 rfl rfl (t0.all _ _ _ _ _ _ _ _ _ _)) rfl ⟨some ⟨w.heap.size + 1, 0, none⟩, k, by rw [List.length_replicate]; rfl, ⟨(own_ten oD (.inl (by omega)) _ _ _ _ _ _ _ _ _ _).mono (by omega), by simp, fun e => (by cases e)⟩, below_ten b1 (Nat.le_refl _) _ _ _ _ _ _ _ _ _ _⟩
  · have HCK := Lib.hid fun (w : World) (A : Option Addr) (hr : Row w w.heap.size A (List.replicate k 0)) => pcheck_anyP (w := w) (p := (newP pct lst k)) (A := A) k (fit_newP hp1 hp2 hl3) hr (by simp [newP]; omega) 2 (.inr ⟨hk, rfl⟩)
    simp only [newP, List.length_replicate] at HCK
    have hmk := run_make_words k (by omega)
    have g1 : decide ((k : Int) < 1) = false := by simp; omega
    have g2 : decide (4 < (k : Int)) = false := by simp; omega
    have HWZ := Lib.hid (words_zeros k)
    have HQ : Hid (newP pct lst k = ⟨pct, lst, 0, false, 0, 0, 0, 0, 0, List.replicate k 0⟩) := Lib.hid rfl
    clear hk
    go_enter Try.func13, Try.ntmps13
    go_wp2_with fail
    go_at_call 17
    refine (HCK.out _ _ (by exact (Row.news (w := w.alloc (.cells #[.int .i64 0, .int .u64 0, .int .u64 0, .bool false, .int .u64 0, .int .u64 0, .int .u64 0, .int .u64 0, .int .u64 0, .slice none 0 0] 25)) (g := w.heap.size + 1) HWZ.out (by simp)).later (by repeat (first | exact Below.refl _ _ | assumption | (refine below_drewN ?_ _) | (refine Below.drew ?_) | (refine Below.alloc ?_ (by first | omega | (simp; omega) | simp) _) | (refine Below.setCell ?_ (by first | omega | (simp; omega) | simp) _) | (refine below_trans ?_ (by assumption) (by first | omega | (simp; omega) | simp)))))).mono ?_
    rintro e w1 ⟨rfl, hb_w1⟩
    obtain ⟨hc_w1, hf_w1⟩ := bcell hb_w1; have hz_w1_w_0 : w.heap.size < w1.heap.size := (by have hzz := hb_w1.size; (try simp only [World.size_alloc, World.size_setCell, World.size_drew, World.heap_drewN] at hzz); omega); have hz_w1_w_1 : w.heap.size + 1 < w1.heap.size := (by have hzz := hb_w1.size; (try simp only [World.size_alloc, World.size_setCell, World.size_drew, World.heap_drewN] at hzz); omega); have hz_w1_w_2 : w.heap.size + 2 < w1.heap.size := (by have hzz := hb_w1.size; (try simp only [World.size_alloc, World.size_setCell, World.size_drew, World.heap_drewN] at hzz); omega); have hs_w1 := hb_w1.size; (try simp only [World.size_alloc, World.size_setCell, World.size_drew, World.heap_drewN] at hs_w1)
    have b1 : Below w.heap.size w w1 := (by repeat (first | exact Below.refl _ _ | assumption | (refine below_drewN ?_ _) | (refine Below.drew ?_) | (refine Below.alloc ?_ (by first | omega | (simp; omega) | simp) _) | (refine Below.setCell ?_ (by first | omega | (simp; omega) | simp) _) | (refine below_trans ?_ (by assumption) (by first | omega | (simp; omega) | simp))))
    have t0 := (((Ten.new w (.int .i64 0) (.int .u64 0) (.int .u64 0) (.bool false) (.int .u64 0) (.int .u64 0) (.int .u64 0) (.int .u64 0) (.int .u64 0) (.slice none 0 0) 25).later ((Below.refl _ _).alloc (Nat.le_refl _) (.cells (vals (List.replicate k 0)).toArray 22))).later ((Below.refl _ _).alloc (Nat.le_refl _) (.cells #[.int .i64 pct, .int .u64 (lst : Nat), .int .u64 0, .bool false, .int .u64 0, .int .u64 0, .int .u64 0, .int .u64 0, .int .u64 0, .slice (some ⟨w.heap.size + 1, 0, none⟩) k k] 25))).later hb_w1
    have t1 := (Ten.new ((w.alloc (.cells #[.int .i64 0, .int .u64 0, .int .u64 0, .bool false, .int .u64 0, .int .u64 0, .int .u64 0, .int .u64 0, .int .u64 0, .slice none 0 0] 25)).alloc (.cells (vals (List.replicate k 0)).toArray 22)) (.int .i64 pct) (.int .u64 (lst : Nat)) (.int .u64 0) (.bool false) (.int .u64 0) (.int .u64 0) (.int .u64 0) (.int .u64 0) (.int .u64 0) (.slice (some ⟨w.heap.size + 1, 0, none⟩) k k) 25).later hb_w1
    have oD := ((Own.news (w := w.alloc (.cells #[.int .i64 0, .int .u64 0, .int .u64 0, .bool false, .int .u64 0, .int .u64 0, .int .u64 0, .int .u64 0, .int .u64 0, .slice none 0 0] 25)) (l := List.replicate k 0) (t := 22) (g := w.heap.size + 1) (B := w.heap.size + 1) HWZ.out (by simp) (Nat.le_refl _)).later ((Below.refl _ _).alloc (Nat.le_refl _) (.cells #[.int .i64 pct, .int .u64 (lst : Nat), .int .u64 0, .bool false, .int .u64 0, .int .u64 0, .int .u64 0, .int .u64 0, .int .u64 0, .slice (some ⟨w.heap.size + 1, 0, none⟩) k k] 25))).later hb_w1
    simp only [World.size_alloc] at t0 t1 oD
    clear hc_w1 hf_w1
    obtain ⟨x0, x1, x2, x3, x4, x5, x6, x7, x8, x9, xf⟩ := id t1
    obtain ⟨y0, y1, y2, y3, y4, y5, y6, y7, y8, y9, yf⟩ := id t0
    go_wp2
    exact bodyPost_ret (res_pp2 rfl rfl (t0.all _ _ _ _ _ _ _ _ _ _)) rfl ⟨none, 0, rfl, OwnD.none _ _, below_ten b1 (Nat.le_refl _) _ _ _ _ _ _ _ _ _ _⟩
  · by_cases h1 : mu < 1
    · have g1 : decide (mu < 1) = true := by simpa using h1
      go_enter Try.func13, Try.ntmps13
      go_wp2
      exact bodyPost_ret (res_pp2 rfl rfl (b := w.heap.size) (by constructor <;> (simp [go_sem] <;> rfl))) rfl ⟨none, 0, rfl, OwnD.none _ _, (by repeat (first | exact Below.refl _ _ | assumption | (refine below_drewN ?_ _) | (refine Below.drew ?_) | (refine Below.alloc ?_ (by first | omega | (simp; omega) | simp) _) | (refine Below.setCell ?_ (by first | omega | (simp; omega) | simp) _) | (refine below_trans ?_ (by assumption) (by first | omega | (simp; omega) | simp))))⟩
    · have g1 : decide (mu < 1) = false := by simpa using h1
      have g2 : decide (4 < mu) = true := by simp; omega
      go_enter Try.func13, Try.ntmps13
      go_wp2
      exact bodyPost_ret (res_pp2 rfl rfl (b := w.heap.size) (by constructor <;> (simp [go_sem] <;> rfl))) rfl ⟨none, 0, rfl, OwnD.none _ _, (by repeat (first | exact Below.refl _ _ | assumption | (refine below_drewN ?_ _) | (refine Below.drew ?_) | (refine Below.alloc ?_ (by first | omega | (simp; omega) | simp) _) | (refine Below.setCell ?_ (by first | omega | (simp; omega) | simp) _) | (refine below_trans ?_ (by assumption) (by first | omega | (simp; omega) | simp))))⟩
set_option maxHeartbeats 4000000 in
theorem xpmake_any (pct : Int) (lst : Nat) (mu : Int) (hp1 : -9223372036854775808 ≤ pct) (hp2 : pct ≤ 9223372036854775807) (hl3 : lst < W64) (q : Pc) (y : Int) (hE : MakP pct lst mu q y) :
    Calls Try.prog 14 #[.int .i64 pct, .int .u64 (lst : Nat), .int .i64 mu] w fun e w' => ∃ A' c', e = .returned (.tuple #[(.agg #[.int .i64 q.pct, .int .u64 (q.least : Nat), .int .u64 (q.live : Nat), .bool q.on, .int .u64 (q.est : Nat), .int .u64 (q.room : Nat), .int .u64 (q.credit : Nat), .int .u64 (q.done : Nat), .int .u64 (q.made : Nat), .slice A' q.ds.length c']), .int .i64 y]) ∧ OwnD w' w.heap.size A' c' q.ds ∧ Below w.heap.size w w' := by
  rcases hE with ⟨k, rfl, hk1, hk2, hk, rfl, rfl⟩ | ⟨k, rfl, hk1, hk2, hk, rfl, rfl⟩ | ⟨hm, rfl, rfl⟩
  · have HCK := Lib.hid fun (w : World) (A : Option Addr) (hr : Row w w.heap.size A (List.replicate k 0)) => xpcheck_any (w := w) (p := (newP pct lst k)) (A := A) k (fit_newP hp1 hp2 hl3) hr 0 (.inl ⟨hk, rfl⟩)
    simp only [newP, List.length_replicate] at HCK
    have hmk := run_make_words k (by omega)
    have g1 : decide ((k : Int) < 1) = false := by simp; omega
    have g2 : decide (4 < (k : Int)) = false := by simp; omega
    have HWZ := Lib.hid (words_zeros k)
    have HQ : Hid (newP pct lst k = ⟨pct, lst, 0, false, 0, 0, 0, 0, 0, List.replicate k 0⟩) := Lib.hid rfl
    clear hk
    go_enter Try.func14, Try.ntmps14
    go_wp2_with fail
    go_at_call 18
    refine (HCK.out _ _ (by exact (Row.news (w := w.alloc (.cells #[.int .i64 0, .int .u64 0, .int .u64 0, .bool false, .int .u64 0, .int .u64 0, .int .u64 0, .int .u64 0, .int .u64 0, .slice none 0 0] 25)) (g := w.heap.size + 1) HWZ.out (by simp)).later (by repeat (first | exact Below.refl _ _ | assumption | (refine below_drewN ?_ _) | (refine Below.drew ?_) | (refine Below.alloc ?_ (by first | omega | (simp; omega) | simp) _) | (refine Below.setCell ?_ (by first | omega | (simp; omega) | simp) _) | (refine below_trans ?_ (by assumption) (by first | omega | (simp; omega) | simp)))))).mono ?_
    rintro e w1 ⟨rfl, hb_w1⟩
    obtain ⟨hc_w1, hf_w1⟩ := bcell hb_w1; have hz_w1_w_0 : w.heap.size < w1.heap.size := (by have hzz := hb_w1.size; (try simp only [World.size_alloc, World.size_setCell, World.size_drew, World.heap_drewN] at hzz); omega); have hz_w1_w_1 : w.heap.size + 1 < w1.heap.size := (by have hzz := hb_w1.size; (try simp only [World.size_alloc, World.size_setCell, World.size_drew, World.heap_drewN] at hzz); omega); have hz_w1_w_2 : w.heap.size + 2 < w1.heap.size := (by have hzz := hb_w1.size; (try simp only [World.size_alloc, World.size_setCell, World.size_drew, World.heap_drewN] at hzz); omega); have hs_w1 := hb_w1.size; (try simp only [World.size_alloc, World.size_setCell, World.size_drew, World.heap_drewN] at hs_w1)
    have b1 : Below w.heap.size w w1 := (by repeat (first | exact Below.refl _ _ | assumption | (refine below_drewN ?_ _) | (refine Below.drew ?_) | (refine Below.alloc ?_ (by first | omega | (simp; omega) | simp) _) | (refine Below.setCell ?_ (by first | omega | (simp; omega) | simp) _) | (refine below_trans ?_ (by assumption) (by first | omega | (simp; omega) | simp))))
    have t0 := (((Ten.new w (.int .i64 0) (.int .u64 0) (.int .u64 0) (.bool false) (.int .u64 0) (.int .u64 0) (.int .u64 0) (.int .u64 0) (.int .u64 0) (.slice none 0 0) 25).later ((Below.refl _ _).alloc (Nat.le_refl _) (.cells (vals (List.replicate k 0)).toArray 22))).later ((Below.refl _ _).alloc (Nat.le_refl _) (.cells #[.int .i64 pct, .int .u64 (lst : Nat), .int .u64 0, .bool false, .int .u64 0, .int .u64 0, .int .u64 0, .int .u64 0, .int .u64 0, .slice (some ⟨w.heap.size + 1, 0, none⟩) k k] 25))).later hb_w1
    have t1 := (Ten.new ((w.alloc (.cells #[.int .i64 0, .int .u64 0, .int .u64 0, .bool false, .int .u64 0, .int .u64 0, .int .u64 0, .int .u64 0, .int .u64 0, .slice none 0 0] 25)).alloc (.cells (vals (List.replicate k 0)).toArray 22)) (.int .i64 pct) (.int .u64 (lst : Nat)) (.int .u64 0) (.bool false) (.int .u64 0) (.int .u64 0) (.int .u64 0) (.int .u64 0) (.int .u64 0) (.slice (some ⟨w.heap.size + 1, 0, none⟩) k k) 25).later hb_w1
    have oD := ((Own.news (w := w.alloc (.cells #[.int .i64 0, .int .u64 0, .int .u64 0, .bool false, .int .u64 0, .int .u64 0, .int .u64 0, .int .u64 0, .int .u64 0, .slice none 0 0] 25)) (l := List.replicate k 0) (t := 22) (g := w.heap.size + 1) (B := w.heap.size + 1) HWZ.out (by simp) (Nat.le_refl _)).later ((Below.refl _ _).alloc (Nat.le_refl _) (.cells #[.int .i64 pct, .int .u64 (lst : Nat), .int .u64 0, .bool false, .int .u64 0, .int .u64 0, .int .u64 0, .int .u64 0, .int .u64 0, .slice (some ⟨w.heap.size + 1, 0, none⟩) k k] 25))).later hb_w1
    simp only [World.size_alloc] at t0 t1 oD
    clear hc_w1 hf_w1
    obtain ⟨x0, x1, x2, x3, x4, x5, x6, x7, x8, x9, xf⟩ := id t1
    obtain ⟨y0, y1, y2, y3, y4, y5, y6, y7, y8, y9, yf⟩ := id t0
    go_wp2
    rw [HQ.out]
    exact bodyPost_ret (res_pp2 rfl rfl (t0.all _ _ _ _ _ _ _ _ _ _)) rfl ⟨some ⟨w.heap.size + 1, 0, none⟩, k, by rw [List.length_replicate]; rfl, ⟨(own_ten oD (.inl (by omega)) _ _ _ _ _ _ _ _ _ _).mono (by omega), by simp, fun e => (by cases e)⟩, below_ten b1 (Nat.le_refl _) _ _ _ _ _ _ _ _ _ _⟩
  · have HCK := Lib.hid fun (w : World) (A : Option Addr) (hr : Row w w.heap.size A (List.replicate k 0)) => xpcheck_any (w := w) (p := (newP pct lst k)) (A := A) k (fit_newP hp1 hp2 hl3) hr 2 (.inr ⟨hk, rfl⟩)
    simp only [newP, List.length_replicate] at HCK
    have hmk := run_make_words k (by omega)
    have g1 : decide ((k : Int) < 1) = false := by simp; omega
    have g2 : decide (4 < (k : Int)) = false := by simp; omega
    have HWZ := Lib.hid (words_zeros k)
    have HQ : Hid (newP pct lst k = ⟨pct, lst, 0, false, 0, 0, 0, 0, 0, List.replicate k 0⟩) := Lib.hid rfl
    clear hk
    go_enter Try.func14, Try.ntmps14
    go_wp2_with fail
    go_at_call 18
    refine (HCK.out _ _ (by exact (Row.news (w := w.alloc (.cells #[.int .i64 0, .int .u64 0, .int .u64 0, .bool false, .int .u64 0, .int .u64 0, .int .u64 0, .int .u64 0, .int .u64 0, .slice none 0 0] 25)) (g := w.heap.size + 1) HWZ.out (by simp)).later (by repeat (first | exact Below.refl _ _ | assumption | (refine below_drewN ?_ _) | (refine Below.drew ?_) | (refine Below.alloc ?_ (by first | omega | (simp; omega) | simp) _) | (refine Below.setCell ?_ (by first | omega | (simp; omega) | simp) _) | (refine below_trans ?_ (by assumption) (by first | omega | (simp; omega) | simp)))))).mono ?_
    rintro e w1 ⟨rfl, hb_w1⟩
    obtain ⟨hc_w1, hf_w1⟩ := bcell hb_w1; have hz_w1_w_0 : w.heap.size < w1.heap.size := (by have hzz := hb_w1.size; (try simp only [World.size_alloc, World.size_setCell, World.size_drew, World.heap_drewN] at hzz); omega); have hz_w1_w_1 : w.heap.size + 1 < w1.heap.size := (by have hzz := hb_w1.size; (try simp only [World.size_alloc, World.size_setCell, World.size_drew, World.heap_drewN] at hzz); omega); have hz_w1_w_2 : w.heap.size + 2 < w1.heap.size := (by have hzz := hb_w1.size; (try simp only [World.size_alloc, World.size_setCell, World.size_drew, World.heap_drewN] at hzz); omega); have hs_w1 := hb_w1.size; (try simp only [World.size_alloc, World.size_setCell, World.size_drew, World.heap_drewN] at hs_w1)
    have b1 : Below w.heap.size w w1 := (by repeat (first | exact Below.refl _ _ | assumption | (refine below_drewN ?_ _) | (refine Below.drew ?_) | (refine Below.alloc ?_ (by first | omega | (simp; omega) | simp) _) | (refine Below.setCell ?_ (by first | omega | (simp; omega) | simp) _) | (refine below_trans ?_ (by assumption) (by first | omega | (simp; omega) | simp))))
    have t0 := (((Ten.new w (.int .i64 0) (.int .u64 0) (.int .u64 0) (.bool false) (.int .u64 0) (.int .u64 0) (.int .u64 0) (.int .u64 0) (.int .u64 0) (.slice none 0 0) 25).later ((Below.refl _ _).alloc (Nat.le_refl _) (.cells (vals (List.replicate k 0)).toArray 22))).later ((Below.refl _ _).alloc (Nat.le_refl _) (.cells #[.int .i64 pct, .int .u64 (lst : Nat), .int .u64 0, .bool false, .int .u64 0, .int .u64 0, .int .u64 0, .int .u64 0, .int .u64 0, .slice (some ⟨w.heap.size + 1, 0, none⟩) k k] 25))).later hb_w1
    have t1 := (Ten.new ((w.alloc (.cells #[.int .i64 0, .int .u64 0, .int .u64 0, .bool false, .int .u64 0, .int .u64 0, .int .u64 0, .int .u64 0, .int .u64 0, .slice none 0 0] 25)).alloc (.cells (vals (List.replicate k 0)).toArray 22)) (.int .i64 pct) (.int .u64 (lst : Nat)) (.int .u64 0) (.bool false) (.int .u64 0) (.int .u64 0) (.int .u64 0) (.int .u64 0) (.int .u64 0) (.slice (some ⟨w.heap.size + 1, 0, none⟩) k k) 25).later hb_w1
    have oD := ((Own.news (w := w.alloc (.cells #[.int .i64 0, .int .u64 0, .int .u64 0, .bool false, .int .u64 0, .int .u64 0, .int .u64 0, .int .u64 0, .int .u64 0, .slice none 0 0] 25)) (l := List.replicate k 0) (t := 22) (g := w.heap.size + 1) (B := w.heap.size + 1) HWZ.out (by simp) (Nat.le_refl _)).later ((Below.refl _ _).alloc (Nat.le_refl _) (.cells #[.int .i64 pct, .int .u64 (lst : Nat), .int .u64 0, .bool false, .int .u64 0, .int .u64 0, .int .u64 0, .int .u64 0, .int .u64 0, .slice (some ⟨w.heap.size + 1, 0, none⟩) k k] 25))).later hb_w1
    simp only [World.size_alloc] at t0 t1 oD
    clear hc_w1 hf_w1
    obtain ⟨x0, x1, x2, x3, x4, x5, x6, x7, x8, x9, xf⟩ := id t1
    obtain ⟨y0, y1, y2, y3, y4, y5, y6, y7, y8, y9, yf⟩ := id t0
    go_wp2
    exact bodyPost_ret (res_pp2 rfl rfl (t0.all _ _ _ _ _ _ _ _ _ _)) rfl ⟨none, 0, rfl, OwnD.none _ _, below_ten b1 (Nat.le_refl _) _ _ _ _ _ _ _ _ _ _⟩
  · by_cases h1 : mu < 1
    · have g1 : decide (mu < 1) = true := by simpa using h1
      go_enter Try.func14, Try.ntmps14
      go_wp2
      exact bodyPost_ret (res_pp2 rfl rfl (b := w.heap.size) (by constructor <;> (simp [go_sem] <;> rfl))) rfl ⟨none, 0, rfl, OwnD.none _ _, (by repeat (first | exact Below.refl _ _ | assumption | (refine below_drewN ?_ _) | (refine Below.drew ?_) | (refine Below.alloc ?_ (by first | omega | (simp; omega) | simp) _) | (refine Below.setCell ?_ (by first | omega | (simp; omega) | simp) _) | (refine below_trans ?_ (by assumption) (by first | omega | (simp; omega) | simp))))⟩
    · have g1 : decide (mu < 1) = false := by simpa using h1
      have g2 : decide (4 < mu) = true := by simp; omega
      go_enter Try.func14, Try.ntmps14
      go_wp2
      exact bodyPost_ret (res_pp2 rfl rfl (b := w.heap.size) (by constructor <;> (simp [go_sem] <;> rfl))) rfl ⟨none, 0, rfl, OwnD.none _ _, (by repeat (first | exact Below.refl _ _ | assumption | (refine below_drewN ?_ _) | (refine Below.drew ?_) | (refine Below.alloc ?_ (by first | omega | (simp; omega) | simp) _) | (refine Below.setCell ?_ (by first | omega | (simp; omega) | simp) _) | (refine below_trans ?_ (by assumption) (by first | omega | (simp; omega) | simp))))⟩
end
end Go.Proofs.Ytkdbcoibapcmjaa
