/- Contracts of the document's own answers for pages. -/
import Derived.Test.YtcokfdgbgeeabaaP2
namespace Go.Proofs.Ytcokfdgbgeeabaa
open Go.RowKit
set_option linter.unusedVariables false
set_option linter.unusedSimpArgs false

section
variable {n : Int} {A : Option Addr} {ws : List Nat} {w : World} (cap : Nat)
theorem rpcopy_any (hr : Row w w.heap.size A ws) (hm : ws.length ≤ 17592186044416) :
    Calls Try.prog 10 #[.agg #[.int .i64 n, .slice A ws.length cap]] w fun e w' => Copied w n ws e w' := by
  go_enter Try.func10, Try.ntmps10
  go_wp2_with (go_at_call 26; refine (copy_any _ _ (hr.later (by repeat (first | exact Below.refl _ _ | assumption | (refine below_drewN ?_ _) | (refine Below.drew ?_) | (refine Below.alloc ?_ (by first | omega | (simp; omega) | simp) _) | (refine Below.setCell ?_ (by first | omega | (simp; omega) | simp) _) | (refine below_trans ?_ (by assumption) (by first | omega | (simp; omega) | simp))))) hm).mono ?_; rintro e w1 ⟨A1, cap1, rfl, ho1, hb_w1⟩; obtain ⟨hc_w1, hf_w1⟩ := bcell hb_w1; have hz_w1_w_0 : w.heap.size < w1.heap.size := (by have hzz := hb_w1.size; (try simp only [World.size_alloc, World.size_setCell, World.size_drew, World.heap_drewN] at hzz); omega); have hz_w1_w_1 : w.heap.size + 1 < w1.heap.size := (by have hzz := hb_w1.size; (try simp only [World.size_alloc, World.size_setCell, World.size_drew, World.heap_drewN] at hzz); omega))
  have k0 : w1.cell? ⟨w.heap.size + 1, 0, none⟩ = _ := (hc_w1 _ _ (by first | omega | (simp; omega) | simp)).trans (by simp [go_sem]; rfl)
  have k1 : w1.cell? ⟨w.heap.size + 1, 1, none⟩ = _ := (hc_w1 _ _ (by first | omega | (simp; omega) | simp)).trans (by simp [go_sem]; rfl)
  exact bodyPost_ret (res_pages1 rfl rfl (set_two _ _ k0 k1).1 (set_two _ _ k0 k1).2) rfl ⟨A1, cap1, rfl, (ho1.two (g := w.heap.size + 1) (by first | omega | (simp; omega) | simp)).mono (by first | omega | (simp; omega) | simp), (by repeat (first | exact Below.refl _ _ | assumption | (refine below_drewN ?_ _) | (refine Below.drew ?_) | (refine Below.alloc ?_ (by first | omega | (simp; omega) | simp) _) | (refine Below.setCell ?_ (by first | omega | (simp; omega) | simp) _) | (refine below_trans ?_ (by assumption) (by first | omega | (simp; omega) | simp))))⟩
theorem rpsame_ok (hm : ws.length ≤ maxLen) (A' : Option Addr) (cap' : Nat) (hr : Row w w.heap.size A ws) (hr' : Row w w.heap.size A' ws) :
    Calls Try.prog 16 #[.agg #[.int .i64 n, .slice A ws.length cap], .agg #[.int .i64 n, .slice A' ws.length cap']] w fun e w' => e = .returned (.bool true) ∧ Below w.heap.size w w' := by
  go_enter Try.func16, Try.ntmps16
  go_wp2_with fail
  go_at_call 36
  refine (same_ok n ws hm _ _ _ _ _ (hr.later (by repeat (first | exact Below.refl _ _ | assumption | (refine below_drewN ?_ _) | (refine Below.drew ?_) | (refine Below.alloc ?_ (by first | omega | (simp; omega) | simp) _) | (refine Below.setCell ?_ (by first | omega | (simp; omega) | simp) _) | (refine below_trans ?_ (by assumption) (by first | omega | (simp; omega) | simp))))) (hr'.later (by repeat (first | exact Below.refl _ _ | assumption | (refine below_drewN ?_ _) | (refine Below.drew ?_) | (refine Below.alloc ?_ (by first | omega | (simp; omega) | simp) _) | (refine Below.setCell ?_ (by first | omega | (simp; omega) | simp) _) | (refine below_trans ?_ (by assumption) (by first | omega | (simp; omega) | simp)))))).mono ?_
  rintro e w1 ⟨rfl, hb_w1⟩
  obtain ⟨hc_w1, hf_w1⟩ := bcell hb_w1; have hz_w1_w_0 : w.heap.size < w1.heap.size := (by have hzz := hb_w1.size; (try simp only [World.size_alloc, World.size_setCell, World.size_drew, World.heap_drewN] at hzz); omega); have hz_w1_w_1 : w.heap.size + 1 < w1.heap.size := (by have hzz := hb_w1.size; (try simp only [World.size_alloc, World.size_setCell, World.size_drew, World.heap_drewN] at hzz); omega); have hs_w1 := hb_w1.size; (try simp only [World.size_alloc, World.size_setCell, World.size_drew, World.heap_drewN] at hs_w1)
  go_wp2
  go_ret
  exact ⟨rfl, (by repeat (first | exact Below.refl _ _ | assumption | (refine below_drewN ?_ _) | (refine Below.drew ?_) | (refine Below.alloc ?_ (by first | omega | (simp; omega) | simp) _) | (refine Below.setCell ?_ (by first | omega | (simp; omega) | simp) _) | (refine below_trans ?_ (by assumption) (by first | omega | (simp; omega) | simp))))⟩
/-- whether c bits from a on are 0 -/
def FitE (ws : List Nat) (a : Nat) (c : Int) (e : Ending) : Prop := ∃ b : Bool, e = .returned (.bool b) ∧ (b = true ↔ FitAt ws a c.toNat)
theorem rpfree_any (a : Nat) (c : Int) (L : Nat) (hL : ws.length = L) (hr : Row w w.heap.size A ws) (h : Right n ws) (h1 : 1 ≤ c) (h2 : a + c ≤ n) :
    Calls Try.prog 31 #[.agg #[.int .i64 n, .slice A L cap], .int .i64 a, .int .i64 c] w fun e w' => FitE ws a c e ∧ Below w.heap.size w w' := by
  subst hL
  have hn := h.1
  have hn2 := h.2.1
  have hl := h.long
  have hl2 : ws.length ≤ 64 := right_len h
  have hl3 : ws.length ≤ 17592186044416 := by omega
  have hR := Lib.hid h
  clear h
  go_enter Try.func31, Try.ntmps31
  go_wp2
  go_loopw [7] (fun i wr => ∃ k : Nat, i = .int .i64 ((a : Int) + (k : Nat)) ∧ (k : Int) ≤ c ∧ FitAt ws a k ∧ wr.cell? ⟨w.heap.size, 0, none⟩ = some (.int .i64 n) ∧ wr.cell? ⟨w.heap.size, 1, none⟩ = some (.slice A ws.length cap) ∧ w.heap.size + 1 ≤ wr.heap.size ∧ Below w.heap.size w wr) (fun i _ => (a + c - intOf i).toNat)
  case atStart => exact ⟨0, by go_num, by omega, FitAt.zero _ _, by simp [go_sem], by simp [go_sem], (by first | omega | (simp; omega) | simp), (by repeat (first | exact Below.refl _ _ | assumption | (refine below_drewN ?_ _) | (refine Below.drew ?_) | (refine Below.alloc ?_ (by first | omega | (simp; omega) | simp) _) | (refine Below.setCell ?_ (by first | omega | (simp; omega) | simp) _) | (refine below_trans ?_ (by assumption) (by first | omega | (simp; omega) | simp))))⟩
  case round =>
    obtain ⟨k, rfl, hk, hF, q0, q1, hsz, hb_wr⟩ := hrel
    by_cases hlt : (k : Int) < c
    · go_wp2_with fail
      go_at_call 35
      refine (is_any ((a : Int) + (k : Nat)) n cap (hr.later hb_wr) (by omega) (by omega) hl2).mono ?_
      rintro e w2 ⟨rfl, hb_w2⟩
      obtain ⟨hc_w2, hf_w2⟩ := bcell hb_w2
      rw [show ((a : Int) + (k : Nat)).toNat = a + k by omega]
      cases ht : tb ws (a + k)
      · have HT := Lib.hid ht
        clear ht
        go_wp2
        go_roundw
        case rel => exact ⟨k + 1, by go_num, by omega, hF.succ HT.out, (hc_w2 _ _ (by first | omega | (simp; omega) | simp)).trans q0, (hc_w2 _ _ (by first | omega | (simp; omega) | simp)).trans q1, Nat.le_trans hsz hb_w2.size, (by repeat (first | exact Below.refl _ _ | assumption | (refine below_drewN ?_ _) | (refine Below.drew ?_) | (refine Below.alloc ?_ (by first | omega | (simp; omega) | simp) _) | (refine Below.setCell ?_ (by first | omega | (simp; omega) | simp) _) | (refine below_trans ?_ (by assumption) (by first | omega | (simp; omega) | simp))))⟩
        case measure => simp [intOf]; omega
      · have HT := Lib.hid ht
        clear ht
        go_wp2
        go_ret
        refine ⟨⟨false, rfl, ?_⟩, (by repeat (first | exact Below.refl _ _ | assumption | (refine below_drewN ?_ _) | (refine Below.drew ?_) | (refine Below.alloc ?_ (by first | omega | (simp; omega) | simp) _) | (refine Below.setCell ?_ (by first | omega | (simp; omega) | simp) _) | (refine below_trans ?_ (by assumption) (by first | omega | (simp; omega) | simp))))⟩
        simp only [Bool.false_eq_true, false_iff]
        intro hf
        have := hf (a + k) (by omega) (by omega)
        rw [HT.out] at this
        cases this
    · have HK : Hid (c.toNat = k) := Lib.hid (by omega)
      have HF := Lib.hid hF
      clear hF
      go_wp2
      go_ret
      exact ⟨⟨true, rfl, by rw [HK.out]; exact ⟨fun _ => HF.out, fun _ => rfl⟩⟩, (by repeat (first | exact Below.refl _ _ | assumption | (refine below_drewN ?_ _) | (refine Below.drew ?_) | (refine Below.alloc ?_ (by first | omega | (simp; omega) | simp) _) | (refine Below.setCell ?_ (by first | omega | (simp; omega) | simp) _) | (refine below_trans ?_ (by assumption) (by first | omega | (simp; omega) | simp))))⟩
theorem rtake_bad (c : Int) (hr : Row w w.heap.size A ws) (h : ¬ Right n ws) :
    Calls Try.prog 12 #[.agg #[.int .i64 n, .slice A ws.length cap], .int .i64 c] w fun e w' => FreshT w 0 [] 0 2 e w' := by
  have hR := Lib.hid h
  clear h
  go_enter Try.func12, Try.ntmps12
  go_wp2_with (go_at_call 24; refine (rpcheck_bad _ (hr.later (by repeat (first | exact Below.refl _ _ | assumption | (refine below_drewN ?_ _) | (refine Below.drew ?_) | (refine Below.alloc ?_ (by first | omega | (simp; omega) | simp) _) | (refine Below.setCell ?_ (by first | omega | (simp; omega) | simp) _) | (refine below_trans ?_ (by assumption) (by first | omega | (simp; omega) | simp))))) hR.out).mono ?_; rintro e w1 ⟨rfl, hb_w1⟩; obtain ⟨hc_w1, hf_w1⟩ := bcell hb_w1; have hz_w1_w_0 : w.heap.size < w1.heap.size := (by have hzz := hb_w1.size; (try simp only [World.size_alloc, World.size_setCell, World.size_drew, World.heap_drewN] at hzz); omega); have hz_w1_w_1 : w.heap.size + 1 < w1.heap.size := (by have hzz := hb_w1.size; (try simp only [World.size_alloc, World.size_setCell, World.size_drew, World.heap_drewN] at hzz); omega))
  have k0 : w1.cell? ⟨w.heap.size + 1, 0, none⟩ = _ := (hc_w1 _ _ (by first | omega | (simp; omega) | simp)).trans (by simp [go_sem]; rfl)
  have k1 : w1.cell? ⟨w.heap.size + 1, 1, none⟩ = _ := (hc_w1 _ _ (by first | omega | (simp; omega) | simp)).trans (by simp [go_sem]; rfl)
  exact bodyPost_ret (res_pages3 rfl rfl (set_two _ _ k0 k1).1 (set_two _ _ k0 k1).2) rfl ⟨none, 0, rfl, Own.nil _ _, (by repeat (first | exact Below.refl _ _ | assumption | (refine below_drewN ?_ _) | (refine Below.drew ?_) | (refine Below.alloc ?_ (by first | omega | (simp; omega) | simp) _) | (refine Below.setCell ?_ (by first | omega | (simp; omega) | simp) _) | (refine below_trans ?_ (by assumption) (by first | omega | (simp; omega) | simp))))⟩
theorem rgive_bad (a c : Int) (hr : Row w w.heap.size A ws) (h : ¬ Right n ws) :
    Calls Try.prog 14 #[.agg #[.int .i64 n, .slice A ws.length cap], .int .i64 a, .int .i64 c] w fun e w' => Fresh w 0 [] 2 e w' := by
  have hR := Lib.hid h
  clear h
  go_enter Try.func14, Try.ntmps14
  go_wp2_with (go_at_call 24; refine (rpcheck_bad _ (hr.later (by repeat (first | exact Below.refl _ _ | assumption | (refine below_drewN ?_ _) | (refine Below.drew ?_) | (refine Below.alloc ?_ (by first | omega | (simp; omega) | simp) _) | (refine Below.setCell ?_ (by first | omega | (simp; omega) | simp) _) | (refine below_trans ?_ (by assumption) (by first | omega | (simp; omega) | simp))))) hR.out).mono ?_; rintro e w1 ⟨rfl, hb_w1⟩; obtain ⟨hc_w1, hf_w1⟩ := bcell hb_w1; have hz_w1_w_0 : w.heap.size < w1.heap.size := (by have hzz := hb_w1.size; (try simp only [World.size_alloc, World.size_setCell, World.size_drew, World.heap_drewN] at hzz); omega); have hz_w1_w_1 : w.heap.size + 1 < w1.heap.size := (by have hzz := hb_w1.size; (try simp only [World.size_alloc, World.size_setCell, World.size_drew, World.heap_drewN] at hzz); omega))
  have k0 : w1.cell? ⟨w.heap.size + 1, 0, none⟩ = _ := (hc_w1 _ _ (by first | omega | (simp; omega) | simp)).trans (by simp [go_sem]; rfl)
  have k1 : w1.cell? ⟨w.heap.size + 1, 1, none⟩ = _ := (hc_w1 _ _ (by first | omega | (simp; omega) | simp)).trans (by simp [go_sem]; rfl)
  exact bodyPost_ret (res_pages2 rfl rfl (set_two _ _ k0 k1).1 (set_two _ _ k0 k1).2) rfl ⟨none, 0, rfl, Own.nil _ _, (by repeat (first | exact Below.refl _ _ | assumption | (refine below_drewN ?_ _) | (refine Below.drew ?_) | (refine Below.alloc ?_ (by first | omega | (simp; omega) | simp) _) | (refine Below.setCell ?_ (by first | omega | (simp; omega) | simp) _) | (refine below_trans ?_ (by assumption) (by first | omega | (simp; omega) | simp))))⟩
theorem rtake_out (c : Int) (hr : Row w w.heap.size A ws) (h : Right n ws) (hc : c < 1) :
    Calls Try.prog 12 #[.agg #[.int .i64 n, .slice A ws.length cap], .int .i64 c] w fun e w' => FreshT w n ws 0 1 e w' := by
  have hn := h.1
  have hn2 := h.2.1
  have hl := h.long
  have hl2 : ws.length ≤ 64 := right_len h
  have hl3 : ws.length ≤ 17592186044416 := by omega
  have hR := Lib.hid h
  clear h
  have hd : decide (c < 1) = true := by simpa using hc
  go_enter Try.func12, Try.ntmps12
  go_wp2_with (first
      | (go_at_call 24; refine (rpcheck_ok _ (hr.later (by repeat (first | exact Below.refl _ _ | assumption | (refine below_drewN ?_ _) | (refine Below.drew ?_) | (refine Below.alloc ?_ (by first | omega | (simp; omega) | simp) _) | (refine Below.setCell ?_ (by first | omega | (simp; omega) | simp) _) | (refine below_trans ?_ (by assumption) (by first | omega | (simp; omega) | simp))))) hR.out).mono ?_; rintro e w1 ⟨rfl, hb_w1⟩; obtain ⟨hc_w1, hf_w1⟩ := bcell hb_w1; have hz_w1_w_0 : w.heap.size < w1.heap.size := (by have hzz := hb_w1.size; (try simp only [World.size_alloc, World.size_setCell, World.size_drew, World.heap_drewN] at hzz); omega); have hz_w1_w_1 : w.heap.size + 1 < w1.heap.size := (by have hzz := hb_w1.size; (try simp only [World.size_alloc, World.size_setCell, World.size_drew, World.heap_drewN] at hzz); omega))
      | (go_at_call 10; refine (rpcopy_any _ (hr.later (w' := w1) (by repeat (first | exact Below.refl _ _ | assumption | (refine below_drewN ?_ _) | (refine Below.drew ?_) | (refine Below.alloc ?_ (by first | omega | (simp; omega) | simp) _) | (refine Below.setCell ?_ (by first | omega | (simp; omega) | simp) _) | (refine below_trans ?_ (by assumption) (by first | omega | (simp; omega) | simp))))) hl3).mono ?_; rintro e w2 ⟨A1, cap1, rfl, ho2, hb_w2⟩; obtain ⟨hc_w2, hf_w2⟩ := bcell hb_w2; have hz_w2_w_0 : w.heap.size < w2.heap.size := (by have hzz := hb_w2.size; (try simp only [World.size_alloc, World.size_setCell, World.size_drew, World.heap_drewN] at hzz); omega); have hz_w2_w_1 : w.heap.size + 1 < w2.heap.size := (by have hzz := hb_w2.size; (try simp only [World.size_alloc, World.size_setCell, World.size_drew, World.heap_drewN] at hzz); omega); have q0 : w2.cell? ⟨w.heap.size, 0, none⟩ = some (.int .i64 n) := ((hc_w2 _ _ (by first | omega | (simp; omega) | simp)).trans ((hc_w1 _ _ (by first | omega | (simp; omega) | simp)).trans (by simp [go_sem]))); have q1 : w2.cell? ⟨w.heap.size, 1, none⟩ = some (.slice A ws.length cap) := ((hc_w2 _ _ (by first | omega | (simp; omega) | simp)).trans ((hc_w1 _ _ (by first | omega | (simp; omega) | simp)).trans (by simp [go_sem]))); have s0 : ∀ V, (w2.setCell ⟨w.heap.size, 0, none⟩ V).cell? ⟨w.heap.size, 0, none⟩ = some V := (fun V => World.cell?_setCell_same _ _ _ q0); have s1 : ∀ V V', ((w2.setCell ⟨w.heap.size, 0, none⟩ V).setCell ⟨w.heap.size, 1, none⟩ V').cell? ⟨w.heap.size, 1, none⟩ = some V' := (fun V V' => (set_two V V' q0 q1).2); have s2 : ∀ V V', ((w2.setCell ⟨w.heap.size, 0, none⟩ V).setCell ⟨w.heap.size, 1, none⟩ V').cell? ⟨w.heap.size, 0, none⟩ = some V := (fun V V' => (set_two V V' q0 q1).1); have k0 : w2.cell? ⟨w.heap.size + 1, 0, none⟩ = some (.int .i64 0) := ((hc_w2 _ _ (by first | omega | (simp; omega) | simp)).trans ((hc_w1 _ _ (by first | omega | (simp; omega) | simp)).trans (by simp [go_sem]))); have k1 : w2.cell? ⟨w.heap.size + 1, 1, none⟩ = some (.slice none 0 0) := ((hc_w2 _ _ (by first | omega | (simp; omega) | simp)).trans ((hc_w1 _ _ (by first | omega | (simp; omega) | simp)).trans (by simp [go_sem])))))
  exact bodyPost_ret (res_pages3 rfl rfl (set_two _ _ ((World.cell?_setCell_other _ _ _ _ (by intro e; injection e; omega)).trans ((World.cell?_setCell_other _ _ _ _ (by intro e; injection e; omega)).trans k0)) ((World.cell?_setCell_other _ _ _ _ (by intro e; injection e; omega)).trans ((World.cell?_setCell_other _ _ _ _ (by intro e; injection e; omega)).trans k1))).1 (set_two _ _ ((World.cell?_setCell_other _ _ _ _ (by intro e; injection e; omega)).trans ((World.cell?_setCell_other _ _ _ _ (by intro e; injection e; omega)).trans k0)) ((World.cell?_setCell_other _ _ _ _ (by intro e; injection e; omega)).trans ((World.cell?_setCell_other _ _ _ _ (by intro e; injection e; omega)).trans k1))).2) rfl ⟨A1, cap1, rfl, ((ho2.two (g := w.heap.size) (by first | omega | (simp; omega) | simp)).two (g := w.heap.size + 1) (by first | omega | (simp; omega) | simp)).mono (by first | omega | (simp; omega) | simp), (by repeat (first | exact Below.refl _ _ | assumption | (refine below_drewN ?_ _) | (refine Below.drew ?_) | (refine Below.alloc ?_ (by first | omega | (simp; omega) | simp) _) | (refine Below.setCell ?_ (by first | omega | (simp; omega) | simp) _) | (refine below_trans ?_ (by assumption) (by first | omega | (simp; omega) | simp))))⟩
theorem rtake_long (c : Int) (hr : Row w w.heap.size A ws) (h : Right n ws) (h1 : 1 ≤ c) (hc : n < c) :
    Calls Try.prog 12 #[.agg #[.int .i64 n, .slice A ws.length cap], .int .i64 c] w fun e w' => FreshT w n ws 0 6 e w' := by
  have hn := h.1
  have hn2 := h.2.1
  have hl := h.long
  have hl2 : ws.length ≤ 64 := right_len h
  have hl3 : ws.length ≤ 17592186044416 := by omega
  have hR := Lib.hid h
  clear h
  have hd : decide (c < 1) = false := by simpa using h1
  have hd1 : decide (n < c) = true := by simpa using hc
  go_enter Try.func12, Try.ntmps12
  go_wp2_with (first
      | (go_at_call 24; refine (rpcheck_ok _ (hr.later (by repeat (first | exact Below.refl _ _ | assumption | (refine below_drewN ?_ _) | (refine Below.drew ?_) | (refine Below.alloc ?_ (by first | omega | (simp; omega) | simp) _) | (refine Below.setCell ?_ (by first | omega | (simp; omega) | simp) _) | (refine below_trans ?_ (by assumption) (by first | omega | (simp; omega) | simp))))) hR.out).mono ?_; rintro e w1 ⟨rfl, hb_w1⟩; obtain ⟨hc_w1, hf_w1⟩ := bcell hb_w1; have hz_w1_w_0 : w.heap.size < w1.heap.size := (by have hzz := hb_w1.size; (try simp only [World.size_alloc, World.size_setCell, World.size_drew, World.heap_drewN] at hzz); omega); have hz_w1_w_1 : w.heap.size + 1 < w1.heap.size := (by have hzz := hb_w1.size; (try simp only [World.size_alloc, World.size_setCell, World.size_drew, World.heap_drewN] at hzz); omega))
      | (go_at_call 10; refine (rpcopy_any _ (hr.later (w' := w1) (by repeat (first | exact Below.refl _ _ | assumption | (refine below_drewN ?_ _) | (refine Below.drew ?_) | (refine Below.alloc ?_ (by first | omega | (simp; omega) | simp) _) | (refine Below.setCell ?_ (by first | omega | (simp; omega) | simp) _) | (refine below_trans ?_ (by assumption) (by first | omega | (simp; omega) | simp))))) hl3).mono ?_; rintro e w2 ⟨A1, cap1, rfl, ho2, hb_w2⟩; obtain ⟨hc_w2, hf_w2⟩ := bcell hb_w2; have hz_w2_w_0 : w.heap.size < w2.heap.size := (by have hzz := hb_w2.size; (try simp only [World.size_alloc, World.size_setCell, World.size_drew, World.heap_drewN] at hzz); omega); have hz_w2_w_1 : w.heap.size + 1 < w2.heap.size := (by have hzz := hb_w2.size; (try simp only [World.size_alloc, World.size_setCell, World.size_drew, World.heap_drewN] at hzz); omega); have q0 : w2.cell? ⟨w.heap.size, 0, none⟩ = some (.int .i64 n) := ((hc_w2 _ _ (by first | omega | (simp; omega) | simp)).trans ((hc_w1 _ _ (by first | omega | (simp; omega) | simp)).trans (by simp [go_sem]))); have q1 : w2.cell? ⟨w.heap.size, 1, none⟩ = some (.slice A ws.length cap) := ((hc_w2 _ _ (by first | omega | (simp; omega) | simp)).trans ((hc_w1 _ _ (by first | omega | (simp; omega) | simp)).trans (by simp [go_sem]))); have s0 : ∀ V, (w2.setCell ⟨w.heap.size, 0, none⟩ V).cell? ⟨w.heap.size, 0, none⟩ = some V := (fun V => World.cell?_setCell_same _ _ _ q0); have s1 : ∀ V V', ((w2.setCell ⟨w.heap.size, 0, none⟩ V).setCell ⟨w.heap.size, 1, none⟩ V').cell? ⟨w.heap.size, 1, none⟩ = some V' := (fun V V' => (set_two V V' q0 q1).2); have s2 : ∀ V V', ((w2.setCell ⟨w.heap.size, 0, none⟩ V).setCell ⟨w.heap.size, 1, none⟩ V').cell? ⟨w.heap.size, 0, none⟩ = some V := (fun V V' => (set_two V V' q0 q1).1); have k0 : w2.cell? ⟨w.heap.size + 1, 0, none⟩ = some (.int .i64 0) := ((hc_w2 _ _ (by first | omega | (simp; omega) | simp)).trans ((hc_w1 _ _ (by first | omega | (simp; omega) | simp)).trans (by simp [go_sem]))); have k1 : w2.cell? ⟨w.heap.size + 1, 1, none⟩ = some (.slice none 0 0) := ((hc_w2 _ _ (by first | omega | (simp; omega) | simp)).trans ((hc_w1 _ _ (by first | omega | (simp; omega) | simp)).trans (by simp [go_sem])))))
  exact bodyPost_ret (res_pages3 rfl rfl (set_two _ _ ((World.cell?_setCell_other _ _ _ _ (by intro e; injection e; omega)).trans ((World.cell?_setCell_other _ _ _ _ (by intro e; injection e; omega)).trans k0)) ((World.cell?_setCell_other _ _ _ _ (by intro e; injection e; omega)).trans ((World.cell?_setCell_other _ _ _ _ (by intro e; injection e; omega)).trans k1))).1 (set_two _ _ ((World.cell?_setCell_other _ _ _ _ (by intro e; injection e; omega)).trans ((World.cell?_setCell_other _ _ _ _ (by intro e; injection e; omega)).trans k0)) ((World.cell?_setCell_other _ _ _ _ (by intro e; injection e; omega)).trans ((World.cell?_setCell_other _ _ _ _ (by intro e; injection e; omega)).trans k1))).2) rfl ⟨A1, cap1, rfl, ((ho2.two (g := w.heap.size) (by first | omega | (simp; omega) | simp)).two (g := w.heap.size + 1) (by first | omega | (simp; omega) | simp)).mono (by first | omega | (simp; omega) | simp), (by repeat (first | exact Below.refl _ _ | assumption | (refine below_drewN ?_ _) | (refine Below.drew ?_) | (refine Below.alloc ?_ (by first | omega | (simp; omega) | simp) _) | (refine Below.setCell ?_ (by first | omega | (simp; omega) | simp) _) | (refine below_trans ?_ (by assumption) (by first | omega | (simp; omega) | simp))))⟩
set_option maxHeartbeats 2000000 in
theorem rtake_in (c : Int) (hr : Row w w.heap.size A ws) (h : Right n ws) (h1 : 1 ≤ c) (hc : c ≤ n) :
    Calls Try.prog 12 #[.agg #[.int .i64 n, .slice A ws.length cap], .int .i64 c] w fun e w' => (∃ i, FitP ws c n i 0 ∧ FreshT w n (fillW ws i.toNat c.toNat true) i 0 e w') ∨ (FitP ws c n 0 3 ∧ FreshT w n ws 0 6 e w') := by
  have hn := h.1
  have hn2 := h.2.1
  have hl := h.long
  have hl2 : ws.length ≤ 64 := right_len h
  have hl3 : ws.length ≤ 17592186044416 := by omega
  have hR := Lib.hid h
  clear h
  have hd : decide (c < 1) = false := by simpa using h1
  have hd1 : decide (n < c) = false := by simpa using hc
  go_enter Try.func12, Try.ntmps12
  go_wp2_with (first
      | (go_at_call 24; refine (rpcheck_ok _ (hr.later (by repeat (first | exact Below.refl _ _ | assumption | (refine below_drewN ?_ _) | (refine Below.drew ?_) | (refine Below.alloc ?_ (by first | omega | (simp; omega) | simp) _) | (refine Below.setCell ?_ (by first | omega | (simp; omega) | simp) _) | (refine below_trans ?_ (by assumption) (by first | omega | (simp; omega) | simp))))) hR.out).mono ?_; rintro e w1 ⟨rfl, hb_w1⟩; obtain ⟨hc_w1, hf_w1⟩ := bcell hb_w1; have hz_w1_w_0 : w.heap.size < w1.heap.size := (by have hzz := hb_w1.size; (try simp only [World.size_alloc, World.size_setCell, World.size_drew, World.heap_drewN] at hzz); omega); have hz_w1_w_1 : w.heap.size + 1 < w1.heap.size := (by have hzz := hb_w1.size; (try simp only [World.size_alloc, World.size_setCell, World.size_drew, World.heap_drewN] at hzz); omega))
      | (go_at_call 10; refine (rpcopy_any _ (hr.later (w' := w1) (by repeat (first | exact Below.refl _ _ | assumption | (refine below_drewN ?_ _) | (refine Below.drew ?_) | (refine Below.alloc ?_ (by first | omega | (simp; omega) | simp) _) | (refine Below.setCell ?_ (by first | omega | (simp; omega) | simp) _) | (refine below_trans ?_ (by assumption) (by first | omega | (simp; omega) | simp))))) hl3).mono ?_; rintro e w2 ⟨A1, cap1, rfl, ho2, hb_w2⟩; obtain ⟨hc_w2, hf_w2⟩ := bcell hb_w2; have hz_w2_w_0 : w.heap.size < w2.heap.size := (by have hzz := hb_w2.size; (try simp only [World.size_alloc, World.size_setCell, World.size_drew, World.heap_drewN] at hzz); omega); have hz_w2_w_1 : w.heap.size + 1 < w2.heap.size := (by have hzz := hb_w2.size; (try simp only [World.size_alloc, World.size_setCell, World.size_drew, World.heap_drewN] at hzz); omega); have q0 : w2.cell? ⟨w.heap.size, 0, none⟩ = some (.int .i64 n) := ((hc_w2 _ _ (by first | omega | (simp; omega) | simp)).trans ((hc_w1 _ _ (by first | omega | (simp; omega) | simp)).trans (by simp [go_sem]))); have q1 : w2.cell? ⟨w.heap.size, 1, none⟩ = some (.slice A ws.length cap) := ((hc_w2 _ _ (by first | omega | (simp; omega) | simp)).trans ((hc_w1 _ _ (by first | omega | (simp; omega) | simp)).trans (by simp [go_sem]))); have s0 : ∀ V, (w2.setCell ⟨w.heap.size, 0, none⟩ V).cell? ⟨w.heap.size, 0, none⟩ = some V := (fun V => World.cell?_setCell_same _ _ _ q0); have s1 : ∀ V V', ((w2.setCell ⟨w.heap.size, 0, none⟩ V).setCell ⟨w.heap.size, 1, none⟩ V').cell? ⟨w.heap.size, 1, none⟩ = some V' := (fun V V' => (set_two V V' q0 q1).2); have s2 : ∀ V V', ((w2.setCell ⟨w.heap.size, 0, none⟩ V).setCell ⟨w.heap.size, 1, none⟩ V').cell? ⟨w.heap.size, 0, none⟩ = some V := (fun V V' => (set_two V V' q0 q1).1); have k0 : w2.cell? ⟨w.heap.size + 1, 0, none⟩ = some (.int .i64 0) := ((hc_w2 _ _ (by first | omega | (simp; omega) | simp)).trans ((hc_w1 _ _ (by first | omega | (simp; omega) | simp)).trans (by simp [go_sem]))); have k1 : w2.cell? ⟨w.heap.size + 1, 1, none⟩ = some (.slice none 0 0) := ((hc_w2 _ _ (by first | omega | (simp; omega) | simp)).trans ((hc_w1 _ _ (by first | omega | (simp; omega) | simp)).trans (by simp [go_sem])))))
  simp only [World.size_alloc] at hb_w1
  have t0 : Two w2 w.heap.size (.int .i64 n) (.slice A ws.length cap) := (((Two.new w _ _ _).old (by first | omega | (simp; omega) | simp) _).below hb_w1 (by first | omega | (simp; omega) | simp)).below hb_w2 (by first | omega | (simp; omega) | simp)
  have t1 : Two w2 (w.heap.size + 1) (.int .i64 0) (.slice none 0 0) := ((by have h := Two.new (w.alloc (.cells #[.int .i64 n, .slice A ws.length cap] 26)) (.int .i64 0) (.slice none 0 0) 26; rw [World.size_alloc] at h; exact h : Two _ (w.heap.size + 1) _ _).below hb_w1 (by first | omega | (simp; omega) | simp)).below hb_w2 (by first | omega | (simp; omega) | simp)
  go_loopw [7] (fun i wr => ∃ k : Nat, i = .int .i64 (k : Nat) ∧ (k : Int) + c ≤ n + 1 ∧ (∀ j : Nat, j < k → ¬ FitAt ws j c.toNat) ∧ Own wr (w.heap.size + 2) A1 ws ∧ Two wr w.heap.size (.int .i64 n) (.slice A1 ws.length cap1) ∧
      Two wr (w.heap.size + 1) (.int .i64 0) (.slice none 0 0) ∧ w.heap.size + 2 ≤ wr.heap.size ∧ Below w.heap.size w wr) (fun i _ => (n + 1 - c - intOf i).toNat)
  case atStart => exact ⟨0, rfl, by omega, fun j hj => by omega, ((ho2.mono (by first | omega | (simp; omega) | simp)).two (by first | omega | (simp; omega) | simp)), t0.set_ _ _, t1.far (by first | omega | (simp; omega) | simp) _ _, (by first | omega | (simp; omega) | simp), (by repeat (first | exact Below.refl _ _ | assumption | (refine below_drewN ?_ _) | (refine Below.drew ?_) | (refine Below.alloc ?_ (by first | omega | (simp; omega) | simp) _) | (refine Below.setCell ?_ (by first | omega | (simp; omega) | simp) _) | (refine below_trans ?_ (by assumption) (by first | omega | (simp; omega) | simp))))⟩
  case round =>
    obtain ⟨k, rfl, hk, hN, hO, hT0, hT1, hsz, hb_wr⟩ := hrel
    obtain ⟨q0', q1', hf0⟩ := id hT0
    have HN := Lib.hid hN
    clear hN
    by_cases hlt : (k : Int) + c ≤ n
    · have hle : decide ((k : Int) ≤ n - c) = true := by simp; omega
      go_wp2_with fail
      go_at_call 31
      refine (rpfree_any cap1 k c ws.length rfl hO.row hR.out h1 (by omega)).mono ?_
      rintro e w3 ⟨⟨b, rfl, hbf⟩, hb_w3⟩
      obtain ⟨hc_w3, hf_w3⟩ := bcell hb_w3
      have hs_w3 := hb_w3.size
      have HB := Lib.hid hbf
      clear hbf
      have T0 := hT0.below hb_w3 (by omega)
      have T1 := hT1.below hb_w3 (by omega)
      have O3 := hO.later hb_w3
      clear hT0 hT1 hO q0' q1' hf0
      obtain ⟨x0, x1, hx⟩ := id T0
      cases b
      · go_wp2
        go_roundw
        case rel => exact ⟨k + 1, by go_num, by omega, fun j hj => by
            by_cases e : j = k
            · rw [e]; exact fun hf => absurd (HB.out.2 hf) (by simp)
            · exact HN.out j (by omega), O3, T0, T1, by omega, (by repeat (first | exact Below.refl _ _ | assumption | (refine below_drewN ?_ _) | (refine Below.drew ?_) | (refine Below.alloc ?_ (by first | omega | (simp; omega) | simp) _) | (refine Below.setCell ?_ (by first | omega | (simp; omega) | simp) _) | (refine below_trans ?_ (by assumption) (by first | omega | (simp; omega) | simp))))⟩
        case measure => simp [intOf]; omega
      · go_wp2_with fail
        go_at_call 32
        refine (rfill_in cap1 (k : Nat) c true O3.row hR.out (by omega) (by omega) (by omega)).mono ?_
        rintro e w4 ⟨A4, cap4, rfl, ho4, hb_w4⟩
        obtain ⟨hc_w4, hf_w4⟩ := bcell hb_w4
        have hs_w4 := hb_w4.size
        have U0 := T0.below hb_w4 (by omega)
        have U1 := T1.below hb_w4 (by omega)
        obtain ⟨y0, y1, hy⟩ := id U0
        obtain ⟨z0, z1, hz⟩ := id U1
        have s0' : ∀ V, (w4.setCell ⟨w.heap.size, 0, none⟩ V).cell? ⟨w.heap.size, 0, none⟩ = some V := (fun V => World.cell?_setCell_same _ _ _ y0)
        have s1' : ∀ V V', ((w4.setCell ⟨w.heap.size, 0, none⟩ V).setCell ⟨w.heap.size, 1, none⟩ V').cell? ⟨w.heap.size, 1, none⟩ = some V' := (fun V V' => (set_two V V' y0 y1).2)
        have s2' : ∀ V V', ((w4.setCell ⟨w.heap.size, 0, none⟩ V).setCell ⟨w.heap.size, 1, none⟩ V').cell? ⟨w.heap.size, 0, none⟩ = some V := (fun V V' => (set_two V V' y0 y1).1)
        go_wp2
        have F := (U1.far (g' := w.heap.size) (by first | omega | (simp; omega) | simp) (.int .i64 n) (.slice A4 (fillW ws k c.toNat true).length cap4)).set_ (.int .i64 n) (.slice A4 (fillW ws k c.toNat true).length cap4)
        refine bodyPost_ret (res_pages3 rfl rfl F.c0 F.c1) rfl (.inl ⟨(k : Nat), .inl ⟨rfl, by omega, hlt, HB.out.1 (by simp), fun j hj => HN.out j (by omega)⟩, A4, cap4, rfl, ?_, (by repeat (first | exact Below.refl _ _ | assumption | (refine below_drewN ?_ _) | (refine Below.drew ?_) | (refine Below.alloc ?_ (by first | omega | (simp; omega) | simp) _) | (refine Below.setCell ?_ (by first | omega | (simp; omega) | simp) _) | (refine below_trans ?_ (by assumption) (by first | omega | (simp; omega) | simp))))⟩)
        exact ((ho4.two (g := w.heap.size) (by first | omega | (simp; omega) | simp)).two (g := w.heap.size + 1) (by first | omega | (simp; omega) | simp)).mono (by first | omega | (simp; omega) | simp)
    · have hle : decide ((k : Int) ≤ n - c) = false := by simp; omega
      obtain ⟨z0, z1, hf1⟩ := id hT1
      go_wp2
      exact bodyPost_ret (res_pages3 rfl rfl (hT1.set_ _ _).c0 (hT1.set_ _ _).c1) rfl (.inr ⟨.inr ⟨rfl, rfl, fun j hj => HN.out j (by omega)⟩, A1, cap1, rfl, (hO.two (g := w.heap.size + 1) (by first | omega | (simp; omega) | simp)).mono (by first | omega | (simp; omega) | simp), (by repeat (first | exact Below.refl _ _ | assumption | (refine below_drewN ?_ _) | (refine Below.drew ?_) | (refine Below.alloc ?_ (by first | omega | (simp; omega) | simp) _) | (refine Below.setCell ?_ (by first | omega | (simp; omega) | simp) _) | (refine below_trans ?_ (by assumption) (by first | omega | (simp; omega) | simp))))⟩)
set_option maxHeartbeats 1000000 in
theorem rgive_out (a c : Int) (hr : Row w w.heap.size A ws) (h : Right n ws) (hi : ¬ (0 ≤ a ∧ 1 ≤ c ∧ c ≤ n - a)) :
    Calls Try.prog 14 #[.agg #[.int .i64 n, .slice A ws.length cap], .int .i64 a, .int .i64 c] w fun e w' => Fresh w n ws 1 e w' := by
  have hn := h.1
  have hn2 := h.2.1
  have hl := h.long
  have hl2 : ws.length ≤ 64 := right_len h
  have hl3 : ws.length ≤ 17592186044416 := by omega
  have hR := Lib.hid h
  clear h
  by_cases g0 : a < 0
  · have hd0 : decide (a < 0) = true := by simp; omega
    clear hi
    go_enter Try.func14, Try.ntmps14
    go_wp2_with (first
        | (go_at_call 24; refine (rpcheck_ok _ (hr.later (by repeat (first | exact Below.refl _ _ | assumption | (refine below_drewN ?_ _) | (refine Below.drew ?_) | (refine Below.alloc ?_ (by first | omega | (simp; omega) | simp) _) | (refine Below.setCell ?_ (by first | omega | (simp; omega) | simp) _) | (refine below_trans ?_ (by assumption) (by first | omega | (simp; omega) | simp))))) hR.out).mono ?_; rintro e w1 ⟨rfl, hb_w1⟩; obtain ⟨hc_w1, hf_w1⟩ := bcell hb_w1; have hz_w1_w_0 : w.heap.size < w1.heap.size := (by have hzz := hb_w1.size; (try simp only [World.size_alloc, World.size_setCell, World.size_drew, World.heap_drewN] at hzz); omega); have hz_w1_w_1 : w.heap.size + 1 < w1.heap.size := (by have hzz := hb_w1.size; (try simp only [World.size_alloc, World.size_setCell, World.size_drew, World.heap_drewN] at hzz); omega))
        | (go_at_call 10; refine (rpcopy_any _ (hr.later (w' := w1) (by repeat (first | exact Below.refl _ _ | assumption | (refine below_drewN ?_ _) | (refine Below.drew ?_) | (refine Below.alloc ?_ (by first | omega | (simp; omega) | simp) _) | (refine Below.setCell ?_ (by first | omega | (simp; omega) | simp) _) | (refine below_trans ?_ (by assumption) (by first | omega | (simp; omega) | simp))))) hl3).mono ?_; rintro e w2 ⟨A1, cap1, rfl, ho2, hb_w2⟩; obtain ⟨hc_w2, hf_w2⟩ := bcell hb_w2; have hz_w2_w_0 : w.heap.size < w2.heap.size := (by have hzz := hb_w2.size; (try simp only [World.size_alloc, World.size_setCell, World.size_drew, World.heap_drewN] at hzz); omega); have hz_w2_w_1 : w.heap.size + 1 < w2.heap.size := (by have hzz := hb_w2.size; (try simp only [World.size_alloc, World.size_setCell, World.size_drew, World.heap_drewN] at hzz); omega); have q0 : w2.cell? ⟨w.heap.size, 0, none⟩ = some (.int .i64 n) := ((hc_w2 _ _ (by first | omega | (simp; omega) | simp)).trans ((hc_w1 _ _ (by first | omega | (simp; omega) | simp)).trans (by simp [go_sem]))); have q1 : w2.cell? ⟨w.heap.size, 1, none⟩ = some (.slice A ws.length cap) := ((hc_w2 _ _ (by first | omega | (simp; omega) | simp)).trans ((hc_w1 _ _ (by first | omega | (simp; omega) | simp)).trans (by simp [go_sem]))); have s0 : ∀ V, (w2.setCell ⟨w.heap.size, 0, none⟩ V).cell? ⟨w.heap.size, 0, none⟩ = some V := (fun V => World.cell?_setCell_same _ _ _ q0); have s1 : ∀ V V', ((w2.setCell ⟨w.heap.size, 0, none⟩ V).setCell ⟨w.heap.size, 1, none⟩ V').cell? ⟨w.heap.size, 1, none⟩ = some V' := (fun V V' => (set_two V V' q0 q1).2); have s2 : ∀ V V', ((w2.setCell ⟨w.heap.size, 0, none⟩ V).setCell ⟨w.heap.size, 1, none⟩ V').cell? ⟨w.heap.size, 0, none⟩ = some V := (fun V V' => (set_two V V' q0 q1).1); have k0 : w2.cell? ⟨w.heap.size + 1, 0, none⟩ = some (.int .i64 0) := ((hc_w2 _ _ (by first | omega | (simp; omega) | simp)).trans ((hc_w1 _ _ (by first | omega | (simp; omega) | simp)).trans (by simp [go_sem]))); have k1 : w2.cell? ⟨w.heap.size + 1, 1, none⟩ = some (.slice none 0 0) := ((hc_w2 _ _ (by first | omega | (simp; omega) | simp)).trans ((hc_w1 _ _ (by first | omega | (simp; omega) | simp)).trans (by simp [go_sem])))))
    exact bodyPost_ret (res_pages2 rfl rfl (set_two _ _ ((World.cell?_setCell_other _ _ _ _ (by intro e; injection e; omega)).trans ((World.cell?_setCell_other _ _ _ _ (by intro e; injection e; omega)).trans k0)) ((World.cell?_setCell_other _ _ _ _ (by intro e; injection e; omega)).trans ((World.cell?_setCell_other _ _ _ _ (by intro e; injection e; omega)).trans k1))).1 (set_two _ _ ((World.cell?_setCell_other _ _ _ _ (by intro e; injection e; omega)).trans ((World.cell?_setCell_other _ _ _ _ (by intro e; injection e; omega)).trans k0)) ((World.cell?_setCell_other _ _ _ _ (by intro e; injection e; omega)).trans ((World.cell?_setCell_other _ _ _ _ (by intro e; injection e; omega)).trans k1))).2) rfl ⟨A1, cap1, rfl, ((ho2.two (g := w.heap.size) (by first | omega | (simp; omega) | simp)).two (g := w.heap.size + 1) (by first | omega | (simp; omega) | simp)).mono (by first | omega | (simp; omega) | simp), (by repeat (first | exact Below.refl _ _ | assumption | (refine below_drewN ?_ _) | (refine Below.drew ?_) | (refine Below.alloc ?_ (by first | omega | (simp; omega) | simp) _) | (refine Below.setCell ?_ (by first | omega | (simp; omega) | simp) _) | (refine below_trans ?_ (by assumption) (by first | omega | (simp; omega) | simp))))⟩
  have hd0 : decide (a < 0) = false := by simpa using g0
  by_cases g1 : c < 1
  · have hd1 : decide (c < 1) = true := by simp; omega
    clear hi
    go_enter Try.func14, Try.ntmps14
    go_wp2_with (first
        | (go_at_call 24; refine (rpcheck_ok _ (hr.later (by repeat (first | exact Below.refl _ _ | assumption | (refine below_drewN ?_ _) | (refine Below.drew ?_) | (refine Below.alloc ?_ (by first | omega | (simp; omega) | simp) _) | (refine Below.setCell ?_ (by first | omega | (simp; omega) | simp) _) | (refine below_trans ?_ (by assumption) (by first | omega | (simp; omega) | simp))))) hR.out).mono ?_; rintro e w1 ⟨rfl, hb_w1⟩; obtain ⟨hc_w1, hf_w1⟩ := bcell hb_w1; have hz_w1_w_0 : w.heap.size < w1.heap.size := (by have hzz := hb_w1.size; (try simp only [World.size_alloc, World.size_setCell, World.size_drew, World.heap_drewN] at hzz); omega); have hz_w1_w_1 : w.heap.size + 1 < w1.heap.size := (by have hzz := hb_w1.size; (try simp only [World.size_alloc, World.size_setCell, World.size_drew, World.heap_drewN] at hzz); omega))
        | (go_at_call 10; refine (rpcopy_any _ (hr.later (w' := w1) (by repeat (first | exact Below.refl _ _ | assumption | (refine below_drewN ?_ _) | (refine Below.drew ?_) | (refine Below.alloc ?_ (by first | omega | (simp; omega) | simp) _) | (refine Below.setCell ?_ (by first | omega | (simp; omega) | simp) _) | (refine below_trans ?_ (by assumption) (by first | omega | (simp; omega) | simp))))) hl3).mono ?_; rintro e w2 ⟨A1, cap1, rfl, ho2, hb_w2⟩; obtain ⟨hc_w2, hf_w2⟩ := bcell hb_w2; have hz_w2_w_0 : w.heap.size < w2.heap.size := (by have hzz := hb_w2.size; (try simp only [World.size_alloc, World.size_setCell, World.size_drew, World.heap_drewN] at hzz); omega); have hz_w2_w_1 : w.heap.size + 1 < w2.heap.size := (by have hzz := hb_w2.size; (try simp only [World.size_alloc, World.size_setCell, World.size_drew, World.heap_drewN] at hzz); omega); have q0 : w2.cell? ⟨w.heap.size, 0, none⟩ = some (.int .i64 n) := ((hc_w2 _ _ (by first | omega | (simp; omega) | simp)).trans ((hc_w1 _ _ (by first | omega | (simp; omega) | simp)).trans (by simp [go_sem]))); have q1 : w2.cell? ⟨w.heap.size, 1, none⟩ = some (.slice A ws.length cap) := ((hc_w2 _ _ (by first | omega | (simp; omega) | simp)).trans ((hc_w1 _ _ (by first | omega | (simp; omega) | simp)).trans (by simp [go_sem]))); have s0 : ∀ V, (w2.setCell ⟨w.heap.size, 0, none⟩ V).cell? ⟨w.heap.size, 0, none⟩ = some V := (fun V => World.cell?_setCell_same _ _ _ q0); have s1 : ∀ V V', ((w2.setCell ⟨w.heap.size, 0, none⟩ V).setCell ⟨w.heap.size, 1, none⟩ V').cell? ⟨w.heap.size, 1, none⟩ = some V' := (fun V V' => (set_two V V' q0 q1).2); have s2 : ∀ V V', ((w2.setCell ⟨w.heap.size, 0, none⟩ V).setCell ⟨w.heap.size, 1, none⟩ V').cell? ⟨w.heap.size, 0, none⟩ = some V := (fun V V' => (set_two V V' q0 q1).1); have k0 : w2.cell? ⟨w.heap.size + 1, 0, none⟩ = some (.int .i64 0) := ((hc_w2 _ _ (by first | omega | (simp; omega) | simp)).trans ((hc_w1 _ _ (by first | omega | (simp; omega) | simp)).trans (by simp [go_sem]))); have k1 : w2.cell? ⟨w.heap.size + 1, 1, none⟩ = some (.slice none 0 0) := ((hc_w2 _ _ (by first | omega | (simp; omega) | simp)).trans ((hc_w1 _ _ (by first | omega | (simp; omega) | simp)).trans (by simp [go_sem])))))
    exact bodyPost_ret (res_pages2 rfl rfl (set_two _ _ ((World.cell?_setCell_other _ _ _ _ (by intro e; injection e; omega)).trans ((World.cell?_setCell_other _ _ _ _ (by intro e; injection e; omega)).trans k0)) ((World.cell?_setCell_other _ _ _ _ (by intro e; injection e; omega)).trans ((World.cell?_setCell_other _ _ _ _ (by intro e; injection e; omega)).trans k1))).1 (set_two _ _ ((World.cell?_setCell_other _ _ _ _ (by intro e; injection e; omega)).trans ((World.cell?_setCell_other _ _ _ _ (by intro e; injection e; omega)).trans k0)) ((World.cell?_setCell_other _ _ _ _ (by intro e; injection e; omega)).trans ((World.cell?_setCell_other _ _ _ _ (by intro e; injection e; omega)).trans k1))).2) rfl ⟨A1, cap1, rfl, ((ho2.two (g := w.heap.size) (by first | omega | (simp; omega) | simp)).two (g := w.heap.size + 1) (by first | omega | (simp; omega) | simp)).mono (by first | omega | (simp; omega) | simp), (by repeat (first | exact Below.refl _ _ | assumption | (refine below_drewN ?_ _) | (refine Below.drew ?_) | (refine Below.alloc ?_ (by first | omega | (simp; omega) | simp) _) | (refine Below.setCell ?_ (by first | omega | (simp; omega) | simp) _) | (refine below_trans ?_ (by assumption) (by first | omega | (simp; omega) | simp))))⟩
  have hd1 : decide (c < 1) = false := by simpa using g1
  by_cases g2 : n < c
  · have hd2 : decide (n < c) = true := by simp; omega
    clear hi
    go_enter Try.func14, Try.ntmps14
    go_wp2_with (first
        | (go_at_call 24; refine (rpcheck_ok _ (hr.later (by repeat (first | exact Below.refl _ _ | assumption | (refine below_drewN ?_ _) | (refine Below.drew ?_) | (refine Below.alloc ?_ (by first | omega | (simp; omega) | simp) _) | (refine Below.setCell ?_ (by first | omega | (simp; omega) | simp) _) | (refine below_trans ?_ (by assumption) (by first | omega | (simp; omega) | simp))))) hR.out).mono ?_; rintro e w1 ⟨rfl, hb_w1⟩; obtain ⟨hc_w1, hf_w1⟩ := bcell hb_w1; have hz_w1_w_0 : w.heap.size < w1.heap.size := (by have hzz := hb_w1.size; (try simp only [World.size_alloc, World.size_setCell, World.size_drew, World.heap_drewN] at hzz); omega); have hz_w1_w_1 : w.heap.size + 1 < w1.heap.size := (by have hzz := hb_w1.size; (try simp only [World.size_alloc, World.size_setCell, World.size_drew, World.heap_drewN] at hzz); omega))
        | (go_at_call 10; refine (rpcopy_any _ (hr.later (w' := w1) (by repeat (first | exact Below.refl _ _ | assumption | (refine below_drewN ?_ _) | (refine Below.drew ?_) | (refine Below.alloc ?_ (by first | omega | (simp; omega) | simp) _) | (refine Below.setCell ?_ (by first | omega | (simp; omega) | simp) _) | (refine below_trans ?_ (by assumption) (by first | omega | (simp; omega) | simp))))) hl3).mono ?_; rintro e w2 ⟨A1, cap1, rfl, ho2, hb_w2⟩; obtain ⟨hc_w2, hf_w2⟩ := bcell hb_w2; have hz_w2_w_0 : w.heap.size < w2.heap.size := (by have hzz := hb_w2.size; (try simp only [World.size_alloc, World.size_setCell, World.size_drew, World.heap_drewN] at hzz); omega); have hz_w2_w_1 : w.heap.size + 1 < w2.heap.size := (by have hzz := hb_w2.size; (try simp only [World.size_alloc, World.size_setCell, World.size_drew, World.heap_drewN] at hzz); omega); have q0 : w2.cell? ⟨w.heap.size, 0, none⟩ = some (.int .i64 n) := ((hc_w2 _ _ (by first | omega | (simp; omega) | simp)).trans ((hc_w1 _ _ (by first | omega | (simp; omega) | simp)).trans (by simp [go_sem]))); have q1 : w2.cell? ⟨w.heap.size, 1, none⟩ = some (.slice A ws.length cap) := ((hc_w2 _ _ (by first | omega | (simp; omega) | simp)).trans ((hc_w1 _ _ (by first | omega | (simp; omega) | simp)).trans (by simp [go_sem]))); have s0 : ∀ V, (w2.setCell ⟨w.heap.size, 0, none⟩ V).cell? ⟨w.heap.size, 0, none⟩ = some V := (fun V => World.cell?_setCell_same _ _ _ q0); have s1 : ∀ V V', ((w2.setCell ⟨w.heap.size, 0, none⟩ V).setCell ⟨w.heap.size, 1, none⟩ V').cell? ⟨w.heap.size, 1, none⟩ = some V' := (fun V V' => (set_two V V' q0 q1).2); have s2 : ∀ V V', ((w2.setCell ⟨w.heap.size, 0, none⟩ V).setCell ⟨w.heap.size, 1, none⟩ V').cell? ⟨w.heap.size, 0, none⟩ = some V := (fun V V' => (set_two V V' q0 q1).1); have k0 : w2.cell? ⟨w.heap.size + 1, 0, none⟩ = some (.int .i64 0) := ((hc_w2 _ _ (by first | omega | (simp; omega) | simp)).trans ((hc_w1 _ _ (by first | omega | (simp; omega) | simp)).trans (by simp [go_sem]))); have k1 : w2.cell? ⟨w.heap.size + 1, 1, none⟩ = some (.slice none 0 0) := ((hc_w2 _ _ (by first | omega | (simp; omega) | simp)).trans ((hc_w1 _ _ (by first | omega | (simp; omega) | simp)).trans (by simp [go_sem])))))
    exact bodyPost_ret (res_pages2 rfl rfl (set_two _ _ ((World.cell?_setCell_other _ _ _ _ (by intro e; injection e; omega)).trans ((World.cell?_setCell_other _ _ _ _ (by intro e; injection e; omega)).trans k0)) ((World.cell?_setCell_other _ _ _ _ (by intro e; injection e; omega)).trans ((World.cell?_setCell_other _ _ _ _ (by intro e; injection e; omega)).trans k1))).1 (set_two _ _ ((World.cell?_setCell_other _ _ _ _ (by intro e; injection e; omega)).trans ((World.cell?_setCell_other _ _ _ _ (by intro e; injection e; omega)).trans k0)) ((World.cell?_setCell_other _ _ _ _ (by intro e; injection e; omega)).trans ((World.cell?_setCell_other _ _ _ _ (by intro e; injection e; omega)).trans k1))).2) rfl ⟨A1, cap1, rfl, ((ho2.two (g := w.heap.size) (by first | omega | (simp; omega) | simp)).two (g := w.heap.size + 1) (by first | omega | (simp; omega) | simp)).mono (by first | omega | (simp; omega) | simp), (by repeat (first | exact Below.refl _ _ | assumption | (refine below_drewN ?_ _) | (refine Below.drew ?_) | (refine Below.alloc ?_ (by first | omega | (simp; omega) | simp) _) | (refine Below.setCell ?_ (by first | omega | (simp; omega) | simp) _) | (refine below_trans ?_ (by assumption) (by first | omega | (simp; omega) | simp))))⟩
  have hd2 : decide (n < c) = false := by simpa using g2
  have hd3 : decide (n - c < a) = true := by simp; omega
  clear hi
  go_enter Try.func14, Try.ntmps14
  go_wp2_with (first
        | (go_at_call 24; refine (rpcheck_ok _ (hr.later (by repeat (first | exact Below.refl _ _ | assumption | (refine below_drewN ?_ _) | (refine Below.drew ?_) | (refine Below.alloc ?_ (by first | omega | (simp; omega) | simp) _) | (refine Below.setCell ?_ (by first | omega | (simp; omega) | simp) _) | (refine below_trans ?_ (by assumption) (by first | omega | (simp; omega) | simp))))) hR.out).mono ?_; rintro e w1 ⟨rfl, hb_w1⟩; obtain ⟨hc_w1, hf_w1⟩ := bcell hb_w1; have hz_w1_w_0 : w.heap.size < w1.heap.size := (by have hzz := hb_w1.size; (try simp only [World.size_alloc, World.size_setCell, World.size_drew, World.heap_drewN] at hzz); omega); have hz_w1_w_1 : w.heap.size + 1 < w1.heap.size := (by have hzz := hb_w1.size; (try simp only [World.size_alloc, World.size_setCell, World.size_drew, World.heap_drewN] at hzz); omega))
        | (go_at_call 10; refine (rpcopy_any _ (hr.later (w' := w1) (by repeat (first | exact Below.refl _ _ | assumption | (refine below_drewN ?_ _) | (refine Below.drew ?_) | (refine Below.alloc ?_ (by first | omega | (simp; omega) | simp) _) | (refine Below.setCell ?_ (by first | omega | (simp; omega) | simp) _) | (refine below_trans ?_ (by assumption) (by first | omega | (simp; omega) | simp))))) hl3).mono ?_; rintro e w2 ⟨A1, cap1, rfl, ho2, hb_w2⟩; obtain ⟨hc_w2, hf_w2⟩ := bcell hb_w2; have hz_w2_w_0 : w.heap.size < w2.heap.size := (by have hzz := hb_w2.size; (try simp only [World.size_alloc, World.size_setCell, World.size_drew, World.heap_drewN] at hzz); omega); have hz_w2_w_1 : w.heap.size + 1 < w2.heap.size := (by have hzz := hb_w2.size; (try simp only [World.size_alloc, World.size_setCell, World.size_drew, World.heap_drewN] at hzz); omega); have q0 : w2.cell? ⟨w.heap.size, 0, none⟩ = some (.int .i64 n) := ((hc_w2 _ _ (by first | omega | (simp; omega) | simp)).trans ((hc_w1 _ _ (by first | omega | (simp; omega) | simp)).trans (by simp [go_sem]))); have q1 : w2.cell? ⟨w.heap.size, 1, none⟩ = some (.slice A ws.length cap) := ((hc_w2 _ _ (by first | omega | (simp; omega) | simp)).trans ((hc_w1 _ _ (by first | omega | (simp; omega) | simp)).trans (by simp [go_sem]))); have s0 : ∀ V, (w2.setCell ⟨w.heap.size, 0, none⟩ V).cell? ⟨w.heap.size, 0, none⟩ = some V := (fun V => World.cell?_setCell_same _ _ _ q0); have s1 : ∀ V V', ((w2.setCell ⟨w.heap.size, 0, none⟩ V).setCell ⟨w.heap.size, 1, none⟩ V').cell? ⟨w.heap.size, 1, none⟩ = some V' := (fun V V' => (set_two V V' q0 q1).2); have s2 : ∀ V V', ((w2.setCell ⟨w.heap.size, 0, none⟩ V).setCell ⟨w.heap.size, 1, none⟩ V').cell? ⟨w.heap.size, 0, none⟩ = some V := (fun V V' => (set_two V V' q0 q1).1); have k0 : w2.cell? ⟨w.heap.size + 1, 0, none⟩ = some (.int .i64 0) := ((hc_w2 _ _ (by first | omega | (simp; omega) | simp)).trans ((hc_w1 _ _ (by first | omega | (simp; omega) | simp)).trans (by simp [go_sem]))); have k1 : w2.cell? ⟨w.heap.size + 1, 1, none⟩ = some (.slice none 0 0) := ((hc_w2 _ _ (by first | omega | (simp; omega) | simp)).trans ((hc_w1 _ _ (by first | omega | (simp; omega) | simp)).trans (by simp [go_sem])))))
  exact bodyPost_ret (res_pages2 rfl rfl (set_two _ _ ((World.cell?_setCell_other _ _ _ _ (by intro e; injection e; omega)).trans ((World.cell?_setCell_other _ _ _ _ (by intro e; injection e; omega)).trans k0)) ((World.cell?_setCell_other _ _ _ _ (by intro e; injection e; omega)).trans ((World.cell?_setCell_other _ _ _ _ (by intro e; injection e; omega)).trans k1))).1 (set_two _ _ ((World.cell?_setCell_other _ _ _ _ (by intro e; injection e; omega)).trans ((World.cell?_setCell_other _ _ _ _ (by intro e; injection e; omega)).trans k0)) ((World.cell?_setCell_other _ _ _ _ (by intro e; injection e; omega)).trans ((World.cell?_setCell_other _ _ _ _ (by intro e; injection e; omega)).trans k1))).2) rfl ⟨A1, cap1, rfl, ((ho2.two (g := w.heap.size) (by first | omega | (simp; omega) | simp)).two (g := w.heap.size + 1) (by first | omega | (simp; omega) | simp)).mono (by first | omega | (simp; omega) | simp), (by repeat (first | exact Below.refl _ _ | assumption | (refine below_drewN ?_ _) | (refine Below.drew ?_) | (refine Below.alloc ?_ (by first | omega | (simp; omega) | simp) _) | (refine Below.setCell ?_ (by first | omega | (simp; omega) | simp) _) | (refine below_trans ?_ (by assumption) (by first | omega | (simp; omega) | simp))))⟩
set_option maxHeartbeats 2000000 in
theorem rgive_in (a : Nat) (c : Int) (hr : Row w w.heap.size A ws) (h : Right n ws) (h1 : 1 ≤ c) (h2 : c ≤ n - a) :
    Calls Try.prog 14 #[.agg #[.int .i64 n, .slice A ws.length cap], .int .i64 a, .int .i64 c] w fun e w' => ((∀ j : Nat, (a : Int) ≤ j → (j : Int) < a + c → tb ws j = true) ∧ Fresh w n (fillW ws a c.toNat false) 0 e w') ∨ ((∃ j : Nat, (a : Int) ≤ j ∧ (j : Int) < a + c ∧ tb ws j = false) ∧ Fresh w n ws 5 e w') := by
  have hn := h.1
  have hn2 := h.2.1
  have hl := h.long
  have hl2 : ws.length ≤ 64 := right_len h
  have hl3 : ws.length ≤ 17592186044416 := by omega
  have hR := Lib.hid h
  clear h
  have hd0 : decide ((a : Int) < 0) = false := decide_eq_false (by omega)
  have hd1 : decide (c < 1) = false := by simpa using h1
  have hd2 : decide (n < c) = false := by simp; omega
  have hd3 : decide (n - c < (a : Int)) = false := by simp; omega
  go_enter Try.func14, Try.ntmps14
  go_wp2_with (first
      | (go_at_call 24; refine (rpcheck_ok _ (hr.later (by repeat (first | exact Below.refl _ _ | assumption | (refine below_drewN ?_ _) | (refine Below.drew ?_) | (refine Below.alloc ?_ (by first | omega | (simp; omega) | simp) _) | (refine Below.setCell ?_ (by first | omega | (simp; omega) | simp) _) | (refine below_trans ?_ (by assumption) (by first | omega | (simp; omega) | simp))))) hR.out).mono ?_; rintro e w1 ⟨rfl, hb_w1⟩; obtain ⟨hc_w1, hf_w1⟩ := bcell hb_w1; have hz_w1_w_0 : w.heap.size < w1.heap.size := (by have hzz := hb_w1.size; (try simp only [World.size_alloc, World.size_setCell, World.size_drew, World.heap_drewN] at hzz); omega); have hz_w1_w_1 : w.heap.size + 1 < w1.heap.size := (by have hzz := hb_w1.size; (try simp only [World.size_alloc, World.size_setCell, World.size_drew, World.heap_drewN] at hzz); omega))
      | (go_at_call 10; refine (rpcopy_any _ (hr.later (w' := w1) (by repeat (first | exact Below.refl _ _ | assumption | (refine below_drewN ?_ _) | (refine Below.drew ?_) | (refine Below.alloc ?_ (by first | omega | (simp; omega) | simp) _) | (refine Below.setCell ?_ (by first | omega | (simp; omega) | simp) _) | (refine below_trans ?_ (by assumption) (by first | omega | (simp; omega) | simp))))) hl3).mono ?_; rintro e w2 ⟨A1, cap1, rfl, ho2, hb_w2⟩; obtain ⟨hc_w2, hf_w2⟩ := bcell hb_w2; have hz_w2_w_0 : w.heap.size < w2.heap.size := (by have hzz := hb_w2.size; (try simp only [World.size_alloc, World.size_setCell, World.size_drew, World.heap_drewN] at hzz); omega); have hz_w2_w_1 : w.heap.size + 1 < w2.heap.size := (by have hzz := hb_w2.size; (try simp only [World.size_alloc, World.size_setCell, World.size_drew, World.heap_drewN] at hzz); omega); have q0 : w2.cell? ⟨w.heap.size, 0, none⟩ = some (.int .i64 n) := ((hc_w2 _ _ (by first | omega | (simp; omega) | simp)).trans ((hc_w1 _ _ (by first | omega | (simp; omega) | simp)).trans (by simp [go_sem]))); have q1 : w2.cell? ⟨w.heap.size, 1, none⟩ = some (.slice A ws.length cap) := ((hc_w2 _ _ (by first | omega | (simp; omega) | simp)).trans ((hc_w1 _ _ (by first | omega | (simp; omega) | simp)).trans (by simp [go_sem]))); have s0 : ∀ V, (w2.setCell ⟨w.heap.size, 0, none⟩ V).cell? ⟨w.heap.size, 0, none⟩ = some V := (fun V => World.cell?_setCell_same _ _ _ q0); have s1 : ∀ V V', ((w2.setCell ⟨w.heap.size, 0, none⟩ V).setCell ⟨w.heap.size, 1, none⟩ V').cell? ⟨w.heap.size, 1, none⟩ = some V' := (fun V V' => (set_two V V' q0 q1).2); have s2 : ∀ V V', ((w2.setCell ⟨w.heap.size, 0, none⟩ V).setCell ⟨w.heap.size, 1, none⟩ V').cell? ⟨w.heap.size, 0, none⟩ = some V := (fun V V' => (set_two V V' q0 q1).1); have k0 : w2.cell? ⟨w.heap.size + 1, 0, none⟩ = some (.int .i64 0) := ((hc_w2 _ _ (by first | omega | (simp; omega) | simp)).trans ((hc_w1 _ _ (by first | omega | (simp; omega) | simp)).trans (by simp [go_sem]))); have k1 : w2.cell? ⟨w.heap.size + 1, 1, none⟩ = some (.slice none 0 0) := ((hc_w2 _ _ (by first | omega | (simp; omega) | simp)).trans ((hc_w1 _ _ (by first | omega | (simp; omega) | simp)).trans (by simp [go_sem])))))
  simp only [World.size_alloc] at hb_w1
  have t0 : Two w2 w.heap.size (.int .i64 n) (.slice A ws.length cap) := (((Two.new w _ _ _).old (by first | omega | (simp; omega) | simp) _).below hb_w1 (by first | omega | (simp; omega) | simp)).below hb_w2 (by first | omega | (simp; omega) | simp)
  have t1 : Two w2 (w.heap.size + 1) (.int .i64 0) (.slice none 0 0) := ((by have h := Two.new (w.alloc (.cells #[.int .i64 n, .slice A ws.length cap] 26)) (.int .i64 0) (.slice none 0 0) 26; rw [World.size_alloc] at h; exact h : Two _ (w.heap.size + 1) _ _).below hb_w1 (by first | omega | (simp; omega) | simp)).below hb_w2 (by first | omega | (simp; omega) | simp)
  go_loopw [8] (fun i wr => ∃ k : Nat, i = .int .i64 (k : Nat) ∧ (k : Int) ≤ c ∧ (∀ j : Nat, j < k → tb ws (a + j) = true) ∧ Own wr (w.heap.size + 2) A1 ws ∧ Two wr w.heap.size (.int .i64 n) (.slice A1 ws.length cap1) ∧
      Two wr (w.heap.size + 1) (.int .i64 0) (.slice none 0 0) ∧ w.heap.size + 2 ≤ wr.heap.size ∧ Below w.heap.size w wr) (fun i _ => (c - intOf i).toNat)
  case atStart => exact ⟨0, rfl, by omega, fun j hj => by omega, ((ho2.mono (by first | omega | (simp; omega) | simp)).two (by first | omega | (simp; omega) | simp)), t0.set_ _ _, t1.far (by first | omega | (simp; omega) | simp) _ _, (by first | omega | (simp; omega) | simp), (by repeat (first | exact Below.refl _ _ | assumption | (refine below_drewN ?_ _) | (refine Below.drew ?_) | (refine Below.alloc ?_ (by first | omega | (simp; omega) | simp) _) | (refine Below.setCell ?_ (by first | omega | (simp; omega) | simp) _) | (refine below_trans ?_ (by assumption) (by first | omega | (simp; omega) | simp))))⟩
  case round =>
    obtain ⟨k, rfl, hk, hN, hO, hT0, hT1, hsz, hb_wr⟩ := hrel
    obtain ⟨q0', q1', hf0⟩ := id hT0
    have HN := Lib.hid hN
    clear hN
    by_cases hlt : (k : Int) < c
    · go_wp2_with fail
      go_at_call 35
      refine (is_any ((a : Int) + (k : Nat)) n cap1 hO.row (by omega) (by omega) hl2).mono ?_
      rintro e w3 ⟨rfl, hb_w3⟩
      obtain ⟨hc_w3, hf_w3⟩ := bcell hb_w3
      have hs_w3 := hb_w3.size
      rw [show ((a : Int) + (k : Nat)).toNat = a + k by omega]
      have T0 := hT0.below hb_w3 (by omega)
      have T1 := hT1.below hb_w3 (by omega)
      have O3 := hO.later hb_w3
      clear hT0 hT1 hO q0' q1' hf0
      obtain ⟨x0, x1, hx⟩ := id T0
      obtain ⟨z0, z1, hz⟩ := id T1
      cases ht : tb ws (a + k)
      · have HT := Lib.hid ht
        clear ht
        go_wp2
        exact bodyPost_ret (res_pages2 rfl rfl (T1.set_ _ _).c0 (T1.set_ _ _).c1) rfl (.inr ⟨⟨a + k, by omega, by omega, HT.out⟩, A1, cap1, rfl, (O3.two (g := w.heap.size + 1) (by first | omega | (simp; omega) | simp)).mono (by first | omega | (simp; omega) | simp), (by repeat (first | exact Below.refl _ _ | assumption | (refine below_drewN ?_ _) | (refine Below.drew ?_) | (refine Below.alloc ?_ (by first | omega | (simp; omega) | simp) _) | (refine Below.setCell ?_ (by first | omega | (simp; omega) | simp) _) | (refine below_trans ?_ (by assumption) (by first | omega | (simp; omega) | simp))))⟩)
      · have HT := Lib.hid ht
        clear ht
        go_wp2
        go_roundw
        case rel => exact ⟨k + 1, by go_num, by omega, fun j hj => by
            by_cases e : j = k
            · rw [e]; exact HT.out
            · exact HN.out j (by omega), O3, T0, T1, by omega, (by repeat (first | exact Below.refl _ _ | assumption | (refine below_drewN ?_ _) | (refine Below.drew ?_) | (refine Below.alloc ?_ (by first | omega | (simp; omega) | simp) _) | (refine Below.setCell ?_ (by first | omega | (simp; omega) | simp) _) | (refine below_trans ?_ (by assumption) (by first | omega | (simp; omega) | simp))))⟩
        case measure => simp [intOf]; omega
    · go_wp2_with fail
      go_at_call 32
      refine (rfill_in cap1 (a : Nat) c false hO.row hR.out (by omega) (by omega) (by omega)).mono ?_
      rintro e w4 ⟨A4, cap4, rfl, ho4, hb_w4⟩
      obtain ⟨hc_w4, hf_w4⟩ := bcell hb_w4
      have hs_w4 := hb_w4.size
      have U0 := hT0.below hb_w4 (by omega)
      have U1 := hT1.below hb_w4 (by omega)
      obtain ⟨y0, y1, hy⟩ := id U0
      obtain ⟨z0, z1, hz⟩ := id U1
      have s0' : ∀ V, (w4.setCell ⟨w.heap.size, 0, none⟩ V).cell? ⟨w.heap.size, 0, none⟩ = some V := (fun V => World.cell?_setCell_same _ _ _ y0)
      have s1' : ∀ V V', ((w4.setCell ⟨w.heap.size, 0, none⟩ V).setCell ⟨w.heap.size, 1, none⟩ V').cell? ⟨w.heap.size, 1, none⟩ = some V' := (fun V V' => (set_two V V' y0 y1).2)
      have s2' : ∀ V V', ((w4.setCell ⟨w.heap.size, 0, none⟩ V).setCell ⟨w.heap.size, 1, none⟩ V').cell? ⟨w.heap.size, 0, none⟩ = some V := (fun V V' => (set_two V V' y0 y1).1)
      go_wp2
      have F := (U1.far (g' := w.heap.size) (by first | omega | (simp; omega) | simp) (.int .i64 n) (.slice A4 (fillW ws a c.toNat false).length cap4)).set_ (.int .i64 n) (.slice A4 (fillW ws a c.toNat false).length cap4)
      refine bodyPost_ret (res_pages2 rfl rfl F.c0 F.c1) rfl (.inl ⟨fun j j1 j2 => ?_, A4, cap4, rfl, ?_, (by repeat (first | exact Below.refl _ _ | assumption | (refine below_drewN ?_ _) | (refine Below.drew ?_) | (refine Below.alloc ?_ (by first | omega | (simp; omega) | simp) _) | (refine Below.setCell ?_ (by first | omega | (simp; omega) | simp) _) | (refine below_trans ?_ (by assumption) (by first | omega | (simp; omega) | simp))))⟩)
      · have := HN.out (j - a) (by omega)
        rwa [show a + (j - a) = j by omega] at this
      · exact ((ho4.two (g := w.heap.size) (by first | omega | (simp; omega) | simp)).two (g := w.heap.size + 1) (by first | omega | (simp; omega) | simp)).mono (by first | omega | (simp; omega) | simp)
theorem rpcount_bad (hr : Row w w.heap.size A ws) (h : ¬ Right n ws) :
    Calls Try.prog 18 #[.agg #[.int .i64 n, .slice A ws.length cap]] w fun e w' => e = .returned (.tuple #[.int .i64 0, .int .i64 2]) ∧ Below w.heap.size w w' := by
  have hR := Lib.hid h
  clear h
  go_enter Try.func18, Try.ntmps18
  go_wp2_with fail
  go_at_call 38
  refine (rcount_bad _ (hr.later (by repeat (first | exact Below.refl _ _ | assumption | (refine below_drewN ?_ _) | (refine Below.drew ?_) | (refine Below.alloc ?_ (by first | omega | (simp; omega) | simp) _) | (refine Below.setCell ?_ (by first | omega | (simp; omega) | simp) _) | (refine below_trans ?_ (by assumption) (by first | omega | (simp; omega) | simp))))) hR.out).mono ?_
  rintro e w1 ⟨rfl, hb_w1⟩
  obtain ⟨hc_w1, hf_w1⟩ := bcell hb_w1; have hz_w1_w_0 : w.heap.size < w1.heap.size := (by have hzz := hb_w1.size; (try simp only [World.size_alloc, World.size_setCell, World.size_drew, World.heap_drewN] at hzz); omega); have hs_w1 := hb_w1.size; (try simp only [World.size_alloc, World.size_setCell, World.size_drew, World.heap_drewN] at hs_w1)
  go_wp2
  go_ret2
  exact ⟨rfl, (by repeat (first | exact Below.refl _ _ | assumption | (refine below_drewN ?_ _) | (refine Below.drew ?_) | (refine Below.alloc ?_ (by first | omega | (simp; omega) | simp) _) | (refine Below.setCell ?_ (by first | omega | (simp; omega) | simp) _) | (refine below_trans ?_ (by assumption) (by first | omega | (simp; omega) | simp))))⟩
theorem rpcount_ok (hr : Row w w.heap.size A ws) (h : Right n ws) :
    Calls Try.prog 18 #[.agg #[.int .i64 n, .slice A ws.length cap]] w fun e w' => e = .returned (.tuple #[.int .i64 (n - (countTo ws n.toNat : Nat)), .int .i64 0]) ∧ Below w.heap.size w w' := by
  have hn := h.1
  have hn2 := h.2.1
  have hcl := countTo_le ws n.toNat
  have hR := Lib.hid h
  clear h
  go_enter Try.func18, Try.ntmps18
  go_wp2_with fail
  go_at_call 38
  refine (rcount_ok cap (hr.later (by repeat (first | exact Below.refl _ _ | assumption | (refine below_drewN ?_ _) | (refine Below.drew ?_) | (refine Below.alloc ?_ (by first | omega | (simp; omega) | simp) _) | (refine Below.setCell ?_ (by first | omega | (simp; omega) | simp) _) | (refine below_trans ?_ (by assumption) (by first | omega | (simp; omega) | simp))))) hR.out).mono ?_
  rintro e w1 ⟨rfl, hb_w1⟩
  obtain ⟨hc_w1, hf_w1⟩ := bcell hb_w1; have hz_w1_w_0 : w.heap.size < w1.heap.size := (by have hzz := hb_w1.size; (try simp only [World.size_alloc, World.size_setCell, World.size_drew, World.heap_drewN] at hzz); omega); have hs_w1 := hb_w1.size; (try simp only [World.size_alloc, World.size_setCell, World.size_drew, World.heap_drewN] at hs_w1)
  go_wp2
  go_ret2
  exact ⟨rfl, (by repeat (first | exact Below.refl _ _ | assumption | (refine below_drewN ?_ _) | (refine Below.drew ?_) | (refine Below.alloc ?_ (by first | omega | (simp; omega) | simp) _) | (refine Below.setCell ?_ (by first | omega | (simp; omega) | simp) _) | (refine below_trans ?_ (by assumption) (by first | omega | (simp; omega) | simp))))⟩
theorem rlongest_bad (hr : Row w w.heap.size A ws) (h : ¬ Right n ws) :
    Calls Try.prog 20 #[.agg #[.int .i64 n, .slice A ws.length cap]] w fun e w' => e = .returned (.tuple #[.int .i64 0, .int .i64 2]) ∧ Below w.heap.size w w' := by
  have hR := Lib.hid h
  clear h
  go_enter Try.func20, Try.ntmps20
  go_wp2_with fail
  go_at_call 24
  refine (rpcheck_bad _ (hr.later (by repeat (first | exact Below.refl _ _ | assumption | (refine below_drewN ?_ _) | (refine Below.drew ?_) | (refine Below.alloc ?_ (by first | omega | (simp; omega) | simp) _) | (refine Below.setCell ?_ (by first | omega | (simp; omega) | simp) _) | (refine below_trans ?_ (by assumption) (by first | omega | (simp; omega) | simp))))) hR.out).mono ?_
  rintro e w1 ⟨rfl, hb_w1⟩
  obtain ⟨hc_w1, hf_w1⟩ := bcell hb_w1; have hz_w1_w_0 : w.heap.size < w1.heap.size := (by have hzz := hb_w1.size; (try simp only [World.size_alloc, World.size_setCell, World.size_drew, World.heap_drewN] at hzz); omega); have hs_w1 := hb_w1.size; (try simp only [World.size_alloc, World.size_setCell, World.size_drew, World.heap_drewN] at hs_w1)
  go_wp2
  go_ret2
  exact ⟨rfl, (by repeat (first | exact Below.refl _ _ | assumption | (refine below_drewN ?_ _) | (refine Below.drew ?_) | (refine Below.alloc ?_ (by first | omega | (simp; omega) | simp) _) | (refine Below.setCell ?_ (by first | omega | (simp; omega) | simp) _) | (refine below_trans ?_ (by assumption) (by first | omega | (simp; omega) | simp))))⟩
set_option maxHeartbeats 1000000 in
theorem rlongest_ok (hr : Row w w.heap.size A ws) (h : Right n ws) :
    Calls Try.prog 20 #[.agg #[.int .i64 n, .slice A ws.length cap]] w fun e w' => e = .returned (.tuple #[.int .i64 (best ws n.toNat : Nat), .int .i64 0]) ∧ Below w.heap.size w w' := by
  have hn := h.1
  have hn2 := h.2.1
  have hl := h.long
  have hl2 : ws.length ≤ 64 := right_len h
  have hl3 : ws.length ≤ 17592186044416 := by omega
  have hR := Lib.hid h
  clear h
  go_enter Try.func20, Try.ntmps20
  go_wp2_with (go_at_call 24; refine (rpcheck_ok _ (hr.later (by repeat (first | exact Below.refl _ _ | assumption | (refine below_drewN ?_ _) | (refine Below.drew ?_) | (refine Below.alloc ?_ (by first | omega | (simp; omega) | simp) _) | (refine Below.setCell ?_ (by first | omega | (simp; omega) | simp) _) | (refine below_trans ?_ (by assumption) (by first | omega | (simp; omega) | simp))))) hR.out).mono ?_; rintro e w1 ⟨rfl, hb_w1⟩; obtain ⟨hc_w1, hf_w1⟩ := bcell hb_w1; have hz_w1_w_0 : w.heap.size < w1.heap.size := (by have hzz := hb_w1.size; (try simp only [World.size_alloc, World.size_setCell, World.size_drew, World.heap_drewN] at hzz); omega))
  have q0 : w1.cell? ⟨w.heap.size, 0, none⟩ = some (.int .i64 n) := (hc_w1 _ _ (by first | omega | (simp; omega) | simp)).trans (by simp [go_sem])
  have q1 : w1.cell? ⟨w.heap.size, 1, none⟩ = some (.slice A ws.length cap) := (hc_w1 _ _ (by first | omega | (simp; omega) | simp)).trans (by simp [go_sem])
  go_loopw [4, 5, 6] (fun be z i wr => ∃ k : Nat, i = .int .i64 k ∧ (k : Int) ≤ n ∧ be = .int .i64 (best ws k : Nat) ∧ z = .int .i64 (zs ws k : Nat) ∧ Below w1.heap.size w1 wr) (fun _ _ i _ => n.toNat - (intOf i).toNat)
  case atStart => exact ⟨0, rfl, hn, rfl, rfl, Below.refl _ _⟩
  case round =>
    obtain ⟨k, rfl, hk, rfl, rfl, hb_wr⟩ := hrel
    have hzl := zs_le ws k
    have hbl := best_le ws k
    have HZ : Hid (zs ws (k + 1) = if tb ws k then 0 else zs ws k + 1) := Lib.hid rfl
    have HM : Hid (best ws (k + 1) = max (best ws k) (zs ws (k + 1))) := Lib.hid rfl
    have hz_wr1 := hb_wr.size
    have hz_wr : w.heap.size < wr.heap.size := by omega
    have z0 := ((bcell hb_wr).1 _ 0 hz_w1_w_0).trans q0
    have z1 := ((bcell hb_wr).1 _ 1 hz_w1_w_0).trans q1
    by_cases hlt : (k : Int) < n
    · go_wp2_with fail
      go_at_call 35
      refine (is_any _ _ _ ((hr.later (w' := w1) (by repeat (first | exact Below.refl _ _ | assumption | (refine below_drewN ?_ _) | (refine Below.drew ?_) | (refine Below.alloc ?_ (by first | omega | (simp; omega) | simp) _) | (refine Below.setCell ?_ (by first | omega | (simp; omega) | simp) _) | (refine below_trans ?_ (by assumption) (by first | omega | (simp; omega) | simp))))).later hb_wr) (by omega) (by omega) hl2).mono ?_
      rintro e w2 ⟨rfl, hb_w2⟩
      simp only [Int.toNat_natCast]
      cases ht : tb ws k
      · have HT := Lib.hid ht
        clear ht
        by_cases hg : best ws k < zs ws k + 1
        · have hd : decide (((best ws k : Nat) : Int) < (zs ws k : Nat) + 1) = true := by simp; omega
          go_wp2
          go_roundw
          case rel => exact ⟨k + 1, by go_num, by omega, by rw [HM.out, HZ.out, HT.out]; simp only [Bool.false_eq_true, if_false]; rw [Nat.max_eq_right (by omega)]; go_num, by rw [HZ.out, HT.out]; go_num, (by repeat (first | exact Below.refl _ _ | assumption | (refine below_drewN ?_ _) | (refine Below.drew ?_) | (refine Below.alloc ?_ (by first | omega | (simp; omega) | simp) _) | (refine Below.setCell ?_ (by first | omega | (simp; omega) | simp) _) | (refine below_trans ?_ (by assumption) (by first | omega | (simp; omega) | simp))))⟩
          case measure => simp [intOf]; omega
        · have hd : decide (((best ws k : Nat) : Int) < (zs ws k : Nat) + 1) = false := by simp; omega
          go_wp2
          go_roundw
          case rel => exact ⟨k + 1, by go_num, by omega, by rw [HM.out, HZ.out, HT.out]; simp only [Bool.false_eq_true, if_false]; rw [Nat.max_eq_left (by omega)], by rw [HZ.out, HT.out]; go_num, (by repeat (first | exact Below.refl _ _ | assumption | (refine below_drewN ?_ _) | (refine Below.drew ?_) | (refine Below.alloc ?_ (by first | omega | (simp; omega) | simp) _) | (refine Below.setCell ?_ (by first | omega | (simp; omega) | simp) _) | (refine below_trans ?_ (by assumption) (by first | omega | (simp; omega) | simp))))⟩
          case measure => simp [intOf]; omega
      · have HT := Lib.hid ht
        clear ht
        have hd : decide (((best ws k : Nat) : Int) < 0) = false := decide_eq_false (by omega)
        go_wp2
        go_roundw
        case rel => exact ⟨k + 1, by go_num, by omega, by rw [HM.out, HZ.out, HT.out]; simp, by rw [HZ.out, HT.out]; rfl, (by repeat (first | exact Below.refl _ _ | assumption | (refine below_drewN ?_ _) | (refine Below.drew ?_) | (refine Below.alloc ?_ (by first | omega | (simp; omega) | simp) _) | (refine Below.setCell ?_ (by first | omega | (simp; omega) | simp) _) | (refine below_trans ?_ (by assumption) (by first | omega | (simp; omega) | simp))))⟩
        case measure => simp [intOf]; omega
    · have hkn : n.toNat = k := by omega
      go_wp2
      go_ret2
      exact ⟨rfl, (by repeat (first | exact Below.refl _ _ | assumption | (refine below_drewN ?_ _) | (refine Below.drew ?_) | (refine Below.alloc ?_ (by first | omega | (simp; omega) | simp) _) | (refine Below.setCell ?_ (by first | omega | (simp; omega) | simp) _) | (refine below_trans ?_ (by assumption) (by first | omega | (simp; omega) | simp))))⟩
end
end Go.Proofs.Ytcokfdgbgeeabaa
