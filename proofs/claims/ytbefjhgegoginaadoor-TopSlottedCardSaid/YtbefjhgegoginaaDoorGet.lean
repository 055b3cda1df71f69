/- Contracts: one bit is asked for; one is changed. -/
import Derived.Test.YtbefjhgegoginaaDoorMake
namespace Go.Proofs.YtbefjhgegoginaaDoor
open Go.RowKit
set_option linter.unusedVariables false
set_option linter.unusedSimpArgs false

section
variable {n : Int} {A : Option Addr} {ws : List Nat} {w : World} (cap : Nat) (i : Int)
theorem get_bad (hr : Row w w.heap.size A ws) (h : ¬ Right n ws) :
    Calls Tryd.prog 34 #[.agg #[.int .i64 n, .slice A ws.length cap], .int .i64 i] w fun e w' => e = .returned (.tuple #[.bool false, .int .i64 2]) ∧ Below w.heap.size w w' := by
  have hR := Lib.hid h
  clear h
  go_enter Tryd.func34, Tryd.ntmps34
  go_wp2_with (go_at_call 31; refine (view_bad _ (hr.later (by repeat (first | exact Below.refl _ _ | assumption | (refine below_drewN ?_ _) | (refine Below.drew ?_) | (refine Below.alloc ?_ (by first | omega | (simp; omega) | simp) _) | (refine Below.setCell ?_ (by first | omega | (simp; omega) | simp) _) | (refine below_trans ?_ (by assumption) (by first | omega | (simp; omega) | simp))))) hR.out).mono ?_; rintro e w1 ⟨rfl, hb_w1⟩; obtain ⟨hc_w1, hf_w1⟩ := bcell hb_w1; have hz_w1_w_0 : w.heap.size < w1.heap.size := (by have hzz := hb_w1.size; (try simp only [World.size_alloc, World.size_setCell, World.size_drew, World.heap_drewN] at hzz); omega))
  go_ret2
  exact ⟨rfl, (by repeat (first | exact Below.refl _ _ | assumption | (refine below_drewN ?_ _) | (refine Below.drew ?_) | (refine Below.alloc ?_ (by first | omega | (simp; omega) | simp) _) | (refine Below.setCell ?_ (by first | omega | (simp; omega) | simp) _) | (refine below_trans ?_ (by assumption) (by first | omega | (simp; omega) | simp))))⟩
theorem get_out (hr : Row w w.heap.size A ws) (h : Right n ws) (hi : ¬ (0 ≤ i ∧ i < n)) :
    Calls Tryd.prog 34 #[.agg #[.int .i64 n, .slice A ws.length cap], .int .i64 i] w fun e w' => e = .returned (.tuple #[.bool false, .int .i64 1]) ∧ Below w.heap.size w w' := by
  have hR := Lib.hid h
  have hI := Lib.hid hi
  clear h hi
  go_enter Tryd.func34, Tryd.ntmps34
  go_wp2_with (first
    | (go_at_call 31; refine (view_ok _ (hr.later (by repeat (first | exact Below.refl _ _ | assumption | (refine below_drewN ?_ _) | (refine Below.drew ?_) | (refine Below.alloc ?_ (by first | omega | (simp; omega) | simp) _) | (refine Below.setCell ?_ (by first | omega | (simp; omega) | simp) _) | (refine below_trans ?_ (by assumption) (by first | omega | (simp; omega) | simp))))) hR.out).mono ?_; rintro e w1 ⟨rfl, hb_w1⟩; obtain ⟨hc_w1, hf_w1⟩ := bcell hb_w1; have hz_w1_w_0 : w.heap.size < w1.heap.size := (by have hzz := hb_w1.size; (try simp only [World.size_alloc, World.size_setCell, World.size_drew, World.heap_drewN] at hzz); omega))
    | (go_at_call 40; refine (has_no n i _ _ (by simp [go_sem]) hI.out).mono ?_; rintro e w2 ⟨rfl, rfl⟩))
  go_ret2
  exact ⟨rfl, (by repeat (first | exact Below.refl _ _ | assumption | (refine below_drewN ?_ _) | (refine Below.drew ?_) | (refine Below.alloc ?_ (by first | omega | (simp; omega) | simp) _) | (refine Below.setCell ?_ (by first | omega | (simp; omega) | simp) _) | (refine below_trans ?_ (by assumption) (by first | omega | (simp; omega) | simp))))⟩
theorem get_in (hr : Row w w.heap.size A ws) (h : Right n ws) (h0 : 0 ≤ i) (h1 : i < n) :
    Calls Tryd.prog 34 #[.agg #[.int .i64 n, .slice A ws.length cap], .int .i64 i] w fun e w' => e = .returned (.tuple #[.bool (tb ws i.toNat), .int .i64 0]) ∧ Below w.heap.size w w' := by
  have hl := h.long
  have hl2 : ws.length ≤ 64 := by have := h.2.2.1; have := h.2.1; omega
  have hR := Lib.hid h
  clear h
  obtain ⟨b, off, rfl, hb, hc⟩ := hr.at_ (by omega)
  obtain ⟨x, hx⟩ := named ws (i / 64).toNat
  have hck := hc (i / 64).toNat (by omega)
  rw [hx.out] at hck
  have hxl : x < W64 := by rw [← hx.out]; exact hr.words.at_ _
  clear hc
  go_enter Tryd.func34, Tryd.ntmps34
  go_wp2_with (first
    | (go_at_call 31; refine (view_ok _ (hr.later (by repeat (first | exact Below.refl _ _ | assumption | (refine below_drewN ?_ _) | (refine Below.drew ?_) | (refine Below.alloc ?_ (by first | omega | (simp; omega) | simp) _) | (refine Below.setCell ?_ (by first | omega | (simp; omega) | simp) _) | (refine below_trans ?_ (by assumption) (by first | omega | (simp; omega) | simp))))) hR.out).mono ?_; rintro e w1 ⟨rfl, hb_w1⟩; obtain ⟨hc_w1, hf_w1⟩ := bcell hb_w1; have hz_w1_w_0 : w.heap.size < w1.heap.size := (by have hzz := hb_w1.size; (try simp only [World.size_alloc, World.size_setCell, World.size_drew, World.heap_drewN] at hzz); omega); have hlt : b < w1.heap.size := (by omega); have hck1 : w1.cell? ⟨b, off + (i / 64).toNat, none⟩ = some (.int .u64 (x : Nat)) := ((hc_w1 _ _ (by first | omega | (simp; omega) | simp)).trans ((World.cell?_alloc_lt _ _ ⟨_, _, _⟩ (by first | omega | (simp; omega) | simp)).trans hck)))
    | (go_at_call 40; refine (has_yes n i _ _ (by simp [go_sem]) h0 h1).mono ?_; rintro e w2 ⟨rfl, rfl⟩)
    | (go_at_call 32; refine (at_any i _ b off ws.length cap x _ h0 (by omega) hl2 hxl (by simp [go_sem]) ((World.cell?_alloc_lt _ _ ⟨_, _, _⟩ (by first | omega | (simp; omega) | simp)).trans hck1)).mono ?_; rintro e w3 ⟨rfl, n3, rfl⟩))
  go_ret2
  have e : tb ws i.toNat = x.testBit (i % 64).toNat := by
    unfold tb
    rw [show i.toNat / 64 = (i / 64).toNat by omega, show i.toNat % 64 = (i % 64).toNat by omega, hx.out]
  rw [e]
  exact ⟨rfl, (by repeat (first | exact Below.refl _ _ | assumption | (refine below_drewN ?_ _) | (refine Below.drew ?_) | (refine Below.alloc ?_ (by first | omega | (simp; omega) | simp) _) | (refine Below.setCell ?_ (by first | omega | (simp; omega) | simp) _) | (refine below_trans ?_ (by assumption) (by first | omega | (simp; omega) | simp))))⟩
end
end Go.Proofs.YtbefjhgegoginaaDoor
