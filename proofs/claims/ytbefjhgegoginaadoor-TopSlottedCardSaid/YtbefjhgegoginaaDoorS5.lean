/- Contracts of package span: addresses, a new span. -/
import Derived.Test.YtbefjhgegoginaaDoorS4
import Derived.Laws.ResultCell
namespace Go.Proofs.YtbefjhgegoginaaDoor
open Go.RowKit
set_option linter.unusedVariables false
set_option linter.unusedSimpArgs false

theorem Sized.room {p z : Int} (h : Sized p z) (k : Int) (h0 : 0 ≤ k) (h1 : k < slotsOf z) : 0 ≤ k * z ∧ k * z ≤ 16 := by
  rcases h with ⟨rfl | rfl | rfl | rfl, rfl⟩ | ⟨rfl, _, _⟩
  all_goals
    simp [slotsOf] at h1
    omega
def AddrE (d : Sd) (k : Int) (r y : Int) : Prop := (Ok1 d ∧ 0 ≤ k ∧ k < slotsOf d.z ∧ r = d.f * 16 + k * d.z ∧ y = 0) ∨ (Ok1 d ∧ ¬ (0 ≤ k ∧ k < slotsOf d.z) ∧ r = 0 ∧ y = 1) ∨ (¬ Ok1 d ∧ r = 0 ∧ y = 2)
section
variable {w : World} {d : Sd} {A M : Option Addr} (ca cm : Nat)
set_option maxHeartbeats 1000000 in
theorem sAddr_any (hA : Row w w.heap.size A d.aw) (hM : Row w w.heap.size M d.mw) (k r y : Int) (hy : AddrE d k r y) :
    Calls Tryd.prog 10 #[spv d A ca M cm, .int .i64 k] w fun e w' => e = .returned (.tuple #[.int .u64 r, .int .i64 y]) ∧ Below w.heap.size w w' := by
  by_cases h : Ok1 d
  · have V := Lib.hid fun (w : World) (g : Nat) (hg : w.heap.size = g) hA hM => scheck1_any (w := w) (d := d) (A := A) (M := M) ca cm hg hA hM 0 (.inl ⟨h, rfl⟩) 35
    have S := Lib.hid fun (w : World) => sslots_any (w := w) d A ca M cm h.sized
    have hs := h.sized.slots
    have hp := h.placed
    unfold Placed at hp
    by_cases hk : 0 ≤ k ∧ k < slotsOf d.z
    · obtain ⟨m0, m1⟩ := h.sized.room k hk.1 hk.2
      obtain ⟨rfl, rfl⟩ : r = d.f * 16 + k * d.z ∧ y = 0 := by
        rcases hy with ⟨_, _, _, a, b⟩ | ⟨_, a, _⟩ | ⟨a, _⟩
        · exact ⟨a, b⟩
        · exact absurd hk a
        · exact absurd h a
      have D := Lib.hid fun (w : World) => saddress_any (w := w) d A ca M cm k hp.1 (by omega) (by omega) hk.1 (by omega) (k * d.z) rfl m0 (by omega)
      obtain ⟨k0, k1⟩ := hk
      clear h hy
      obtain ⟨f, p, z, an, aw, mn, mw, s⟩ := d
      simp only at *
      generalize k * z = m at *
      generalize slotsOf z = n at *
      have d0 : decide (k < 0) = false := decide_eq_false (by omega)
      have d1 : decide (n ≤ k) = false := decide_eq_false (by omega)
      unfold spv at S D ⊢
      simp only at S D ⊢
      go_enter Tryd.func10, Tryd.ntmps10
      go_wp2_with (first
        | (go_at_call 20; refine (V.out _ _ (by simp) (hA.later (by repeat (first | exact Below.refl _ _ | assumption | (refine below_drewN ?_ _) | (refine Below.drew ?_) | (refine Below.alloc ?_ (by first | omega | (simp; omega) | simp) _) | (refine Below.setCell ?_ (by first | omega | (simp; omega) | simp) _) | (refine below_trans ?_ (by assumption) (by first | omega | (simp; omega) | simp))))) (hM.later (by repeat (first | exact Below.refl _ _ | assumption | (refine below_drewN ?_ _) | (refine Below.drew ?_) | (refine Below.alloc ?_ (by first | omega | (simp; omega) | simp) _) | (refine Below.setCell ?_ (by first | omega | (simp; omega) | simp) _) | (refine below_trans ?_ (by assumption) (by first | omega | (simp; omega) | simp)))))).mono ?_; rintro e w1 ⟨rfl, hb_w1⟩; obtain ⟨hc_w1, hf_w1⟩ := bcell hb_w1; have hz_w1_w_0 : w.heap.size < w1.heap.size := (by have hzz := hb_w1.size; (try simp only [World.size_alloc, World.size_setCell, World.size_drew, World.heap_drewN] at hzz); omega); have hs_w1 := hb_w1.size; (try simp only [World.size_alloc, World.size_setCell, World.size_drew, World.heap_drewN] at hs_w1))
        | (go_at_call 19; refine (S.out _).mono ?_; rintro e w2 ⟨rfl, hb_w2⟩; obtain ⟨hc_w2, hf_w2⟩ := bcell hb_w2; have hz_w2_w_0 : w.heap.size < w2.heap.size := (by have hzz := hb_w2.size; (try simp only [World.size_alloc, World.size_setCell, World.size_drew, World.heap_drewN] at hzz); omega); have hs_w2 := hb_w2.size; (try simp only [World.size_alloc, World.size_setCell, World.size_drew, World.heap_drewN] at hs_w2))
        | (go_at_call 21; refine (D.out _).mono ?_; rintro e w3 ⟨rfl, hb_w3⟩; obtain ⟨hc_w3, hf_w3⟩ := bcell hb_w3; have hz_w3_w_0 : w.heap.size < w3.heap.size := (by have hzz := hb_w3.size; (try simp only [World.size_alloc, World.size_setCell, World.size_drew, World.heap_drewN] at hzz); omega); have hs_w3 := hb_w3.size; (try simp only [World.size_alloc, World.size_setCell, World.size_drew, World.heap_drewN] at hs_w3)))
      go_ret2
      exact ⟨rfl, (by repeat (first | exact Below.refl _ _ | assumption | (refine below_drewN ?_ _) | (refine Below.drew ?_) | (refine Below.alloc ?_ (by first | omega | (simp; omega) | simp) _) | (refine Below.setCell ?_ (by first | omega | (simp; omega) | simp) _) | (refine below_trans ?_ (by assumption) (by first | omega | (simp; omega) | simp))))⟩
    · obtain ⟨rfl, rfl⟩ : r = 0 ∧ y = 1 := by
        rcases hy with ⟨_, a, b, _⟩ | ⟨_, _, a, b⟩ | ⟨a, _⟩
        · exact absurd ⟨a, b⟩ hk
        · exact ⟨a, b⟩
        · exact absurd h a
      clear h hy
      obtain ⟨f, p, z, an, aw, mn, mw, s⟩ := d
      simp only at *
      generalize slotsOf z = n at *
      unfold spv at S ⊢
      simp only at S ⊢
      by_cases k0 : k < 0
      · have d0 : decide (k < 0) = true := decide_eq_true k0
        clear hk
        go_enter Tryd.func10, Tryd.ntmps10
        go_wp2_with (first
          | (go_at_call 20; refine (V.out _ _ (by simp) (hA.later (by repeat (first | exact Below.refl _ _ | assumption | (refine below_drewN ?_ _) | (refine Below.drew ?_) | (refine Below.alloc ?_ (by first | omega | (simp; omega) | simp) _) | (refine Below.setCell ?_ (by first | omega | (simp; omega) | simp) _) | (refine below_trans ?_ (by assumption) (by first | omega | (simp; omega) | simp))))) (hM.later (by repeat (first | exact Below.refl _ _ | assumption | (refine below_drewN ?_ _) | (refine Below.drew ?_) | (refine Below.alloc ?_ (by first | omega | (simp; omega) | simp) _) | (refine Below.setCell ?_ (by first | omega | (simp; omega) | simp) _) | (refine below_trans ?_ (by assumption) (by first | omega | (simp; omega) | simp)))))).mono ?_; rintro e w1 ⟨rfl, hb_w1⟩; obtain ⟨hc_w1, hf_w1⟩ := bcell hb_w1; have hz_w1_w_0 : w.heap.size < w1.heap.size := (by have hzz := hb_w1.size; (try simp only [World.size_alloc, World.size_setCell, World.size_drew, World.heap_drewN] at hzz); omega); have hs_w1 := hb_w1.size; (try simp only [World.size_alloc, World.size_setCell, World.size_drew, World.heap_drewN] at hs_w1))
          | (go_at_call 19; refine (S.out _).mono ?_; rintro e w2 ⟨rfl, hb_w2⟩; obtain ⟨hc_w2, hf_w2⟩ := bcell hb_w2; have hz_w2_w_0 : w.heap.size < w2.heap.size := (by have hzz := hb_w2.size; (try simp only [World.size_alloc, World.size_setCell, World.size_drew, World.heap_drewN] at hzz); omega); have hs_w2 := hb_w2.size; (try simp only [World.size_alloc, World.size_setCell, World.size_drew, World.heap_drewN] at hs_w2)))
        go_ret2
        exact ⟨rfl, (by repeat (first | exact Below.refl _ _ | assumption | (refine below_drewN ?_ _) | (refine Below.drew ?_) | (refine Below.alloc ?_ (by first | omega | (simp; omega) | simp) _) | (refine Below.setCell ?_ (by first | omega | (simp; omega) | simp) _) | (refine below_trans ?_ (by assumption) (by first | omega | (simp; omega) | simp))))⟩
      · have d0 : decide (k < 0) = false := decide_eq_false k0
        have d1 : decide (n ≤ k) = true := decide_eq_true (by omega)
        clear hk
        go_enter Tryd.func10, Tryd.ntmps10
        go_wp2_with (first
          | (go_at_call 20; refine (V.out _ _ (by simp) (hA.later (by repeat (first | exact Below.refl _ _ | assumption | (refine below_drewN ?_ _) | (refine Below.drew ?_) | (refine Below.alloc ?_ (by first | omega | (simp; omega) | simp) _) | (refine Below.setCell ?_ (by first | omega | (simp; omega) | simp) _) | (refine below_trans ?_ (by assumption) (by first | omega | (simp; omega) | simp))))) (hM.later (by repeat (first | exact Below.refl _ _ | assumption | (refine below_drewN ?_ _) | (refine Below.drew ?_) | (refine Below.alloc ?_ (by first | omega | (simp; omega) | simp) _) | (refine Below.setCell ?_ (by first | omega | (simp; omega) | simp) _) | (refine below_trans ?_ (by assumption) (by first | omega | (simp; omega) | simp)))))).mono ?_; rintro e w1 ⟨rfl, hb_w1⟩; obtain ⟨hc_w1, hf_w1⟩ := bcell hb_w1; have hz_w1_w_0 : w.heap.size < w1.heap.size := (by have hzz := hb_w1.size; (try simp only [World.size_alloc, World.size_setCell, World.size_drew, World.heap_drewN] at hzz); omega); have hs_w1 := hb_w1.size; (try simp only [World.size_alloc, World.size_setCell, World.size_drew, World.heap_drewN] at hs_w1))
          | (go_at_call 19; refine (S.out _).mono ?_; rintro e w2 ⟨rfl, hb_w2⟩; obtain ⟨hc_w2, hf_w2⟩ := bcell hb_w2; have hz_w2_w_0 : w.heap.size < w2.heap.size := (by have hzz := hb_w2.size; (try simp only [World.size_alloc, World.size_setCell, World.size_drew, World.heap_drewN] at hzz); omega); have hs_w2 := hb_w2.size; (try simp only [World.size_alloc, World.size_setCell, World.size_drew, World.heap_drewN] at hs_w2)))
        go_ret2
        exact ⟨rfl, (by repeat (first | exact Below.refl _ _ | assumption | (refine below_drewN ?_ _) | (refine Below.drew ?_) | (refine Below.alloc ?_ (by first | omega | (simp; omega) | simp) _) | (refine Below.setCell ?_ (by first | omega | (simp; omega) | simp) _) | (refine below_trans ?_ (by assumption) (by first | omega | (simp; omega) | simp))))⟩
  · obtain ⟨rfl, rfl⟩ : r = 0 ∧ y = 2 := by
      rcases hy with ⟨a, _⟩ | ⟨a, _⟩ | ⟨_, a, b⟩
      · exact absurd a h
      · exact absurd a h
      · exact ⟨a, b⟩
    have V := Lib.hid fun (w : World) (g : Nat) (hg : w.heap.size = g) hA hM => scheck1_any (w := w) (d := d) (A := A) (M := M) ca cm hg hA hM 2 (.inr ⟨h, rfl⟩) 35
    clear h hy
    obtain ⟨f, p, z, an, aw, mn, mw, s⟩ := d
    simp only at *
    unfold spv
    simp only
    go_enter Tryd.func10, Tryd.ntmps10
    go_wp2_with (go_at_call 20; refine (V.out _ _ (by simp) (hA.later (by repeat (first | exact Below.refl _ _ | assumption | (refine below_drewN ?_ _) | (refine Below.drew ?_) | (refine Below.alloc ?_ (by first | omega | (simp; omega) | simp) _) | (refine Below.setCell ?_ (by first | omega | (simp; omega) | simp) _) | (refine below_trans ?_ (by assumption) (by first | omega | (simp; omega) | simp))))) (hM.later (by repeat (first | exact Below.refl _ _ | assumption | (refine below_drewN ?_ _) | (refine Below.drew ?_) | (refine Below.alloc ?_ (by first | omega | (simp; omega) | simp) _) | (refine Below.setCell ?_ (by first | omega | (simp; omega) | simp) _) | (refine below_trans ?_ (by assumption) (by first | omega | (simp; omega) | simp)))))).mono ?_; rintro e w1 ⟨rfl, hb_w1⟩; obtain ⟨hc_w1, hf_w1⟩ := bcell hb_w1; have hz_w1_w_0 : w.heap.size < w1.heap.size := (by have hzz := hb_w1.size; (try simp only [World.size_alloc, World.size_setCell, World.size_drew, World.heap_drewN] at hzz); omega); have hs_w1 := hb_w1.size; (try simp only [World.size_alloc, World.size_setCell, World.size_drew, World.heap_drewN] at hs_w1))
    go_ret2
    exact ⟨rfl, (by repeat (first | exact Below.refl _ _ | assumption | (refine below_drewN ?_ _) | (refine Below.drew ?_) | (refine Below.alloc ?_ (by first | omega | (simp; omega) | simp) _) | (refine Below.setCell ?_ (by first | omega | (simp; omega) | simp) _) | (refine below_trans ?_ (by assumption) (by first | omega | (simp; omega) | simp))))⟩
end
end Go.Proofs.YtbefjhgegoginaaDoor
