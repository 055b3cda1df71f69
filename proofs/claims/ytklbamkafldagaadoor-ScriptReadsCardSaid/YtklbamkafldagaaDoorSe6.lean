/- Contracts of package script: singles, Check. -/
import Derived.Test.YtklbamkafldagaaDoorSe5
namespace Go.Proofs.YtklbamkafldagaaDoor
open Go.RowKit
set_option linter.unusedVariables false
set_option linter.unusedSimpArgs false

theorem fl_lies (w : World) (cs : List Value) (t : TypeId) : ∀ j u, cs[j]? = some u → (w.alloc (.cells cs.toArray t)).cell? ⟨w.heap.size, 0 + j, none⟩ = some u := by
  intro j u hj
  rw [Nat.zero_add, cell_of_row _ _ j _ _ _ (heap_alloc_new w (.cells cs.toArray t)), ← hj]
  simp
theorem sgl_two (k : Nat) (hk : k < 4) : flatE (sgl.take (2 * k)) ++ flatE [thr k, tk 2 k] = flatE (sgl.take (2 * (k + 1))) := by
  match k, hk with
  | 0, _ => rfl
  | 1, _ => rfl
  | 2, _ => rfl
  | 3, _ => rfl
theorem sgl_one (k : Nat) (hk : k < 4) : flatE (sgl.take (8 + k)) ++ flatE [tk 3 k] = flatE (sgl.take (8 + (k + 1))) := by
  match k, hk with
  | 0, _ => rfl
  | 1, _ => rfl
  | 2, _ => rfl
  | 3, _ => rfl
def SglR (w : World) (e : Ending) (w' : World) : Prop := ∃ A cap, e = .returned (.slice A 16 cap) ∧ OwnsE w' w.heap.size (.slice A 16 cap) sgl ∧ Below w.heap.size w w'
section
variable {w : World}
theorem taskOf_agg (k t : Int) : Calls Tryd.prog 44 #[.int .u8 k, .int .i64 t] w fun r w' => r = .returned (.agg #[.bool false, .int .i64 0, .int .u8 k, .int .i64 t, .int .i64 1]) ∧ Below w.heap.size w w' := taskOf_any k t
set_option maxHeartbeats 4000000 in
theorem singles_any : Calls Tryd.prog 33 #[] w fun e w' => SglR w e w' := by
  unfold SglR
  have H2 := Lib.hid sgl_two
  have H1 := Lib.hid sgl_one
  go_enter Tryd.func33, Tryd.ntmps33
  go_wp2_with fail
  go_loopw [1, 4] (fun ll ii wr => ∃ (k : Nat) (A : Option Addr) (cap : Nat), ii = .int .i64 (k : Nat) ∧ k ≤ 4 ∧ ll = .slice A (2 * k) cap ∧ wr.ownsRow w.heap.size 41 5 (.slice A (2 * k) cap) (2 * k) (flatE (sgl.take (2 * k))) ∧ Below w.heap.size w wr) (fun ll ii _ => 4 - (intOf ii).toNat)
  case atStart => exact ⟨0, none, 0, rfl, Nat.zero_le _, rfl, World.ownsRow_nil _ _ _ _, (by repeat (first | exact Below.refl _ _ | assumption | (refine below_drewN ?_ _) | (refine Below.drew ?_) | (refine Below.alloc ?_ (by first | omega | (simp; omega) | simp) _) | (refine Below.setCell ?_ (by first | omega | (simp; omega) | simp) _) | (refine below_trans ?_ (by assumption) (by first | omega | (simp; omega) | simp))))⟩
  case round =>
    obtain ⟨k, A, cap, rfl, hk, rfl, own, hb_wr⟩ := hrel
    have hsr := hb_wr.size
    by_cases hlt : k < 4
    · have HX := Lib.hid (H2.out k hlt)
      have OW := Lib.hid own
      clear own
      have d1 : decide ((k : Int) < 4) = true := decide_eq_true (by omega)
      go_wp2_with fail
      go_at_call 44
      refine (taskOf_agg _ _).mono ?_
      rintro e w1 ⟨rfl, hb_w1⟩
      obtain ⟨hc_w1, hf_w1⟩ := bcell hb_w1; have hs_w1 := hb_w1.size; (try simp only [World.size_alloc, World.size_setCell, World.size_drew, World.heap_drewN] at hs_w1)
      have OW1 := Lib.hid (owns_laterE OW.out (show Below wr.heap.size wr w1 from (by repeat (first | exact Below.refl _ _ | assumption | (refine below_drewN ?_ _) | (refine Below.drew ?_) | (refine Below.alloc ?_ (by first | omega | (simp; omega) | simp) _) | (refine Below.setCell ?_ (by first | omega | (simp; omega) | simp) _) | (refine below_trans ?_ (by assumption) (by first | omega | (simp; omega) | simp))))))
      go_wp2_with (at_builtin; refine wpList_appendE ?_ (.tmp 7) (.tmp 12) ?_ w.heap.size A cap (2 * k) (flatE (sgl.take (2 * k))) ?_ (owns_laterE OW1.out (show Below w1.heap.size w1 _ from (by repeat (first | exact Below.refl _ _ | assumption | (refine below_drewN ?_ _) | (refine Below.drew ?_) | (refine Below.alloc ?_ (by first | omega | (simp; omega) | simp) _) | (refine Below.setCell ?_ (by first | omega | (simp; omega) | simp) _) | (refine below_trans ?_ (by assumption) (by first | omega | (simp; omega) | simp)))))) (some ⟨w1.heap.size, 0, none⟩) 2 2 (flatE [thr k, tk 2 k]) ?_ rfl (fun _ => ⟨w1.heap.size, 0, rfl, fl_lies w1 (flatE [thr k, tk 2 k]) _⟩) (flatE_one _) (by omega) (by simp; omega) ?_; rfl; rfl; rfl; rfl; intro A7 cap7 w7 hown7 hg7 hb_w7 hat7; have hs7 := hb_w7.size)
      rw [HX.out] at hown7
      go_roundw
      case rel => exact ⟨k + 1, A7, cap7, by go_num, by omega, by rw [show 2 * (k + 1) = 2 * k + 2 by omega], by rw [show 2 * (k + 1) = 2 * k + 2 by omega] at hown7 ⊢; exact hown7, (by repeat (first | exact Below.refl _ _ | assumption | (refine below_drewN ?_ _) | (refine Below.drew ?_) | (refine Below.alloc ?_ (by first | omega | (simp; omega) | simp) _) | (refine Below.setCell ?_ (by first | omega | (simp; omega) | simp) _) | (refine below_trans ?_ (by assumption) (by first | omega | (simp; omega) | simp))))⟩
      case measure => simp [intOf]; omega
    · have hk4 : k = 4 := by omega
      have OW := Lib.hid own
      clear own
      have d1 : decide ((k : Int) < 4) = false := decide_eq_false (by omega)
      have e8 : Hid (2 * k = 8 + 0) := Lib.hid (by omega)
      have hk9 := Lib.hid hk4
      clear hk4
      go_wp2_with fail
      generalize wr = wA at *
      go_loopw [1, 15] (fun ll ii wr => ∃ (k : Nat) (A : Option Addr) (cap : Nat), ii = .int .i64 (k : Nat) ∧ k ≤ 4 ∧ ll = .slice A (8 + k) cap ∧ wr.ownsRow w.heap.size 41 5 (.slice A (8 + k) cap) (8 + k) (flatE (sgl.take (8 + k))) ∧ Below w.heap.size w wr) (fun ll ii _ => 4 - (intOf ii).toNat)
      case atStart => exact ⟨0, A, cap, rfl, Nat.zero_le _, by rw [e8.out], by have := OW.out; rw [e8.out] at this; exact this, (by repeat (first | exact Below.refl _ _ | assumption | (refine below_drewN ?_ _) | (refine Below.drew ?_) | (refine Below.alloc ?_ (by first | omega | (simp; omega) | simp) _) | (refine Below.setCell ?_ (by first | omega | (simp; omega) | simp) _) | (refine below_trans ?_ (by assumption) (by first | omega | (simp; omega) | simp))))⟩
      case round =>
        clear OW e8 hk9 d1 hlt hk hb_wr
        obtain ⟨k, A, cap, rfl, hk, rfl, own, hb_wr2⟩ := hrel
        have hsr2 := hb_wr2.size
        by_cases hlt : k < 4
        · have HX := Lib.hid (H1.out k hlt)
          have OW := Lib.hid own
          clear own
          have d1 : decide ((k : Int) < 4) = true := decide_eq_true (by omega)
          go_wp2_with fail
          go_at_call 44
          refine (taskOf_agg _ _).mono ?_
          rintro e w1 ⟨rfl, hb_w1⟩
          obtain ⟨hc_w1, hf_w1⟩ := bcell hb_w1; have hs_w1 := hb_w1.size; (try simp only [World.size_alloc, World.size_setCell, World.size_drew, World.heap_drewN] at hs_w1)
          have OW1 := Lib.hid (owns_laterE OW.out (show Below wr.heap.size wr w1 from (by repeat (first | exact Below.refl _ _ | assumption | (refine below_drewN ?_ _) | (refine Below.drew ?_) | (refine Below.alloc ?_ (by first | omega | (simp; omega) | simp) _) | (refine Below.setCell ?_ (by first | omega | (simp; omega) | simp) _) | (refine below_trans ?_ (by assumption) (by first | omega | (simp; omega) | simp))))))
          go_wp2_with (at_builtin; refine wpList_appendE ?_ (.tmp 18) (.tmp 21) ?_ w.heap.size A cap (8 + k) (flatE (sgl.take (8 + k))) ?_ (owns_laterE OW1.out (show Below w1.heap.size w1 _ from (by repeat (first | exact Below.refl _ _ | assumption | (refine below_drewN ?_ _) | (refine Below.drew ?_) | (refine Below.alloc ?_ (by first | omega | (simp; omega) | simp) _) | (refine Below.setCell ?_ (by first | omega | (simp; omega) | simp) _) | (refine below_trans ?_ (by assumption) (by first | omega | (simp; omega) | simp)))))) (some ⟨w1.heap.size, 0, none⟩) 1 1 (flatE [tk 3 k]) ?_ rfl (fun _ => ⟨w1.heap.size, 0, rfl, fl_lies w1 (flatE [tk 3 k]) _⟩) (flatE_one _) (by omega) (by simp; omega) ?_; rfl; rfl; rfl; rfl; intro A7 cap7 w7 hown7 hg7 hb_w7 hat7; have hs7 := hb_w7.size)
          rw [HX.out] at hown7
          go_roundw
          case rel => exact ⟨k + 1, A7, cap7, by go_num, by omega, by rw [show 8 + (k + 1) = 8 + k + 1 by omega], by rw [show 8 + (k + 1) = 8 + k + 1 by omega] at hown7 ⊢; exact hown7, (by repeat (first | exact Below.refl _ _ | assumption | (refine below_drewN ?_ _) | (refine Below.drew ?_) | (refine Below.alloc ?_ (by first | omega | (simp; omega) | simp) _) | (refine Below.setCell ?_ (by first | omega | (simp; omega) | simp) _) | (refine below_trans ?_ (by assumption) (by first | omega | (simp; omega) | simp))))⟩
          case measure => simp [intOf]; omega
        · have OW : Hid (wr.ownsRow w.heap.size 41 5 (.slice A (8 + 4) cap) (8 + 4) (flatE (sgl.take (8 + 4)))) := Lib.hid (by
            obtain rfl : k = 4 := by omega
            exact own)
          have e9 : Hid (8 + k = 8 + 4) := Lib.hid (by omega)
          clear own
          have d1 : decide ((k : Int) < 4) = false := decide_eq_false (by omega)
          go_wp2_with fail
          go_at_call 44
          refine (taskOf_agg _ _).mono ?_
          rintro e w1 ⟨rfl, hb_w1⟩
          obtain ⟨hc_w1, hf_w1⟩ := bcell hb_w1; have hs_w1 := hb_w1.size; (try simp only [World.size_alloc, World.size_setCell, World.size_drew, World.heap_drewN] at hs_w1)
          go_wp2_with fail
          go_at_call 44
          refine (taskOf_agg _ _).mono ?_
          rintro e w2 ⟨rfl, hb_w2⟩
          obtain ⟨hc_w2, hf_w2⟩ := bcell hb_w2; have hs_w2 := hb_w2.size; (try simp only [World.size_alloc, World.size_setCell, World.size_drew, World.heap_drewN] at hs_w2)
          go_wp2_with fail
          go_at_call 44
          refine (taskOf_agg _ _).mono ?_
          rintro e w3 ⟨rfl, hb_w3⟩
          obtain ⟨hc_w3, hf_w3⟩ := bcell hb_w3; have hs_w3 := hb_w3.size; (try simp only [World.size_alloc, World.size_setCell, World.size_drew, World.heap_drewN] at hs_w3)
          go_wp2_with fail
          go_at_call 44
          refine (taskOf_agg _ _).mono ?_
          rintro e w4 ⟨rfl, hb_w4⟩
          obtain ⟨hc_w4, hf_w4⟩ := bcell hb_w4; have hs_w4 := hb_w4.size; (try simp only [World.size_alloc, World.size_setCell, World.size_drew, World.heap_drewN] at hs_w4)
          have OW1 := Lib.hid (owns_laterE OW.out (show Below wr.heap.size wr w4 from (by repeat (first | exact Below.refl _ _ | assumption | (refine below_drewN ?_ _) | (refine Below.drew ?_) | (refine Below.alloc ?_ (by first | omega | (simp; omega) | simp) _) | (refine Below.setCell ?_ (by first | omega | (simp; omega) | simp) _) | (refine below_trans ?_ (by assumption) (by first | omega | (simp; omega) | simp))))))
          go_wp2_with (at_builtin; refine wpList_appendE ?_ (.tmp 24) (.tmp 29) ?_ w.heap.size A cap (8 + 4) (flatE (sgl.take (8 + 4))) ?_ (owns_laterE OW1.out (show Below w4.heap.size w4 _ from (by repeat (first | exact Below.refl _ _ | assumption | (refine below_drewN ?_ _) | (refine Below.drew ?_) | (refine Below.alloc ?_ (by first | omega | (simp; omega) | simp) _) | (refine Below.setCell ?_ (by first | omega | (simp; omega) | simp) _) | (refine below_trans ?_ (by assumption) (by first | omega | (simp; omega) | simp)))))) (some ⟨w4.heap.size, 0, none⟩) 4 4 (flatE [tk 1 0, tk 4 0, tk 5 0, tk 6 0]) ?_ rfl (fun _ => ⟨w4.heap.size, 0, rfl, fl_lies w4 (flatE [tk 1 0, tk 4 0, tk 5 0, tk 6 0]) _⟩) (flatE_one _) (by omega) (by simp; omega) ?_; rfl; rfl; rw [← e9.out]; rfl; rfl; intro A7 cap7 w7 hown7 hg7 hb_w7 hat7; have hs7 := hb_w7.size)
          go_ret
          exact ⟨A7, cap7, rfl, hown7, (by repeat (first | exact Below.refl _ _ | assumption | (refine below_drewN ?_ _) | (refine Below.drew ?_) | (refine Below.alloc ?_ (by first | omega | (simp; omega) | simp) _) | (refine Below.setCell ?_ (by first | omega | (simp; omega) | simp) _) | (refine below_trans ?_ (by assumption) (by first | omega | (simp; omega) | simp))))⟩
end
end Go.Proofs.YtklbamkafldagaaDoor
