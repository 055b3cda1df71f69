/- Plain facts of the document's reading of a line; contracts of the document's package: heads. -/
import Derived.Test.YtklbamkafldagaaDoorSe31
namespace Go.Proofs.YtklbamkafldagaaDoor
open Go.RowKit
set_option linter.unusedVariables false
set_option linter.unusedSimpArgs false

/-- all events that happen once, as the document names them -/
def hds : List Ev := [thr 0, tk 2 0, tk 3 0, thr 1, tk 2 1, tk 3 1, thr 2, tk 2 2, tk 3 2, thr 3, tk 2 3, tk 3 3, tk 1 0, tk 4 0, tk 5 0, tk 6 0]
def kd : Nat → Int
  | 0 => 1
  | 1 => 4
  | 2 => 5
  | _ => 6
theorem hds_three (k : Nat) (hk : k < 4) : flatE (hds.take (3 * k)) ++ flatE [thr k, tk 2 k, tk 3 k] = flatE (hds.take (3 * (k + 1))) := by
  match k, hk with
  | 0, _ => rfl
  | 1, _ => rfl
  | 2, _ => rfl
  | 3, _ => rfl
theorem hds_one (k : Nat) (hk : k < 4) : flatE (hds.take (12 + k)) ++ flatE [tk (kd k) 0] = flatE (hds.take (12 + (k + 1))) := by
  match k, hk with
  | 0, _ => rfl
  | 1, _ => rfl
  | 2, _ => rfl
  | 3, _ => rfl
theorem hds_iff (e : Ev) : e ∈ hds ↔ e ∈ sgl := by
  unfold hds sgl
  simp only [List.mem_cons, List.not_mem_nil, or_false]
  constructor <;> (intro h; rcases h with h | h | h | h | h | h | h | h | h | h | h | h | h | h | h | h <;> simp [h])
section
variable {w : World}
set_option maxRecDepth 100000 in
set_option maxHeartbeats 4000000 in
theorem xheads_any : Calls Tryd.prog 40 #[] w fun e w' => ∃ A cap, e = .returned (.slice A 16 cap) ∧ OwnsE w' w.heap.size (.slice A 16 cap) hds ∧ Below w.heap.size w w' := by
  have H3 := Lib.hid hds_three
  have H1 := Lib.hid hds_one
  go_enter Tryd.func40, Tryd.ntmps40
  go_wp2_with fail
  go_loopw [1, 2] (fun ll ii wr => ∃ (k : Nat) (A : Option Addr) (cap : Nat), ii = .int .i64 (k : Nat) ∧ k ≤ 4 ∧ ll = .slice A (3 * k) cap ∧ wr.ownsRow w.heap.size 41 5 (.slice A (3 * k) cap) (3 * k) (flatE (hds.take (3 * k))) ∧ Below w.heap.size w wr) (fun ll ii _ => 4 - (intOf ii).toNat)
  case atStart => exact ⟨0, none, 0, rfl, Nat.zero_le _, rfl, World.ownsRow_nil _ _ _ _, (by repeat (first | exact Below.refl _ _ | assumption | (refine below_drewN ?_ _) | (refine Below.drew ?_) | (refine Below.alloc ?_ (by first | omega | (simp; omega) | simp) _) | (refine Below.setCell ?_ (by first | omega | (simp; omega) | simp) _) | (refine below_trans ?_ (by assumption) (by first | omega | (simp; omega) | simp))))⟩
  case round =>
    obtain ⟨k, A, cap, rfl, hk, rfl, own, hb_wr⟩ := hrel
    have hsr := hb_wr.size
    by_cases hlt : k < 4
    · have HX := Lib.hid (H3.out k hlt)
      have OW := Lib.hid own
      clear own
      have d1 : decide ((k : Int) < 4) = true := decide_eq_true (by omega)
      go_wp2_with (at_builtin; refine wpList_appendE ?_ (.tmp 9) (.tmp 18) ?_ w.heap.size A cap (3 * k) (flatE (hds.take (3 * k))) ?_ (owns_laterE OW.out (show Below wr.heap.size wr _ from (by repeat (first | exact Below.refl _ _ | assumption | (refine below_drewN ?_ _) | (refine Below.drew ?_) | (refine Below.alloc ?_ (by first | omega | (simp; omega) | simp) _) | (refine Below.setCell ?_ (by first | omega | (simp; omega) | simp) _) | (refine below_trans ?_ (by assumption) (by first | omega | (simp; omega) | simp)))))) (some ⟨wr.heap.size, 0, none⟩) 3 3 (flatE [thr k, tk 2 k, tk 3 k]) ?_ rfl (fun _ => ⟨wr.heap.size, 0, rfl, fl_lies wr (flatE [thr k, tk 2 k, tk 3 k]) _⟩) (flatE_one _) (by omega) (by simp; omega) ?_; rfl; rfl; rfl; rfl; intro A7 cap7 w7 hown7 hg7 hb_w7 hat7; have hs7 := hb_w7.size)
      rw [HX.out] at hown7
      go_roundw
      case rel => exact ⟨k + 1, A7, cap7, by go_num, by omega, by rw [show 3 * (k + 1) = 3 * k + 3 by omega], by rw [show 3 * (k + 1) = 3 * k + 3 by omega] at hown7 ⊢; exact hown7, (by repeat (first | exact Below.refl _ _ | assumption | (refine below_drewN ?_ _) | (refine Below.drew ?_) | (refine Below.alloc ?_ (by first | omega | (simp; omega) | simp) _) | (refine Below.setCell ?_ (by first | omega | (simp; omega) | simp) _) | (refine below_trans ?_ (by assumption) (by first | omega | (simp; omega) | simp))))⟩
      case measure => simp [intOf]; omega
    · have hk4 : k = 4 := by omega
      have OW : Hid (wr.ownsRow w.heap.size 41 5 (.slice A (12 + 0) cap) (12 + 0) (flatE (hds.take (12 + 0)))) := Lib.hid (by
        subst hk4
        exact own)
      have e8 : Hid (3 * k = 12 + 0) := Lib.hid (by omega)
      clear own hk4
      have d1 : decide ((k : Int) < 4) = false := decide_eq_false (by omega)
      go_wp2_with fail
      generalize wr = wA at *
      have hsA := hb_wr.size
      go_loopw [1, 22] (fun ll ii wr => ∃ (k : Nat) (A : Option Addr) (cap : Nat), ii = .int .i64 (k : Nat) ∧ k ≤ 4 ∧ ll = .slice A (12 + k) cap ∧ wr.ownsRow w.heap.size 41 5 (.slice A (12 + k) cap) (12 + k) (flatE (hds.take (12 + k))) ∧ (∀ j, j < 4 → wr.cell? ⟨wA.heap.size, j, none⟩ = some (.int .u8 (kd j))) ∧ wA.heap.size < wr.heap.size ∧ Hid (∀ g, A = some ⟨g, 0, none⟩ → g ≠ wA.heap.size) ∧ Below w.heap.size w wr) (fun ll ii _ => 4 - (intOf ii).toNat)
      case atStart => exact ⟨0, A, cap, rfl, Nat.zero_le _, by rw [e8.out], owns_laterE OW.out (Below.alloc (Below.refl _ _) (Nat.le_refl _) _), fun j hj => (by
        match j, hj with
        | 0, _ => simp [go_sem, kd]
        | 1, _ => simp [go_sem, kd]
        | 2, _ => simp [go_sem, kd]
        | 3, _ => simp [go_sem, kd]), by simp, Lib.hid (fun g hg => by
          subst hg
          have := (World.ownsRow.lt OW.out g rfl).2
          omega), (by repeat (first | exact Below.refl _ _ | assumption | (refine below_drewN ?_ _) | (refine Below.drew ?_) | (refine Below.alloc ?_ (by first | omega | (simp; omega) | simp) _) | (refine Below.setCell ?_ (by first | omega | (simp; omega) | simp) _) | (refine below_trans ?_ (by assumption) (by first | omega | (simp; omega) | simp))))⟩
      case round =>
        clear OW e8 d1 hlt hk hb_wr
        obtain ⟨k, A, cap, rfl, hk, rfl, own, hkd, hz, hF, hb_wr⟩ := hrel
        have hsr2 := hb_wr.size
        have OW := Lib.hid own
        have HKD := Lib.hid hkd
        clear own
        by_cases hlt : k < 4
        · have HX := Lib.hid (H1.out k hlt)
          have d1 : decide ((k : Int) < 4) = true := decide_eq_true (by omega)
          have hk0 : (0 : Int) ≤ (k : Int) := by omega
          have hk1 : (k : Int) < 4 := by omega
          have c0 := hkd k hlt
          clear hkd
          have e1 : flatE [tk (kd k) 0] = [.bool false, .int .i64 0, .int .u8 (kd k), .int .i64 0, .int .i64 1] := rfl
          have HLI := Lib.hid (fl_lies wr (flatE [tk (kd k) 0]) 41)
          rw [e1] at HX HLI
          generalize kd k = K at *
          go_wp2_with (at_builtin; refine wpList_appendE ?_ (.tmp 26) (.tmp 30) ?_ w.heap.size A cap (12 + k) (flatE (hds.take (12 + k))) ?_ (owns_laterE OW.out (show Below wr.heap.size wr _ from (by repeat (first | exact Below.refl _ _ | assumption | (refine below_drewN ?_ _) | (refine Below.drew ?_) | (refine Below.alloc ?_ (by first | omega | (simp; omega) | simp) _) | (refine Below.setCell ?_ (by first | omega | (simp; omega) | simp) _) | (refine below_trans ?_ (by assumption) (by first | omega | (simp; omega) | simp)))))) (some ⟨wr.heap.size, 0, none⟩) 1 1 [.bool false, .int .i64 0, .int .u8 K, .int .i64 0, .int .i64 1] ?_ rfl (fun _ => ⟨wr.heap.size, 0, rfl, HLI.out⟩) (by simp [Value.oneCell']) (by omega) (by simp; omega) ?_; rfl; rfl; rfl; rfl; intro A7 cap7 w7 hown7 hg7 hb_w7 hat7; have hs7 := hg7.size; (try simp only [World.size_alloc] at hs7))
          rw [HX.out] at hown7
          have HK7 : Hid (∀ j, j < 4 → w7.cell? ⟨wA.heap.size, j, none⟩ = some (.int .u8 (kd j))) := Lib.hid (fun j hj => (World.cell?_of_block (hg7.block wA.heap.size (by simp; omega) (by
              intro e9
              cases hFF : A with
              | none => rw [hFF] at e9; cases e9
              | some ad =>
                rw [hFF] at e9
                simp only [Option.map_some, Option.some.injEq] at e9
                obtain ⟨_, ⟨e8, _⟩ | ⟨g8, _, _, e8, _⟩⟩ := OW.out
                · injection e8 with e8; rw [hFF] at e8; cases e8
                · injection e8 with e8
                  have e7 := hF.out g8 e8
                  rw [hFF] at e8
                  injection e8 with e8
                  rw [e8] at e9
                  exact e7 e9.symm))).trans ((World.cell?_alloc_lt _ _ ⟨_, _, _⟩ hz).trans (HKD.out j hj)))
          have HF7 : Hid (∀ g, A7 = some ⟨g, 0, none⟩ → g ≠ wA.heap.size) := Lib.hid (fun g hg => by
            rcases hat7 with h7 | h7
            · rw [h7] at hg
              exact hF.out g hg
            · rw [h7] at hg
              injection hg with hg
              injection hg with hg _
              simp only [World.size_alloc] at hg
              omega)
          have HO7 := Lib.hid hown7
          have HB7 := Lib.hid (show Below w.heap.size w w7 from below_trans (show Below w.heap.size w _ from (by repeat (first | exact Below.refl _ _ | assumption | (refine below_drewN ?_ _) | (refine Below.drew ?_) | (refine Below.alloc ?_ (by first | omega | (simp; omega) | simp) _) | (refine Below.setCell ?_ (by first | omega | (simp; omega) | simp) _) | (refine below_trans ?_ (by assumption) (by first | omega | (simp; omega) | simp))))) hb_w7 (Nat.le_refl _))
          clear hown7 hg7 hb_w7 hat7
          go_roundw
          case rel => exact ⟨k + 1, A7, cap7, by go_num, by omega, by rw [show 12 + (k + 1) = 12 + k + 1 by omega], by rw [show 12 + (k + 1) = 12 + k + 1 by omega] at HO7 ⊢; exact HO7.out, HK7.out, by omega, HF7, HB7.out⟩
          case measure => simp [intOf]; omega
        · have OW9 : Hid (OwnsE wr w.heap.size (.slice A 16 cap) hds) := Lib.hid (by
            obtain rfl : k = 4 := by omega
            exact OW.out)
          have d1 : decide ((k : Int) < 4) = false := decide_eq_false (by omega)
          have e9 : 12 + k = 16 := by omega
          rw [e9]
          clear OW hkd e9 hk
          go_wp2
          go_ret
          exact ⟨A, cap, rfl, OW9.out, (by repeat (first | exact Below.refl _ _ | assumption | (refine below_drewN ?_ _) | (refine Below.drew ?_) | (refine Below.alloc ?_ (by first | omega | (simp; omega) | simp) _) | (refine Below.setCell ?_ (by first | omega | (simp; omega) | simp) _) | (refine below_trans ?_ (by assumption) (by first | omega | (simp; omega) | simp))))⟩
end
end Go.Proofs.YtklbamkafldagaaDoor
