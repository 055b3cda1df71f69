/- slices.Compact of words. -/
import Derived.Test.YtamnfgpoelbgcaaV29
namespace Go.Proofs.Ytamnfgpoelbgcaa
open Go.RowKit
set_option linter.unusedVariables false
set_option linter.unusedSimpArgs false

/-- words that can be written, in block g -/
structure WI (w : World) (g : Nat) (xs : List Int) : Prop where
  at_ : ∀ i, i < xs.length → w.cell? ⟨g, i, none⟩ = some (.int .u64 (xs.getD i 0)) ∧ w.frozen? ⟨g, i, none⟩ = false
theorem getD_set_int (xs : List Int) (i j : Nat) (v : Int) (hi : i < xs.length) : (xs.set i v).getD j 0 = if j = i then v else xs.getD j 0 := by
  rw [List.getD_eq_getElem?_getD, List.getElem?_set, List.getD_eq_getElem?_getD]
  by_cases h : i = j
  · subst h
    simp [hi]
  · rw [if_neg h, if_neg (fun e => h e.symm)]
theorem WI.set {w : World} {g : Nat} {xs : List Int} (h : WI w g xs) (i : Nat) (v : Int) (hi : i < xs.length) : WI (w.setCell ⟨g, i, none⟩ (.int .u64 v)) g (xs.set i v) :=
  ⟨fun j hj => by
    rw [List.length_set] at hj
    obtain ⟨c, f⟩ := h.at_ j hj
    rw [getD_set_int xs i j v hi]
    by_cases e : j = i
    · subst e
      rw [if_pos rfl]
      exact ⟨World.cell?_setCell_same _ _ _ c, by rw [World.frozen?_setCell]; exact f⟩
    · rw [if_neg e]
      exact ⟨(World.cell?_setCell_other _ _ _ _ (by intro h; injection h; omega)).trans c, by rw [World.frozen?_setCell]; exact f⟩⟩
theorem WI.later {w w' : World} {g : Nat} {xs : List Int} (h : WI w g xs) (hb : Below w.heap.size w w') (hg : g < w.heap.size) : WI w' g xs :=
  ⟨fun i hi => ⟨((bcell hb).1 _ _ hg).trans (h.at_ i hi).1, ((bcell hb).2 _ _ hg).trans (h.at_ i hi).2⟩⟩
theorem WI.of_owns {w : World} {B g n cap : Nat} {xs : List Int} (h : w.ownsRow B 23 1 (.slice (some ⟨g, 0, none⟩) n cap) n (intsV xs)) (hn : xs.length = n) : WI w g xs :=
  ⟨fun i hi => ⟨by
    rw [h.cellAt i (by omega)]
    unfold intsV
    rw [List.getElem?_map, List.getD_eq_getElem?_getD, List.getElem?_eq_getElem hi]
    rfl, h.frozenAt i⟩⟩
set_option maxHeartbeats 4000000 in
theorem ccompact_flat {w : World} {g n : Nat} (cap : Nat) {xs : List Int} (h : WI w g xs) (hn : xs.length = n) (hg : g < w.heap.size) (hcn : n ≤ cap) (hcc : n ≤ 1000000) (hne : ∀ j, j + 1 < n → xs.getD j 0 ≠ xs.getD (j + 1) 0) :
    Calls Try.prog 31 #[.slice (some ⟨g, 0, none⟩) n cap] w fun e w' => e = .returned (.slice (some ⟨g, 0, none⟩) n cap) ∧ WI w' g xs ∧ Below w.heap.size w w' := by
  have HN := Lib.hid hn
  have HNE := Lib.hid hne
  clear hn hne
  go_enter Try.func31, Try.ntmps31
  by_cases h2 : n < 2
  · go_wp2
    go_ret
    exact ⟨rfl, h, (by repeat (first | exact Below.refl _ _ | assumption | (refine below_drewN ?_ _) | (refine Below.drew ?_) | (refine Below.alloc ?_ (by first | omega | (simp; omega) | simp) _) | (refine Below.setCell ?_ (by first | omega | (simp; omega) | simp) _) | (refine below_trans ?_ (by assumption) (by first | omega | (simp; omega) | simp))))⟩
  · go_wp2_with fail
    go_loopw [3] (fun kk wr => ∃ k : Nat, kk = .int .i64 ((k : Int) + 1) ∧ k + 1 ≤ n ∧ WI wr g xs ∧ w.heap.size ≤ wr.heap.size ∧ Below w.heap.size w wr) (fun kk _ => n - (intOf kk).toNat)
    case atStart => exact ⟨0, rfl, by omega, h, (by first | omega | (simp; omega) | simp), (by repeat (first | exact Below.refl _ _ | assumption | (refine below_drewN ?_ _) | (refine Below.drew ?_) | (refine Below.alloc ?_ (by first | omega | (simp; omega) | simp) _) | (refine Below.setCell ?_ (by first | omega | (simp; omega) | simp) _) | (refine below_trans ?_ (by assumption) (by first | omega | (simp; omega) | simp))))⟩
    case round =>
      obtain ⟨k, rfl, hk, hW, hsz, hb_wr⟩ := hrel
      have hsr := hb_wr.size
      by_cases hlt : k + 1 < n
      · have q0 := (hW.at_ k (by rw [HN.out]; omega)).1
        have q1 := (hW.at_ (k + 1) (by rw [HN.out]; omega)).1
        have hd := HNE.out k hlt
        generalize xs.getD k 0 = y0 at *
        generalize xs.getD (k + 1) 0 = y1 at *
        have f1 : (y1 == y0) = false := by simpa using fun e : y1 = y0 => hd e.symm
        clear hd
        have i1 : (k : Int) + 1 < (n : Int) := by omega
        have i2 : (0 : Int) ≤ (k : Int) + 1 := by omega
        have i3 : (k : Int) < (n : Int) := by omega
        have i4 : (0 : Int) ≤ (k : Int) := by omega
        have hw2 : IntKind.i64.wrap ((k : Int) + 1 - 1) = (k : Int) := by rw [IntWalk.i64_in _ (by omega)]; omega
        have hw4 : IntKind.i64.wrap (k : Int) = (k : Int) := by rw [IntWalk.i64_in _ (by omega)]
        go_wp2_with fail
        go_quiet (fail)
        go_wp2
        go_roundw
        case rel => exact ⟨k + 1, by go_num, by omega, hW.later (by repeat (first | exact Below.refl _ _ | assumption | (refine below_drewN ?_ _) | (refine Below.drew ?_) | (refine Below.alloc ?_ (by first | omega | (simp; omega) | simp) _) | (refine Below.setCell ?_ (by first | omega | (simp; omega) | simp) _) | (refine below_trans ?_ (by assumption) (by first | omega | (simp; omega) | simp)))) (by first | omega | (simp; omega) | simp), (by first | omega | (simp; omega) | simp), (by repeat (first | exact Below.refl _ _ | assumption | (refine below_drewN ?_ _) | (refine Below.drew ?_) | (refine Below.alloc ?_ (by first | omega | (simp; omega) | simp) _) | (refine Below.setCell ?_ (by first | omega | (simp; omega) | simp) _) | (refine below_trans ?_ (by assumption) (by first | omega | (simp; omega) | simp))))⟩
        case measure => simp [intOf]; omega
      · go_wp2
        go_ret
        exact ⟨rfl, hW, (by repeat (first | exact Below.refl _ _ | assumption | (refine below_drewN ?_ _) | (refine Below.drew ?_) | (refine Below.alloc ?_ (by first | omega | (simp; omega) | simp) _) | (refine Below.setCell ?_ (by first | omega | (simp; omega) | simp) _) | (refine below_trans ?_ (by assumption) (by first | omega | (simp; omega) | simp))))⟩
end Go.Proofs.Ytamnfgpoelbgcaa
