/- Words that are laid over others: plain facts. -/
import Derived.Test.YtofkdpgnngbkfaaSpec
import Derived.Test.YtofkdpgnngbkfaaOwn
namespace Go.Proofs.Ytofkdpgnngbkfaa
open Go Go.RowKit
set_option linter.unusedVariables false
set_option linter.unusedSimpArgs false

def overTo (us : List Nat) (a : Nat) (f : Nat → Nat) : Nat → List Nat
  | 0 => us
  | k + 1 => (overTo us a f k).set (a + k) (f k)
theorem length_overTo (us : List Nat) (a : Nat) (f : Nat → Nat) (k : Nat) : (overTo us a f k).length = us.length := by
  induction k with
  | zero => rfl
  | succ k ih => rw [overTo, List.length_set, ih]
theorem overTo_at (us : List Nat) (a : Nat) (f : Nat → Nat) (k j : Nat) : (overTo us a f k).getD j 0 = if a ≤ j ∧ j < a + k ∧ j < us.length then f (j - a) else us.getD j 0 := by
  induction k with
  | zero => rw [if_neg (by omega)]; rfl
  | succ k ih =>
    rw [overTo]
    by_cases e : j = a + k
    · subst e
      by_cases hj : a + k < us.length
      · rw [if_pos ⟨by omega, by omega, hj⟩, List.getD_eq_getElem?_getD, List.getElem?_set_self (by rw [length_overTo]; exact hj), Option.getD_some, Nat.add_sub_cancel_left]
      · rw [if_neg (by omega), List.getD_eq_getElem?_getD, List.getElem?_eq_none (by rw [List.length_set, length_overTo]; omega), List.getD_eq_getElem?_getD, List.getElem?_eq_none (by omega)]
    · rw [List.getD_eq_getElem?_getD, List.getElem?_set_ne (fun h => e h.symm), ← List.getD_eq_getElem?_getD, ih]
      by_cases h : a ≤ j ∧ j < a + k ∧ j < us.length
      · rw [if_pos h, if_pos (by omega)]
      · rw [if_neg h, if_neg (by omega)]
theorem words_overTo {us : List Nat} (hu : Words us) (a : Nat) {f : Nat → Nat} (hf : ∀ i, f i < W64) (k : Nat) : Words (overTo us a f k) := by
  induction k with
  | zero => exact hu
  | succ k ih =>
    intro x hx
    rcases List.mem_or_eq_of_mem_set hx with hx | rfl
    · exact ih x hx
    · exact hf k
theorem getD_ext {a b : List Nat} (hl : a.length = b.length) (h : ∀ i, i < a.length → a.getD i 0 = b.getD i 0) : a = b :=
  List.ext_getElem hl fun i h1 h2 => by
    have := h i h1
    simpa [h1, h2] using this
theorem splice_at (us vs : List Nat) (a j : Nat) (h : a + vs.length ≤ us.length) (hj : j < us.length) : (splice us a vs).getD j 0 = if a ≤ j ∧ j < a + vs.length then vs.getD (j - a) 0 else us.getD j 0 := by
  unfold splice
  simp only [List.getD_eq_getElem?_getD]
  by_cases h1 : j < a
  · rw [if_neg (by omega), List.getElem?_append_left (by rw [List.length_take]; omega), List.getElem?_take, if_pos h1]
  · rw [List.getElem?_append_right (by rw [List.length_take]; omega), List.length_take, show min a us.length = a by omega]
    by_cases h2 : j < a + vs.length
    · rw [if_pos ⟨by omega, h2⟩, List.getElem?_append_left (by omega)]
    · rw [if_neg (by omega), List.getElem?_append_right (by omega), List.getElem?_drop, show a + vs.length + (j - a - vs.length) = j by omega]
theorem splice_over (us vs : List Nat) (a : Nat) (f : Nat → Nat) (h : a + vs.length ≤ us.length) (hf : ∀ i, i < vs.length → vs.getD i 0 = f i) : splice us a vs = overTo us a f vs.length := by
  refine getD_ext (by rw [length_splice _ _ _ h, length_overTo]) fun j hj => ?_
  rw [length_splice _ _ _ h] at hj
  rw [splice_at us vs a j h hj, overTo_at]
  by_cases h1 : a ≤ j ∧ j < a + vs.length
  · rw [if_pos h1, if_pos ⟨h1.1, h1.2, hj⟩]
    exact hf _ (by omega)
  · rw [if_neg h1, if_neg (by omega)]
theorem vals_splice (us vs : List Nat) (a : Nat) : splice (vals us) a (vals vs) = vals (splice us a vs) := by
  unfold splice vals
  simp
theorem part_at (ws : List Nat) (a n i : Nat) (hi : i < n) : ((ws.drop a).take n).getD i 0 = ws.getD (a + i) 0 := by
  simp only [List.getD_eq_getElem?_getD, List.getElem?_take, List.getElem?_drop, hi, if_true]
theorem length_part (ws : List Nat) (a n : Nat) (h : a + n ≤ ws.length) : ((ws.drop a).take n).length = n := by
  rw [List.length_take, List.length_drop]; omega
theorem words_part {ws : List Nat} (h : Words ws) (a n : Nat) : Words ((ws.drop a).take n) := fun x hx => h x (List.mem_of_mem_drop (List.mem_of_mem_take hx))

/-- cells in the middle of what a call owns are laid anew -/
theorem Own.setCells {w : World} {B g : Nat} {ws : List Nat} (h : Own w B (some ⟨g, 0, none⟩) ws) {a : Nat} {vs : List Nat} (hv : Words vs) (hl : a + vs.length ≤ ws.length) : Own (w.setCells g a (vals vs)) B (some ⟨g, 0, none⟩) (splice ws a vs) := by
  induction vs generalizing w a ws with
  | nil =>
    have e : splice ws a [] = ws := by unfold splice; simp
    rw [e]
    exact h
  | cons v vs ih =>
    have hl' : a + 1 + vs.length ≤ ws.length := by simp only [List.length_cons] at hl; omega
    have h1 := h.set_ (i := a) (x := v) rfl (by omega) (hv v (by simp))
    have h2 := ih (w := w.setCell ⟨g, a, none⟩ (.int .u64 (v : Nat))) (a := a + 1) (ws := ws.set a v) h1 (fun x hx => hv x (by simp [hx])) (by rw [List.length_set]; exact hl')
    have e : splice (ws.set a v) (a + 1) vs = splice ws a (v :: vs) := by
      have hL : a + (v :: vs).length ≤ ws.length := hl
      have hS : a + 1 + vs.length ≤ (ws.set a v).length := by rw [List.length_set]; exact hl'
      refine getD_ext (by rw [length_splice _ _ _ hS, length_splice _ _ _ hL, List.length_set]) fun j hj => ?_
      rw [length_splice _ _ _ hS] at hj
      rw [splice_at _ _ _ _ hS hj, splice_at _ _ _ _ hL (by rw [List.length_set] at hj; exact hj)]
      simp only [List.length_cons]
      by_cases e1 : j = a
      · subst e1
        rw [if_neg (by omega), if_pos (by omega), Nat.sub_self]
        rw [List.length_set] at hj
        simp [hj]
      · by_cases e2 : a + 1 ≤ j ∧ j < a + 1 + vs.length
        · rw [if_pos e2, if_pos (by omega)]
          obtain ⟨d, rfl⟩ : ∃ d, j = a + 1 + d := ⟨j - (a + 1), by omega⟩
          rw [show a + 1 + d - (a + 1) = d by omega, show a + 1 + d - a = d + 1 by omega]
          simp
        · rw [if_neg e2, if_neg (by omega)]
          simp only [List.getD_eq_getElem?_getD]
          rw [List.getElem?_set_ne (fun h => e1 h.symm)]
    rw [← e]
    exact h2
end Go.Proofs.Ytofkdpgnngbkfaa
