/- What counting, searching and common bits come to: plain facts. -/
import Derived.Test.YtndaccekemjdmaaGreatDoorBase
namespace Go.Proofs.YtndaccekemjdmaaGreatDoor
open Go

def countTo (ws : List Nat) : Nat → Nat
  | 0 => 0
  | k + 1 => countTo ws k + if tb ws k then 1 else 0
theorem countTo_le (ws : List Nat) (k : Nat) : countTo ws k ≤ k := by
  induction k with
  | zero => exact Nat.le_refl _
  | succ k ih => unfold countTo; split <;> omega

/-- what First tells: the first bit from a on that is v, or that there is none -/
def FirstP (ws : List Nat) (v : Bool) (a n i why : Int) : Prop :=
  (why = 0 ∧ a ≤ i ∧ i < n ∧ tb ws i.toNat = v ∧ ∀ j : Nat, a ≤ j → (j : Int) < i → tb ws j ≠ v) ∨ (why = 3 ∧ i = 0 ∧ ∀ j : Nat, a ≤ j → (j : Int) < n → tb ws j ≠ v)
theorem FirstP.one {ws : List Nat} {v : Bool} {a n i why i' why' : Int} (h : FirstP ws v a n i why) (h' : FirstP ws v a n i' why') (ha : 0 ≤ a) : i = i' ∧ why = why' := by
  rcases h with ⟨rfl, h1, h2, h3, h4⟩ | ⟨rfl, rfl, h4⟩ <;> rcases h' with ⟨rfl, g1, g2, g3, g4⟩ | ⟨rfl, rfl, g4⟩
  · refine ⟨?_, rfl⟩
    by_cases e : i < i'
    · exact absurd h3 (g4 i.toNat (by omega) (by omega))
    · by_cases e' : i' < i
      · exact absurd g3 (h4 i'.toNat (by omega) (by omega))
      · omega
  · exact absurd h3 (g4 i.toNat (by omega) (by omega))
  · exact absurd g3 (h4 i'.toNat (by omega) (by omega))
  · exact ⟨rfl, rfl⟩

/-- how many bits that are 0 stand one behind the other just ahead of bit k -/
def zs (ws : List Nat) : Nat → Nat
  | 0 => 0
  | k + 1 => if tb ws k then 0 else zs ws k + 1
theorem zs_le (ws : List Nat) (k : Nat) : zs ws k ≤ k := by
  induction k with
  | zero => exact Nat.le_refl _
  | succ k ih => unfold zs; split <;> omega
theorem zs_zero (ws : List Nat) (k j : Nat) (h : k - zs ws k ≤ j) (hj : j < k) : tb ws j = false := by
  induction k with
  | zero => omega
  | succ k ih =>
    unfold zs at h
    cases hb : tb ws k
    · rw [hb] at h
      simp only [Bool.false_eq_true, if_false] at h
      by_cases e : j = k
      · rw [e]; exact hb
      · exact ih (by omega) (by omega)
    · rw [hb] at h
      simp only [if_true] at h
      omega
theorem zs_ahead (ws : List Nat) (k : Nat) (h : 0 < k - zs ws k) : tb ws (k - zs ws k - 1) = true := by
  induction k with
  | zero => omega
  | succ k ih =>
    unfold zs at h ⊢
    cases hb : tb ws k
    · rw [hb] at h
      simp only [Bool.false_eq_true, if_false] at h ⊢
      rw [show k + 1 - (zs ws k + 1) = k - zs ws k by omega] at h ⊢
      exact ih h
    · simp only [if_true]
      exact hb
/-- what Run tells -/
def RunP (ws : List Nat) (c n i why : Int) : Prop :=
  (why = 0 ∧ ∃ k : Nat, (k : Int) < n ∧ (zs ws (k + 1) : Int) = c ∧ (∀ j : Nat, j ≤ k → (zs ws j : Int) ≠ c) ∧ i = k - c + 1) ∨ (why = 3 ∧ i = 0 ∧ ∀ j : Nat, (j : Int) ≤ n → (zs ws j : Int) ≠ c)
theorem RunP.one {ws : List Nat} {c n i why i' why' : Int} (h : RunP ws c n i why) (h' : RunP ws c n i' why') : i = i' ∧ why = why' := by
  rcases h with ⟨rfl, k, h1, h2, h3, rfl⟩ | ⟨rfl, rfl, h4⟩ <;> rcases h' with ⟨rfl, k', g1, g2, g3, rfl⟩ | ⟨rfl, rfl, g4⟩
  · refine ⟨?_, rfl⟩
    by_cases e : k < k'
    · exact absurd h2 (g3 (k + 1) (by omega))
    · by_cases e' : k' < k
      · exact absurd g2 (h3 (k' + 1) (by omega))
      · omega
  · exact absurd h2 (g4 (k + 1) (by omega))
  · exact absurd g2 (h4 (k' + 1) (by omega))
  · exact ⟨rfl, rfl⟩

/-- what two have in common, in the first k words -/
def bothTo (a b : List Nat) : Nat → List Nat
  | 0 => a
  | k + 1 => (bothTo a b k).set k (a.getD k 0 &&& b.getD k 0)
theorem length_bothTo (a b : List Nat) (k : Nat) : (bothTo a b k).length = a.length := by
  induction k with
  | zero => rfl
  | succ k ih => rw [bothTo, List.length_set, ih]
theorem bothTo_at (a b : List Nat) (k j : Nat) : (bothTo a b k).getD j 0 = if j < k ∧ j < a.length then a.getD j 0 &&& b.getD j 0 else a.getD j 0 := by
  induction k with
  | zero => rw [if_neg (by omega)]; rfl
  | succ k ih =>
    rw [bothTo]
    by_cases e : j = k
    · subst e
      by_cases hj : j < a.length
      · rw [if_pos ⟨by omega, hj⟩, List.getD_eq_getElem?_getD, List.getElem?_set_self (by rw [length_bothTo]; exact hj)]
        rfl
      · rw [if_neg (by omega), List.getD_eq_getElem?_getD, List.getElem?_eq_none (by rw [List.length_set, length_bothTo]; omega), List.getD_eq_getElem?_getD, List.getElem?_eq_none (by omega)]
    · rw [List.getD_eq_getElem?_getD, List.getElem?_set_ne (Ne.symm e), ← List.getD_eq_getElem?_getD, ih]
      by_cases hj : j < k ∧ j < a.length
      · rw [if_pos hj, if_pos (by omega)]
      · rw [if_neg hj, if_neg (by omega)]
theorem words_bothTo {a b : List Nat} (ha : Words a) (k : Nat) : Words (bothTo a b k) := by
  induction k with
  | zero => exact ha
  | succ k ih =>
    intro x hx
    rcases List.mem_or_eq_of_mem_set hx with hx | rfl
    · exact ih x hx
    · exact Nat.lt_of_le_of_lt Nat.and_le_left (ha.at_ k)
theorem tb_both (a b : List Nat) (i : Nat) (hl : a.length = b.length) : tb (bothTo a b a.length) i = (tb a i && tb b i) := by
  unfold tb
  rw [bothTo_at]
  by_cases hj : i / 64 < a.length
  · rw [if_pos ⟨hj, hj⟩, Nat.testBit_and]
  · rw [if_neg (by omega), List.getD_eq_getElem?_getD, List.getElem?_eq_none (by omega)]
    simp
theorem and_form (x y : Nat) (hx : x < W64) (hy : y < W64) : bits .and .u64 (x : Int) (y : Int) = ((x &&& y : Nat) : Int) := by
  unfold W64 at hx hy
  exact u64_and_nat x y hx hy
end Go.Proofs.YtndaccekemjdmaaGreatDoor
