/- Plain facts: what is told of an address behind an addition. -/
import Derived.Test.YtamnfgpoelbgcaaV20
namespace Go.Proofs.Ytamnfgpoelbgcaa
open Go.RowKit
set_option linter.unusedVariables false
set_option linter.unusedSimpArgs false

theorem ownsC_len {w : World} {B n cap : Nat} {A : Option Addr} {l : List Sc} (hn : l.length = n) (h : OwnsC w B (.slice A n cap) l) : OwnsC w B (.slice A l.length cap) l := by
  subst hn
  exact h
theorem filter_addC (l : List Sc) (s : Sc) (p : Sc → Bool) : (addC l s).filter p = (l.take (bh l s.a)).filter p ++ ((if p s then [s] else []) ++ (l.drop (bh l s.a)).filter p) := by
  unfold addC
  rw [List.filter_append, List.filter_cons]
  split <;> simp
theorem filter_split (l : List Sc) (n : Nat) (p : Sc → Bool) : l.filter p = (l.take n).filter p ++ (l.drop n).filter p := by
  rw [← List.filter_append, List.take_append_drop]
theorem none_behind {l : List Sc} (h : Good l) (x : Int) (p : Sc → Bool) (hp : ∀ s, p s = true → s.a = x) : (l.drop (bh l x)).filter p = [] := by
  rw [List.filter_eq_nil_iff]
  intro s hs hps
  have := h.behind x s hs
  have := hp s hps
  omega
theorem nthC_last (l : List Sc) (s : Sc) : nthC (l ++ [s]) l.length = s := by
  unfold nthC
  simp
theorem of_add {l : List Sc} (h : Good l) (s : Sc) : (addC l s).filter (ofP s.a) = l.filter (ofP s.a) ++ [s] := by
  have h1 := none_behind h s.a (ofP s.a) (fun t ht => by unfold ofP at ht; simpa using ht)
  rw [filter_addC, filter_split l (bh l s.a), h1, show ofP s.a s = true by unfold ofP; simp]
  simp
theorem of_other (l : List Sc) (s : Sc) (x : Int) (hx : s.a ≠ x) : (addC l s).filter (ofP x) = l.filter (ofP x) := by
  rw [filter_addC, filter_split l (bh l s.a), show ofP x s = false by unfold ofP; simpa using hx]
  simp
theorem take_add {l : List Sc} (h : Good l) (s : Sc) : (addC l s).filter (takeP s.a s.k) = l.filter (takeP s.a s.k) ++ [s] := by
  have h1 := none_behind h s.a (takeP s.a s.k) (fun t ht => by unfold takeP at ht; simp only [Bool.and_eq_true, beq_iff_eq] at ht; exact ht.1)
  rw [filter_addC, filter_split l (bh l s.a), h1, show takeP s.a s.k s = true by unfold takeP; simp]
  simp
theorem left_all (l : List Sc) (x k : Int) (h : l.filter (takeP x k) = []) : l.filter (leftP x k) = l := by
  rw [List.filter_eq_self]
  intro s hs
  have := List.filter_eq_nil_iff.1 h s hs
  show (!takeP x k s) = true
  simpa using this
theorem left_add (l : List Sc) (s : Sc) (h : l.filter (takeP s.a s.k) = []) : (addC l s).filter (leftP s.a s.k) = l := by
  rw [filter_addC, show leftP s.a s.k s = false by unfold leftP; simp]
  simp only [Bool.false_eq_true, if_false, List.nil_append]
  rw [← List.filter_append, List.take_append_drop]
  exact left_all l _ _ h
theorem stC_one (l : List Sc) (s : Sc) : stC l [s] 1 = addC l s := rfl
theorem stC_two (l : List Sc) (a b : Sc) : stC l [a, b] 2 = addC (addC l a) b := rfl
/-- what is told where one is added -/
theorem add_one {l : List Sc} (s : Sc) : (∃ m y, AddE l [s] m y ∧ ¬ OkC l ∧ m = [] ∧ y = 2) ∨ (OkC l ∧ refC l s = 0 ∧ AddE l [s] (addC l s) 0) ∨ (OkC l ∧ ∃ y, refC l s = y ∧ y ≠ 0 ∧ AddE l [s] l y) := by
  by_cases h : OkC l
  · by_cases hr : refC l s = 0
    · exact .inr (.inl ⟨h, hr, .inr (.inl ⟨h, fun j hj => by
        have : j = 0 := by simp at hj; omega
        subst this
        exact hr, rfl, rfl⟩)⟩)
    · exact .inr (.inr ⟨h, _, rfl, hr, .inr (.inr ⟨0, h, by simp, fun j hj => by omega, rfl, hr, rfl⟩)⟩)
  · exact .inl ⟨_, _, .inl ⟨h, rfl, rfl⟩, h, rfl, rfl⟩
end Go.Proofs.Ytamnfgpoelbgcaa
