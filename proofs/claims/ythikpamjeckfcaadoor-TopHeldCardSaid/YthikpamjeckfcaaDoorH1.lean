/- Runs that are held, side by side with the pages of which they are: plain facts. -/
import Derived.Test.YthikpamjeckfcaaDoorPSpec
namespace Go.Proofs.YthikpamjeckfcaaDoor
open Go

structure Held (n : Nat) (us fs ss : List Nat) : Prop where
  len : fs.length = ss.length
  in_ : ∀ t, t < fs.length → 1 ≤ ss.getD t 0 ∧ fs.getD t 0 + ss.getD t 0 ≤ n
  used : ∀ j, j < n → (tb us j = true ↔ ∃ t, t < fs.length ∧ fs.getD t 0 ≤ j ∧ j < fs.getD t 0 + ss.getD t 0)
  apart : ∀ s t, s < t → t < fs.length → fs.getD s 0 + ss.getD s 0 ≤ fs.getD t 0 ∨ fs.getD t 0 + ss.getD t 0 ≤ fs.getD s 0
theorem held_nil (n : Nat) (us : List Nat) (h : ∀ j, j < n → tb us j = false) : Held n us [] [] :=
  ⟨rfl, fun t ht => by simp at ht, fun j hj => by rw [h j hj]; simp, fun s t _ ht => by simp at ht⟩
theorem Held.at_ {n : Nat} {us fs ss : List Nat} (h : Held n us fs ss) {t j : Nat} (ht : t < fs.length) (h1 : fs.getD t 0 ≤ j) (h2 : j < fs.getD t 0 + ss.getD t 0) : tb us j = true :=
  (h.used j (by have := (h.in_ t ht).2; omega)).2 ⟨t, ht, h1, h2⟩
theorem Held.off {n : Nat} {us fs ss : List Nat} (h : Held n us fs ss) {a c t : Nat} (hf : FitAt us a c) (hc : 1 ≤ c) (ht : t < fs.length) : ¬ (a < fs.getD t 0 + ss.getD t 0 ∧ fs.getD t 0 < a + c) := by
  rintro ⟨h1, h2⟩
  have hs := (h.in_ t ht).1
  by_cases e : a ≤ fs.getD t 0
  · have := h.at_ ht (j := fs.getD t 0) (Nat.le_refl _) (by omega)
    rw [hf _ e h2] at this
    cases this
  · have := h.at_ ht (j := a) (by omega) h1
    rw [hf a (Nat.le_refl _) (by omega)] at this
    cases this
theorem getD_snoc (fs : List Nat) (a t : Nat) : (fs ++ [a]).getD t 0 = if t = fs.length then a else fs.getD t 0 := by
  simp only [List.getD_eq_getElem?_getD]
  by_cases e : t = fs.length
  · rw [if_pos e, e, List.getElem?_append_right (Nat.le_refl _), Nat.sub_self]
    rfl
  · rw [if_neg e]
    by_cases hlt : t < fs.length
    · rw [List.getElem?_append_left hlt]
    · rw [List.getElem?_append_right (by omega), List.getElem?_eq_none (l := fs) (by omega), List.getElem?_eq_none (by simp; omega)]
theorem Held.snoc {n : Nat} {us vs fs ss : List Nat} (h : Held n us fs ss) {a c : Nat} (hf : FitAt us a c) (hc : 1 ≤ c) (hn : a + c ≤ n) (hv : ∀ j, tb vs j = if a ≤ j ∧ j < a + c then true else tb us j) : Held n vs (fs ++ [a]) (ss ++ [c]) := by
  have hl := h.len
  have e1 : ∀ t, (fs ++ [a]).getD t 0 = if t = fs.length then a else fs.getD t 0 := getD_snoc fs a
  have e2 : ∀ t, (ss ++ [c]).getD t 0 = if t = fs.length then c else ss.getD t 0 := fun t => by rw [getD_snoc, hl]
  have hll : (fs ++ [a]).length = fs.length + 1 := by simp
  refine ⟨by simp [hl], fun t ht => ?_, fun j hj => ?_, fun s t hst ht => ?_⟩
  · rw [hll] at ht
    rw [e1, e2]
    by_cases e : t = fs.length
    · rw [if_pos e, if_pos e]; exact ⟨hc, hn⟩
    · rw [if_neg e, if_neg e]; exact h.in_ t (by omega)
  · rw [hv, hll]
    by_cases e : a ≤ j ∧ j < a + c
    · rw [if_pos e]
      refine ⟨fun _ => ⟨fs.length, by omega, ?_⟩, fun _ => rfl⟩
      rw [e1, e2, if_pos rfl, if_pos rfl]; exact e
    · rw [if_neg e, h.used j hj]
      constructor
      · rintro ⟨t, ht, h1, h2⟩
        refine ⟨t, by omega, ?_⟩
        rw [e1, e2, if_neg (by omega), if_neg (by omega)]
        exact ⟨h1, h2⟩
      · rintro ⟨t, ht, h1, h2⟩
        rw [e1] at h1 h2
        rw [e2] at h2
        by_cases et : t = fs.length
        · rw [if_pos et] at h1 h2; rw [if_pos et] at h2; exact absurd ⟨h1, h2⟩ e
        · rw [if_neg et] at h1 h2; rw [if_neg et] at h2; exact ⟨t, by omega, h1, h2⟩
  · rw [hll] at ht
    rw [e1 s, e2 s, e1 t, e2 t, if_neg (by omega), if_neg (by omega)]
    by_cases et : t = fs.length
    · rw [if_pos et, if_pos et]
      have := h.off hf hc (t := s) (by omega)
      omega
    · rw [if_neg et, if_neg et]; exact h.apart s t hst (by omega)
def cutAt (fs : List Nat) (t : Nat) : List Nat := fs.take t ++ fs.drop (t + 1)
theorem length_cutAt (fs : List Nat) (t : Nat) (h : t < fs.length) : (cutAt fs t).length = fs.length - 1 := by
  unfold cutAt
  rw [List.length_append, List.length_take, List.length_drop]
  omega
theorem getD_cutAt (fs : List Nat) (t s : Nat) (h : t < fs.length) : (cutAt fs t).getD s 0 = if s < t then fs.getD s 0 else fs.getD (s + 1) 0 := by
  unfold cutAt
  simp only [List.getD_eq_getElem?_getD]
  have hl : (fs.take t).length = t := by rw [List.length_take]; omega
  by_cases e : s < t
  · rw [if_pos e, List.getElem?_append_left (by omega), List.getElem?_take, if_pos e]
  · rw [if_neg e, List.getElem?_append_right (by omega), hl, List.getElem?_drop]
    rw [show t + 1 + (s - t) = s + 1 by omega]
theorem Held.cut {n : Nat} {us vs fs ss : List Nat} (h : Held n us fs ss) {q : Nat} (hq : q < fs.length) (hv : ∀ j, tb vs j = if fs.getD q 0 ≤ j ∧ j < fs.getD q 0 + ss.getD q 0 then false else tb us j) : Held n vs (cutAt fs q) (cutAt ss q) := by
  have hl := h.len
  have e1 := fun s => getD_cutAt fs q s hq
  have e2 := fun s => getD_cutAt ss q s (by omega)
  have l1 := length_cutAt fs q hq
  have l2 := length_cutAt ss q (by omega)
  -- a place in what is left, and in what was
  have pos : ∀ s, s < fs.length - 1 → ∃ s', s' < fs.length ∧ s' ≠ q ∧ (cutAt fs q).getD s 0 = fs.getD s' 0 ∧ (cutAt ss q).getD s 0 = ss.getD s' 0 ∧ s' = if s < q then s else s + 1 := fun s hs => by
    by_cases e : s < q
    · exact ⟨s, by omega, by omega, by rw [e1, if_pos e], by rw [e2, if_pos e], by rw [if_pos e]⟩
    · exact ⟨s + 1, by omega, by omega, by rw [e1, if_neg e], by rw [e2, if_neg e], by rw [if_neg e]⟩
  have apart2 : ∀ s t, s ≠ t → s < fs.length → t < fs.length → fs.getD s 0 + ss.getD s 0 ≤ fs.getD t 0 ∨ fs.getD t 0 + ss.getD t 0 ≤ fs.getD s 0 := fun s t hst h1 h2 => by
    by_cases e : s < t
    · exact h.apart s t e h2
    · exact (h.apart t s (by omega) h1).symm
  refine ⟨by rw [l1, l2, hl], fun t ht => ?_, fun j hj => ?_, fun s t hst ht => ?_⟩
  · rw [l1] at ht
    obtain ⟨s', h1, _, h3, h4, _⟩ := pos t ht
    rw [h3, h4]
    exact h.in_ s' h1
  · rw [hv, l1]
    by_cases e : fs.getD q 0 ≤ j ∧ j < fs.getD q 0 + ss.getD q 0
    · rw [if_pos e]
      simp only [Bool.false_eq_true, false_iff]
      rintro ⟨t, ht, g1, g2⟩
      obtain ⟨s', h1, h2, h3, h4, _⟩ := pos t ht
      rw [h3] at g1 g2
      rw [h4] at g2
      have := apart2 s' q h2 h1 hq
      omega
    · rw [if_neg e, h.used j hj]
      constructor
      · rintro ⟨t, ht, g1, g2⟩
        have htq : t ≠ q := by rintro rfl; exact e ⟨g1, g2⟩
        by_cases etq : t < q
        · exact ⟨t, by omega, by rw [e1, if_pos etq]; exact g1, by rw [e1, e2, if_pos etq, if_pos etq]; exact g2⟩
        · refine ⟨t - 1, by omega, ?_, ?_⟩
          · rw [e1, if_neg (by omega), show t - 1 + 1 = t by omega]; exact g1
          · rw [e1, e2, if_neg (by omega), if_neg (by omega), show t - 1 + 1 = t by omega]; exact g2
      · rintro ⟨t, ht, g1, g2⟩
        obtain ⟨s', h1, _, h3, h4, _⟩ := pos t ht
        rw [h3] at g1 g2
        rw [h4] at g2
        exact ⟨s', h1, g1, g2⟩
  · rw [l1] at ht
    obtain ⟨s', a1, _, a3, a4, a5⟩ := pos s (by omega)
    obtain ⟨t', b1, _, b3, b4, b5⟩ := pos t ht
    rw [a3, a4, b3, b4]
    refine apart2 s' t' ?_ a1 b1
    rw [a5, b5]
    split <;> split <;> omega
theorem Held.done {n : Nat} {us : List Nat} (h : Held n us [] []) : best us n = n :=
  best_all us n fun j hj => by
    cases hb : tb us j
    · rfl
    · obtain ⟨t, ht, _⟩ := (h.used j hj).1 hb
      simp at ht
end Go.Proofs.YthikpamjeckfcaaDoor
