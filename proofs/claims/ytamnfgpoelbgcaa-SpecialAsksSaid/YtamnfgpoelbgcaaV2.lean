/- Plain facts of lists of specials: when they are right, where one is put, what is added. -/
import Derived.Test.YtamnfgpoelbgcaaV1
namespace Go.Proofs.Ytamnfgpoelbgcaa
set_option linter.unusedVariables false
set_option linter.unusedSimpArgs false

def okc (s : Sc) : Bool := decide (0 < s.a) && (s.k == 1 || s.k == 2)
def isF (x s : Sc) : Bool := x.k == 1 && x.a == s.a
/-- s would be the second finalizer of its address -/
def tw (l : List Sc) (s : Sc) : Bool := (s.k == 1) && l.any (isF · s)
def Rel (x y : Sc) : Prop := x.a ≤ y.a ∧ ¬ (x.k = 1 ∧ y.k = 1 ∧ x.a = y.a)
structure Good (l : List Sc) : Prop where
  ok : ∀ s ∈ l, okc s = true
  pw : l.Pairwise Rel
def OkC (l : List Sc) : Prop := l.length ≤ 64 ∧ Good l
theorem good_nil : Good [] := ⟨fun s hs => by simp at hs, List.Pairwise.nil⟩
theorem tw_false (l : List Sc) (s : Sc) : tw l s = false ↔ ∀ x ∈ l, ¬ (x.k = 1 ∧ s.k = 1 ∧ x.a = s.a) := by
  unfold tw isF
  rw [Bool.and_eq_false_iff]
  constructor
  · rintro (h | h) x hx ⟨h1, h2, h3⟩
    · rw [h2] at h; cases h
    · rw [List.any_eq_false] at h
      have := h x hx
      rw [h1, h3] at this
      simp at this
  · intro h
    by_cases hk : s.k = 1
    · right
      rw [List.any_eq_false]
      intro x hx hc
      simp only [Bool.and_eq_true, beq_iff_eq] at hc
      exact h x hx ⟨hc.1, hk, hc.2⟩
    · left
      simpa using hk
theorem Good.snoc {l : List Sc} {s : Sc} : Good (l ++ [s]) ↔ Good l ∧ okc s = true ∧ ∀ x ∈ l, Rel x s := by
  constructor
  · rintro ⟨h1, h2⟩
    rw [List.pairwise_append] at h2
    exact ⟨⟨fun x hx => h1 x (List.mem_append_left _ hx), h2.1⟩, h1 s (by simp), fun x hx => h2.2.2 x hx s (by simp)⟩
  · rintro ⟨⟨h1, h2⟩, h3, h4⟩
    refine ⟨fun x hx => ?_, ?_⟩
    · rcases List.mem_append.1 hx with hx | hx
      · exact h1 x hx
      · rw [List.mem_singleton.1 hx]; exact h3
    · rw [List.pairwise_append]
      refine ⟨h2, by simp, fun x hx y hy => ?_⟩
      rw [List.mem_singleton.1 hy]
      exact h4 x hx
theorem Good.take {l : List Sc} (h : Good l) (i : Nat) : Good (l.take i) :=
  ⟨fun s hs => h.ok s (List.mem_of_mem_take hs), h.pw.sublist (List.take_sublist _ _)⟩
/-- the last of some is the greatest -/
theorem Good.last {l : List Sc} (h : Good l) (k : Nat) (hk : k + 1 = l.length) : ∀ x ∈ l, x.a ≤ (nthC l k).a := by
  intro x hx
  have e : l = l.take k ++ [nthC l k] := by rw [← take_nthC l k (by omega), hk, List.take_length]
  have hp := h.pw
  rw [e] at hp hx
  rw [List.pairwise_append] at hp
  rcases List.mem_append.1 hx with hx | hx
  · exact (hp.2.2 x hx _ (by simp)).1
  · rw [List.mem_singleton.1 hx]; exact Int.le_refl _
theorem good_next {l : List Sc} {k : Nat} (hk : k < l.length) (h : Good (l.take k)) :
    Good (l.take (k + 1)) ↔ (okc (nthC l k) = true ∧ ¬ (0 < k ∧ (nthC l k).a < (nthC l (k - 1)).a) ∧ tw (l.take k) (nthC l k) = false) := by
  rw [take_nthC l k hk, Good.snoc, tw_false]
  constructor
  · rintro ⟨_, h1, h2⟩
    refine ⟨h1, ?_, fun x hx => (h2 x hx).2⟩
    rintro ⟨h0, h3⟩
    have hm : nthC l (k - 1) ∈ l.take k := by
      rw [← nthC_take l k (k - 1) (by omega)]
      exact nthC_mem _ _ (by rw [List.length_take]; omega)
    have := (h2 _ hm).1
    omega
  · rintro ⟨h1, h2, h3⟩
    refine ⟨h, h1, fun x hx => ⟨?_, h3 x hx⟩⟩
    have h0 : 0 < k := by
      rcases Nat.eq_zero_or_pos k with e | e
      · subst e; simp at hx
      · exact e
    have h4 := h.last (k - 1) (by rw [List.length_take]; omega) x hx
    rw [nthC_take l k (k - 1) (by omega)] at h4
    omega
/-- where one with that address goes -/
def bh (l : List Sc) (x : Int) : Nat := l.findIdx fun s => decide (x < s.a)
def addC (l : List Sc) (s : Sc) : List Sc := l.take (bh l s.a) ++ s :: l.drop (bh l s.a)
def refC (l : List Sc) (s : Sc) : Int := if okc s = false then 2 else if tw l s = true then 4 else if l.length = 64 then 6 else 0
theorem bh_le (l : List Sc) (x : Int) : bh l x ≤ l.length := List.findIdx_le_length
theorem length_addC (l : List Sc) (s : Sc) : (addC l s).length = l.length + 1 := by
  have := bh_le l s.a
  unfold addC
  simp only [List.length_append, List.length_take, List.length_cons, List.length_drop]
  omega
theorem bh_before (l : List Sc) (x : Int) : ∀ s ∈ l.take (bh l x), s.a ≤ x := by
  intro s hs
  obtain ⟨i, hi, rfl⟩ := List.getElem_of_mem hs
  rw [List.length_take] at hi
  have := List.not_of_lt_findIdx (p := fun s : Sc => decide (x < s.a)) (xs := l) (i := i) (by unfold bh at hi; omega)
  rw [List.getElem_take]
  simpa using this
theorem Good.behind {l : List Sc} (h : Good l) (x : Int) : ∀ s ∈ l.drop (bh l x), x < s.a := by
  intro s hs
  by_cases hb : bh l x < l.length
  · have h1 : x < (l[bh l x]).a := by
      have := List.findIdx_getElem (p := fun s : Sc => decide (x < s.a)) (xs := l) (w := hb)
      unfold bh
      simpa using this
    have e : l.drop (bh l x) = l[bh l x] :: l.drop (bh l x + 1) := List.drop_eq_getElem_cons hb
    have hp := h.pw.sublist (List.drop_sublist (bh l x) l)
    rw [e] at hs hp
    rw [List.pairwise_cons] at hp
    rcases List.mem_cons.1 hs with rfl | hs
    · exact h1
    · have := (hp.1 s hs).1
      omega
  · rw [List.drop_eq_nil_of_le (by omega)] at hs
    simp at hs
theorem refC_zero {l : List Sc} {s : Sc} : refC l s = 0 ↔ okc s = true ∧ tw l s = false ∧ l.length ≠ 64 := by
  unfold refC
  constructor
  · intro h
    split at h
    · omega
    · split at h
      · omega
      · split at h
        · omega
        · simp_all
  · rintro ⟨h1, h2, h3⟩
    simp [h1, h2, h3]
theorem OkC.add {l : List Sc} {s : Sc} (h : OkC l) (hr : refC l s = 0) : OkC (addC l s) := by
  obtain ⟨h1, h2, h3⟩ := refC_zero.1 hr
  rw [tw_false] at h2
  have hb1 := bh_before l s.a
  have hb2 := h.2.behind s.a
  have hp := h.2.pw
  have hok := h.2.ok
  have hle := h.1
  refine ⟨by rw [length_addC]; omega, ?_, ?_⟩
  · intro x hx
    unfold addC at hx
    rcases List.mem_append.1 hx with hx | hx
    · exact hok x (List.mem_of_mem_take hx)
    · rcases List.mem_cons.1 hx with rfl | hx
      · exact h1
      · exact hok x (List.mem_of_mem_drop hx)
  · unfold addC
    have hp' := hp
    rw [← List.take_append_drop (bh l s.a) l, List.pairwise_append] at hp'
    rw [List.pairwise_append, List.pairwise_cons]
    refine ⟨hp'.1, ⟨fun y hy => ⟨by have := hb2 y hy; omega, fun hc => h2 y (List.mem_of_mem_drop hy) ⟨hc.2.1, hc.1, hc.2.2.symm⟩⟩, hp'.2.1⟩, fun x hx y hy => ?_⟩
    rcases List.mem_cons.1 hy with rfl | hy
    · exact ⟨hb1 x hx, h2 x (List.mem_of_mem_take hx)⟩
    · exact hp'.2.2 x hx y hy
/-- what l is behind the first k of some that are added -/
def stC (l more : List Sc) : Nat → List Sc
  | 0 => l
  | k + 1 => addC (stC l more k) (nthC more k)
theorem stC_ok {l more : List Sc} (h : OkC l) (k : Nat) (hr : ∀ j, j < k → refC (stC l more j) (nthC more j) = 0) : OkC (stC l more k) := by
  induction k with
  | zero => exact h
  | succ k ih => exact (ih fun j hj => hr j (by omega)).add (hr k (by omega))
def AddE (l more l' : List Sc) (y : Int) : Prop := (¬ OkC l ∧ l' = [] ∧ y = 2) ∨ (OkC l ∧ (∀ j, j < more.length → refC (stC l more j) (nthC more j) = 0) ∧ l' = stC l more more.length ∧ y = 0) ∨
  (∃ k, OkC l ∧ k < more.length ∧ (∀ j, j < k → refC (stC l more j) (nthC more j) = 0) ∧ refC (stC l more k) (nthC more k) = y ∧ y ≠ 0 ∧ l' = l)
theorem first_bad (p : Nat → Prop) (n : Nat) : (∀ j, j < n → p j) ∨ ∃ k, k < n ∧ (∀ j, j < k → p j) ∧ ¬ p k := by
  induction n with
  | zero => exact .inl fun j hj => by omega
  | succ n ih =>
    rcases ih with h | ⟨k, h1, h2, h3⟩
    · by_cases hp : p n
      · exact .inl fun j hj => by
          by_cases e : j = n
          · rw [e]; exact hp
          · exact h j (by omega)
      · exact .inr ⟨n, by omega, h, hp⟩
    · exact .inr ⟨k, by omega, h2, h3⟩
theorem AddE.ex (l more : List Sc) : ∃ l' y, AddE l more l' y := by
  by_cases h : OkC l
  · rcases first_bad (fun j => refC (stC l more j) (nthC more j) = 0) more.length with h1 | ⟨k, h1, h2, h3⟩
    · exact ⟨_, _, .inr (.inl ⟨h, h1, rfl, rfl⟩)⟩
    · exact ⟨_, _, .inr (.inr ⟨k, h, h1, h2, rfl, h3, rfl⟩)⟩
  · exact ⟨_, _, .inl ⟨h, rfl, rfl⟩⟩
/-- what is left of the addresses when neighbours that are alike are one -/
def pushA (out : List Int) (x : Int) : List Int := if out.getLast? = some x then out else out ++ [x]
end Go.Proofs.Ytamnfgpoelbgcaa
