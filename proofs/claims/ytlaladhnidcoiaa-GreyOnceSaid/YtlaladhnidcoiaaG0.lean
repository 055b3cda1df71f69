/- Queues of addresses: plain facts. -/
import Derived.Test.YtlaladhnidcoiaaW3
namespace Go.Proofs.Ytlaladhnidcoiaa
open Go.RowKit
set_option linter.unusedVariables false
set_option linter.unusedSimpArgs false

def nq (qs : List (List Nat)) (i : Nat) : List Nat := qs.getD i []
theorem nq_get (qs : List (List Nat)) (i : Nat) (h : i < qs.length) : nq qs i = qs[i] := by
  unfold nq
  rw [List.getD_eq_getElem?_getD, List.getElem?_eq_getElem h]
  rfl
theorem nq_out (qs : List (List Nat)) (i : Nat) (h : qs.length ≤ i) : nq qs i = [] := by
  unfold nq
  rw [List.getD_eq_getElem?_getD, List.getElem?_eq_none h]
  rfl
theorem nq_set (qs : List (List Nat)) (i j : Nat) (q : List Nat) (h : i < qs.length) : nq (qs.set i q) j = if j = i then q else nq qs j := by
  unfold nq
  rw [List.getD_eq_getElem?_getD, List.getElem?_set, List.getD_eq_getElem?_getD]
  by_cases e : i = j
  · subst e
    simp [h]
  · rw [if_neg e, if_neg (fun e2 => e e2.symm)]
theorem nq_mem (qs : List (List Nat)) (i : Nat) (h : i < qs.length) : nq qs i ∈ qs := by
  rw [nq_get qs i h]
  exact List.getElem_mem h
theorem flat_next (qs : List (List Nat)) (k : Nat) (hk : k < qs.length) : (qs.take (k + 1)).flatten = (qs.take k).flatten ++ nq qs k := by
  rw [List.take_succ_eq_append_getElem hk, List.flatten_append, nq_get qs k hk]
  simp
theorem flat_split (qs : List (List Nat)) (k : Nat) (hk : k < qs.length) : qs.flatten = (qs.take k).flatten ++ nq qs k ++ (qs.drop (k + 1)).flatten := by
  rw [← flat_next qs k hk, ← List.flatten_append, List.take_append_drop]
theorem nq_len_le (qs : List (List Nat)) (k : Nat) : (nq qs k).length ≤ qs.flatten.length := by
  by_cases hk : k < qs.length
  · rw [flat_split qs k hk]
    simp only [List.length_append]
    omega
  · rw [nq_out qs k (by omega)]
    simp
theorem flat_mem {qs : List (List Nat)} {k a : Nat} (hk : k < qs.length) (h : a ∈ nq qs k) : a ∈ qs.flatten :=
  List.mem_flatten.2 ⟨_, nq_mem qs k hk, h⟩
theorem flat_set (qs : List (List Nat)) (k : Nat) (q : List Nat) (hk : k < qs.length) : (qs.set k q).flatten = (qs.take k).flatten ++ q ++ (qs.drop (k + 1)).flatten := by
  rw [List.set_eq_take_append_cons_drop, if_pos hk, List.flatten_append, List.flatten_cons, List.append_assoc]
/-- queues that are right -/
structure OkG (qs : List (List Nat)) : Prop where
  lo : 1 ≤ qs.length
  hi : qs.length ≤ 4
  len : qs.flatten.length ≤ 16384
  nz : ∀ a ∈ qs.flatten, a ≠ 0
  nd : qs.flatten.Nodup
/-- why an address can't be added to some -/
def addErr (ks : List Nat) (a : Nat) : Int := if a = 0 then 7 else if a ∈ ks then 4 else if ks.length = 16384 then 6 else 0
def addsErr : List Nat → List Nat → Int
  | _, [] => 0
  | ks, a :: us => if addErr ks a = 0 then addsErr (ks ++ [a]) us else addErr ks a
/-- the first j can be added -/
def OkTo (ks us : List Nat) (j : Nat) : Prop := ∀ i, i < j → addErr (ks ++ us.take i) (us.getD i 0) = 0
theorem okTo_zero (ks us : List Nat) : OkTo ks us 0 := fun i hi => by omega
theorem okTo_next {ks us : List Nat} {j : Nat} (h : OkTo ks us j) (h2 : addErr (ks ++ us.take j) (us.getD j 0) = 0) : OkTo ks us (j + 1) := fun i hi => by
  by_cases e : i = j
  · subst e; exact h2
  · exact h i (by omega)
theorem take_next (us : List Nat) (j : Nat) (hj : j < us.length) : us.take (j + 1) = us.take j ++ [us.getD j 0] := by
  rw [List.take_succ_eq_append_getElem hj, List.getD_eq_getElem?_getD, List.getElem?_eq_getElem hj]
  rfl
theorem drop_here (us : List Nat) (j : Nat) (hj : j < us.length) : us.drop j = us.getD j 0 :: us.drop (j + 1) := by
  rw [List.drop_eq_getElem_cons hj, List.getD_eq_getElem?_getD, List.getElem?_eq_getElem hj]
  rfl
theorem adds_drop {ks us : List Nat} : ∀ j, OkTo ks us j → j ≤ us.length → addsErr ks us = addsErr (ks ++ us.take j) (us.drop j)
  | 0, _, _ => by simp
  | j + 1, h, hj => by
    rw [adds_drop j (fun i hi => h i (by omega)) (by omega), drop_here us j (by omega), addsErr, if_pos (h j (by omega)), take_next us j (by omega), List.append_assoc]
theorem adds_hit {ks us : List Nat} {j : Nat} (h : OkTo ks us j) (hj : j < us.length) {e : Int} (he : addErr (ks ++ us.take j) (us.getD j 0) = e) (h0 : e ≠ 0) : addsErr ks us = e := by
  rw [adds_drop j h (by omega), drop_here us j hj, addsErr, if_neg (by rw [he]; exact h0), he]
theorem adds_end {ks us : List Nat} (h : OkTo ks us us.length) : addsErr ks us = 0 := by
  rw [adds_drop us.length h (Nat.le_refl _), List.drop_length, addsErr]
theorem addErr_zero {ks : List Nat} {a : Nat} : addErr ks a = 0 ↔ a ≠ 0 ∧ a ∉ ks ∧ ks.length ≠ 16384 := by
  unfold addErr
  by_cases h1 : a = 0
  · simp [h1]
  · by_cases h2 : a ∈ ks
    · simp [h1, h2]
    · by_cases h3 : ks.length = 16384
      · simp [h1, h2, h3]
      · simp [h1, h2, h3]
theorem adds_zero {ks us : List Nat} : addsErr ks us = 0 → OkTo ks us us.length := by
  intro h
  have key : ∀ j, j ≤ us.length → OkTo ks us j := by
    intro j
    induction j with
    | zero => intro _; exact okTo_zero _ _
    | succ j ih =>
      intro hj
      have hk := ih (by omega)
      refine okTo_next hk ?_
      by_cases e : addErr (ks ++ us.take j) (us.getD j 0) = 0
      · exact e
      · exact absurd ((adds_hit hk (by omega) rfl e).symm.trans h) e
  exact key _ (Nat.le_refl _)
/-- what can be added one by one has no zero, nothing twice, and fits in -/
theorem okTo_good {ks us : List Nat} (hz : ∀ a ∈ ks, a ≠ 0) (hn : ks.Nodup) (hl : ks.length ≤ 16384) : ∀ j, OkTo ks us j → j ≤ us.length → (∀ a ∈ ks ++ us.take j, a ≠ 0) ∧ (ks ++ us.take j).Nodup ∧ (ks ++ us.take j).length ≤ 16384
  | 0, _, _ => by simpa using ⟨hz, hn, hl⟩
  | j + 1, h, hj => by
    obtain ⟨h1, h2, h3⟩ := okTo_good hz hn hl j (fun i hi => h i (by omega)) (by omega)
    obtain ⟨e1, e2, e3⟩ := addErr_zero.1 (h j (by omega))
    rw [take_next us j (by omega), ← List.append_assoc]
    refine ⟨fun a ha => ?_, ?_, by simp only [List.length_append, List.length_singleton] at *; omega⟩
    · rw [List.mem_append] at ha
      rcases ha with ha | ha
      · exact h1 a ha
      · rw [List.mem_singleton] at ha; subst ha; exact e1
    · rw [List.nodup_append]
      refine ⟨h2, by simp, fun a ha b hb => ?_⟩
      rw [List.mem_singleton] at hb
      subst hb
      rintro rfl
      exact e2 ha
/-- what is right: all of it can be added to nothing -/
theorem okTo_of {us : List Nat} (hz : ∀ a ∈ us, a ≠ 0) (hn : us.Nodup) (hl : us.length ≤ 16384) : OkTo [] us us.length := fun i hi => by
  rw [addErr_zero, List.nil_append]
  have hm : us.getD i 0 ∈ us := by
    rw [List.getD_eq_getElem?_getD, List.getElem?_eq_getElem hi]
    exact List.getElem_mem hi
  refine ⟨hz _ hm, fun h2 => ?_, by rw [List.length_take]; omega⟩
  have h3 := take_next us i hi
  have h4 : (us.take (i + 1)).Nodup := hn.sublist (List.take_sublist _ _)
  rw [h3, List.nodup_append] at h4
  exact h4.2.2 _ h2 _ (by simp) rfl
/-- where the longest is, of the first k -/
def longK (qs : List (List Nat)) : Nat → Nat
  | 0 => 0
  | k + 1 => if (nq qs (longK qs k)).length < (nq qs k).length then k else longK qs k
theorem longK_lt {qs : List (List Nat)} : ∀ k, longK qs k < k ∨ longK qs k = 0
  | 0 => .inr rfl
  | k + 1 => by
    unfold longK
    split
    · exact .inl (by omega)
    · rcases longK_lt (qs := qs) k with h | h
      · exact .inl (by omega)
      · exact .inr h
theorem longK_max {qs : List (List Nat)} : ∀ k i, i < k → (nq qs i).length ≤ (nq qs (longK qs k)).length
  | 0, i, h => by omega
  | k + 1, i, h => by
    unfold longK
    by_cases e : i = k
    · subst e
      split <;> omega
    · have := longK_max (qs := qs) k i (by omega)
      split <;> omega
def lng (qs : List (List Nat)) : Nat := longK qs qs.length
theorem lng_lt {qs : List (List Nat)} (h : 1 ≤ qs.length) : lng qs < qs.length := by
  unfold lng
  rcases longK_lt (qs := qs) qs.length with h1 | h1 <;> omega
/-- a worker that there is -/
def hasG (qs : List (List Nat)) (x : Int) : Prop := 0 ≤ x ∧ x < qs.length
/-- what Push answers -/
def PushE (qs : List (List Nat)) (x : Int) (us : List Nat) (r : List (List Nat)) (y : Int) : Prop :=
  (¬ OkG qs ∧ r = [] ∧ y = 2) ∨ (OkG qs ∧ ¬ hasG qs x ∧ r = qs ∧ y = 11) ∨ (OkG qs ∧ hasG qs x ∧ addsErr qs.flatten us = y ∧ y ≠ 0 ∧ r = qs) ∨
  (OkG qs ∧ hasG qs x ∧ addsErr qs.flatten us = 0 ∧ y = 0 ∧ r = qs.set x.toNat (nq qs x.toNat ++ us))
theorem PushE.ex (qs : List (List Nat)) (x : Int) (us : List Nat) : ∃ r y, PushE qs x us r y := by
  by_cases h1 : OkG qs
  · by_cases h2 : hasG qs x
    · by_cases h3 : addsErr qs.flatten us = 0
      · exact ⟨_, _, .inr (.inr (.inr ⟨h1, h2, h3, rfl, rfl⟩))⟩
      · exact ⟨_, _, .inr (.inr (.inl ⟨h1, h2, rfl, h3, rfl⟩))⟩
    · exact ⟨_, _, .inr (.inl ⟨h1, h2, rfl, rfl⟩)⟩
  · exact ⟨_, _, .inl ⟨h1, rfl, rfl⟩⟩
/-- what Pop answers -/
def PopE (qs : List (List Nat)) (x : Int) (r : List (List Nat)) (a : Nat) (s : Bool) (y : Int) : Prop :=
  (¬ OkG qs ∧ r = [] ∧ a = 0 ∧ s = false ∧ y = 2) ∨ (OkG qs ∧ ¬ hasG qs x ∧ r = qs ∧ a = 0 ∧ s = false ∧ y = 11) ∨
  (OkG qs ∧ hasG qs x ∧ 0 < (nq qs x.toNat).length ∧ r = qs.set x.toNat ((nq qs x.toNat).take ((nq qs x.toNat).length - 1)) ∧ a = (nq qs x.toNat).getD ((nq qs x.toNat).length - 1) 0 ∧ s = false ∧ y = 0) ∨
  (OkG qs ∧ hasG qs x ∧ (nq qs x.toNat).length = 0 ∧ (nq qs (lng qs)).length = 0 ∧ r = qs ∧ a = 0 ∧ s = false ∧ y = 3) ∨
  (OkG qs ∧ hasG qs x ∧ (nq qs x.toNat).length = 0 ∧ 0 < (nq qs (lng qs)).length ∧ r = qs.set (lng qs) ((nq qs (lng qs)).drop 1) ∧ a = (nq qs (lng qs)).getD 0 0 ∧ s = true ∧ y = 0)
theorem PopE.ex (qs : List (List Nat)) (x : Int) : ∃ r a s y, PopE qs x r a s y := by
  by_cases h1 : OkG qs
  · by_cases h2 : hasG qs x
    · by_cases h3 : 0 < (nq qs x.toNat).length
      · exact ⟨_, _, _, _, .inr (.inr (.inl ⟨h1, h2, h3, rfl, rfl, rfl, rfl⟩))⟩
      · by_cases h4 : 0 < (nq qs (lng qs)).length
        · exact ⟨_, _, _, _, .inr (.inr (.inr (.inr ⟨h1, h2, by omega, h4, rfl, rfl, rfl, rfl⟩)))⟩
        · exact ⟨_, _, _, _, .inr (.inr (.inr (.inl ⟨h1, h2, by omega, by omega, rfl, rfl, rfl, rfl⟩)))⟩
    · exact ⟨_, _, _, _, .inr (.inl ⟨h1, h2, rfl, rfl, rfl, rfl⟩)⟩
  · exact ⟨_, _, _, _, .inl ⟨h1, rfl, rfl, rfl, rfl⟩⟩
def ManE (qs : List (List Nat)) (n : Nat) (y : Int) : Prop := (¬ OkG qs ∧ n = 0 ∧ y = 2) ∨ (OkG qs ∧ n = qs.flatten.length ∧ y = 0)
theorem ManE.ex (qs : List (List Nat)) : ∃ n y, ManE qs n y := by
  by_cases h1 : OkG qs
  · exact ⟨_, _, .inr ⟨h1, rfl, rfl⟩⟩
  · exact ⟨_, _, .inl ⟨h1, rfl, rfl⟩⟩
def ChkG (qs : List (List Nat)) (y : Int) : Prop := (OkG qs ∧ y = 0) ∨ (¬ OkG qs ∧ y = 2)
theorem ChkG.ex (qs : List (List Nat)) : ∃ y, ChkG qs y := by
  by_cases h1 : OkG qs
  · exact ⟨_, .inl ⟨h1, rfl⟩⟩
  · exact ⟨_, .inr ⟨h1, rfl⟩⟩
end Go.Proofs.Ytlaladhnidcoiaa
