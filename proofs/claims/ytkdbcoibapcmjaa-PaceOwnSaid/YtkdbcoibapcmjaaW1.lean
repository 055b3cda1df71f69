/- Tables of weak handles: plain facts. -/
import Derived.Test.YtkdbcoibapcmjaaIRow
namespace Go.Proofs.Ytkdbcoibapcmjaa
open Go.RowKit
set_option linter.unusedVariables false
set_option linter.unusedSimpArgs false

/-- where a is first, or the length -/
def ixN : List Nat → Nat → Nat
  | [], _ => 0
  | x :: t, a => if x = a then 0 else ixN t a + 1
theorem ixN_le (t : List Nat) (a : Nat) : ixN t a ≤ t.length := by
  induction t with
  | nil => exact Nat.le_refl _
  | cons x t ih =>
    unfold ixN
    split
    · omega
    · simp only [List.length_cons]; omega
theorem ixN_hit {t : List Nat} {a k : Nat} (hk : k < t.length) (h : t.getD k 0 = a) (hb : ∀ j, j < k → t.getD j 0 ≠ a) : ixN t a = k := by
  induction t generalizing k with
  | nil => simp at hk
  | cons x t ih =>
    unfold ixN
    cases k with
    | zero =>
      simp only [List.getD_cons_zero] at h
      rw [if_pos h]
    | succ k =>
      have h0 := hb 0 (by omega)
      simp only [List.getD_cons_zero] at h0
      rw [if_neg h0]
      simp only [List.length_cons] at hk
      simp only [List.getD_cons_succ] at h
      rw [ih (by omega) h (fun j hj => by have := hb (j + 1) (by omega); simpa using this)]
theorem ixN_miss {t : List Nat} {a : Nat} (hb : ∀ j, j < t.length → t.getD j 0 ≠ a) : ixN t a = t.length := by
  induction t with
  | nil => rfl
  | cons x t ih =>
    unfold ixN
    have h0 := hb 0 (by simp)
    simp only [List.getD_cons_zero] at h0
    rw [if_neg h0, ih (fun j hj => by have := hb (j + 1) (by simp; omega); simpa using this)]
    simp
theorem ixN_get {t : List Nat} {a : Nat} (h : ixN t a < t.length) : t.getD (ixN t a) 0 = a ∧ ∀ j, j < ixN t a → t.getD j 0 ≠ a := by
  induction t with
  | nil => simp at h
  | cons x t ih =>
    unfold ixN at h ⊢
    by_cases hx : x = a
    · rw [if_pos hx]
      exact ⟨by simpa using hx, fun j hj => by omega⟩
    · rw [if_neg hx] at h ⊢
      simp only [List.length_cons] at h
      obtain ⟨g1, g2⟩ := ih (by omega)
      refine ⟨by simpa using g1, fun j hj => ?_⟩
      cases j with
      | zero => simpa using hx
      | succ j => have := g2 j (by omega); simpa using this
theorem ixN_no {t : List Nat} {a : Nat} (h : ¬ ixN t a < t.length) : ∀ j, j < t.length → t.getD j 0 ≠ a := fun j hj e => by
  have : ∃ k, k < t.length ∧ t.getD k 0 = a ∧ ∀ i, i < k → t.getD i 0 ≠ a := by
    clear h
    induction j using Nat.strongRecOn with
    | _ j ih =>
      by_cases hh : ∃ i, i < j ∧ t.getD i 0 = a
      · obtain ⟨i, h1, h2⟩ := hh
        exact ih i h1 (by omega) h2
      · exact ⟨j, hj, e, fun i hi h2 => hh ⟨i, hi, h2⟩⟩
  obtain ⟨k, h1, h2, h3⟩ := this
  rw [ixN_hit h1 h2 h3] at h
  exact h h1
/-- an address's handle, or 0 -/
def hin (t : List Nat) (a : Nat) : Nat := if a ≠ 0 ∧ ixN t a < t.length then ixN t a + 1 else 0
theorem hin_zero (t : List Nat) : hin t 0 = 0 := by simp [hin]
theorem hin_hit {t : List Nat} {a k : Nat} (ha : a ≠ 0) (hk : k < t.length) (h : t.getD k 0 = a) (hb : ∀ j, j < k → t.getD j 0 ≠ a) : hin t a = k + 1 := by
  unfold hin
  rw [ixN_hit hk h hb, if_pos ⟨ha, hk⟩]
theorem hin_miss {t : List Nat} {a : Nat} (hb : ∀ j, j < t.length → t.getD j 0 ≠ a) : hin t a = 0 := by
  unfold hin
  rw [ixN_miss hb, if_neg (by omega)]
theorem hin_le (t : List Nat) (a : Nat) : hin t a ≤ t.length := by
  unfold hin
  split <;> omega
theorem hin_pos {t : List Nat} {a : Nat} (h : hin t a ≠ 0) : a ≠ 0 ∧ hin t a ≤ t.length ∧ t.getD (hin t a - 1) 0 = a ∧ ∀ j, j < hin t a - 1 → t.getD j 0 ≠ a := by
  unfold hin at h ⊢
  split at h
  · rename_i hh
    rw [if_pos hh]
    obtain ⟨g1, g2⟩ := ixN_get hh.2
    exact ⟨hh.1, by omega, g1, g2⟩
  · exact absurd rfl h
theorem hin_none {t : List Nat} {a : Nat} (ha : a ≠ 0) (h : hin t a = 0) : ∀ j, j < t.length → t.getD j 0 ≠ a := by
  unfold hin at h
  split at h
  · omega
  · rename_i hh
    exact ixN_no (fun h2 => hh ⟨ha, h2⟩)
theorem getD_take (t : List Nat) (i j : Nat) (h : j < i) : (t.take i).getD j 0 = t.getD j 0 := by
  rw [List.getD_eq_getElem?_getD, List.getD_eq_getElem?_getD, List.getElem?_take_of_lt h]
/-- no handle ahead of i leads to what the i-th leads to -/
def AloneW (t : List Nat) (i : Nat) : Prop := t.getD i 0 = 0 ∨ ∀ j, j < i → t.getD j 0 ≠ t.getD i 0
theorem alone_hin (t : List Nat) (i : Nat) (hi : i < t.length) : hin (t.take i) (t.getD i 0) = 0 ↔ AloneW t i := by
  constructor
  · intro h
    by_cases h0 : t.getD i 0 = 0
    · exact .inl h0
    · refine .inr fun j hj => ?_
      have := hin_none h0 h j (by rw [List.length_take]; omega)
      rwa [getD_take _ _ _ hj] at this
  · rintro (h | h)
    · rw [h, hin_zero]
    · refine hin_miss fun j hj => ?_
      rw [List.length_take] at hj
      rw [getD_take _ _ _ (by omega)]
      exact h j (by omega)
/-- a table that is right -/
def OkW (t : List Nat) : Prop := t.length ≤ 64 ∧ ∀ i, i < t.length → AloneW t i
theorem okW_nil : OkW [] := ⟨by simp, fun i hi => by simp at hi⟩
theorem okW_hin {t : List Nat} (h : OkW t) (i : Nat) (hi : i < t.length) (h0 : t.getD i 0 ≠ 0) : hin t (t.getD i 0) = i + 1 := by
  rcases h.2 i hi with h1 | h1
  · exact absurd h1 h0
  · exact hin_hit h0 hi rfl h1
theorem getD_snoc (t : List Nat) (a j : Nat) : (t ++ [a]).getD j 0 = if j < t.length then t.getD j 0 else if j = t.length then a else 0 := by
  rw [List.getD_eq_getElem?_getD, List.getElem?_append]
  split
  · rw [List.getD_eq_getElem?_getD]
  · rename_i h
    by_cases e : j = t.length
    · subst e; simp
    · rw [if_neg e, List.getElem?_eq_none (by simp; omega)]
      rfl
theorem okW_snoc {t : List Nat} {a : Nat} (h : OkW t) (ha : a ≠ 0) (hn : hin t a = 0) (hl : t.length < 64) : OkW (t ++ [a]) := by
  refine ⟨by simp; omega, fun i hi => ?_⟩
  simp only [List.length_append, List.length_singleton] at hi
  unfold AloneW
  by_cases e : i = t.length
  · subst e
    refine .inr fun j hj => ?_
    rw [getD_snoc, getD_snoc, if_pos hj, if_neg (by omega), if_pos rfl]
    exact hin_none ha hn j hj
  · rcases h.2 i (by omega) with h1 | h1
    · refine .inl ?_
      rw [getD_snoc, if_pos (by omega), h1]
    · refine .inr fun j hj => ?_
      rw [getD_snoc, getD_snoc, if_pos (by omega), if_pos (by omega)]
      exact h1 j hj
/-- a table of which some addresses are cleared -/
def clrT (t gs : List Nat) : List Nat := t.map fun a => if a ∈ gs then 0 else a
theorem clrT_len (t gs : List Nat) : (clrT t gs).length = t.length := by simp [clrT]
theorem clrT_at (t gs : List Nat) (i : Nat) : (clrT t gs).getD i 0 = if t.getD i 0 ∈ gs then 0 else t.getD i 0 := by
  unfold clrT
  rw [List.getD_eq_getElem?_getD, List.getElem?_map, List.getD_eq_getElem?_getD]
  cases t[i]? with
  | none => simp
  | some x => rfl
theorem words_clrT {t : List Nat} (gs : List Nat) (h : Words t) : Words (clrT t gs) := fun x hx => by
  simp only [clrT, List.mem_map] at hx
  obtain ⟨y, hy, rfl⟩ := hx
  split
  · decide
  · exact h y hy
theorem okW_clr {t : List Nat} (gs : List Nat) (h : OkW t) : OkW (clrT t gs) := by
  refine ⟨by rw [clrT_len]; exact h.1, fun i hi => ?_⟩
  rw [clrT_len] at hi
  unfold AloneW
  rw [clrT_at]
  by_cases hm : t.getD i 0 ∈ gs
  · rw [if_pos hm]; exact .inl rfl
  · rw [if_neg hm]
    rcases h.2 i hi with h1 | h1
    · exact .inl h1
    · by_cases h0 : t.getD i 0 = 0
      · exact .inl h0
      · refine .inr fun j hj => ?_
        rw [clrT_at]
        split
        · exact fun e => h0 e.symm
        · exact h1 j hj
/-- is the i-th cleared? -/
def goesW (t gs : List Nat) (i : Nat) : Bool := decide (t.getD i 0 ≠ 0 ∧ t.getD i 0 ∈ gs)
/-- the handles that are cleared, of the first k -/
def clrH (t gs : List Nat) : Nat → List Int
  | 0 => []
  | k + 1 => clrH t gs k ++ (if goesW t gs k then [((k + 1 : Nat) : Int)] else [])
theorem clrH_len (t gs : List Nat) (k : Nat) : (clrH t gs k).length ≤ k := by
  induction k with
  | zero => simp [clrH]
  | succ k ih =>
    simp only [clrH, List.length_append]
    split <;> simp <;> omega
theorem clrH_in (t gs : List Nat) (k : Nat) (hk : k ≤ 64) : ∀ x ∈ clrH t gs k, I63 x := by
  induction k with
  | zero => intro x hx; simp [clrH] at hx
  | succ k ih =>
    intro x hx
    simp only [clrH, List.mem_append] at hx
    rcases hx with hx | hx
    · exact ih (by omega) x hx
    · split at hx
      · simp only [List.mem_singleton] at hx
        subst hx
        unfold I63
        omega
      · simp at hx
/-- a table of which the first k are cleared -/
def clrK (t gs : List Nat) (k : Nat) : List Nat := clrT (t.take k) gs ++ t.drop k
theorem clrK_len (t gs : List Nat) (k : Nat) : (clrK t gs k).length = t.length := by
  unfold clrK
  rw [List.length_append, clrT_len, List.length_take, List.length_drop]
  omega
theorem clrK_at (t gs : List Nat) (k i : Nat) : (clrK t gs k).getD i 0 = if i < k then (if t.getD i 0 ∈ gs then 0 else t.getD i 0) else t.getD i 0 := by
  unfold clrK
  rw [List.getD_eq_getElem?_getD, List.getElem?_append, clrT_len, List.length_take]
  by_cases hi : i < t.length
  · by_cases h : i < k
    · rw [if_pos (by omega), ← List.getD_eq_getElem?_getD, clrT_at, getD_take _ _ _ h, if_pos h]
    · rw [if_neg (by omega), List.getElem?_drop, show k + (i - min k t.length) = i by omega, if_neg h, List.getD_eq_getElem?_getD]
  · have e : t.getD i 0 = 0 := by rw [List.getD_eq_getElem?_getD, List.getElem?_eq_none (by omega)]; rfl
    rw [if_neg (by omega), List.getElem?_drop, List.getElem?_eq_none (by omega), e]
    simp
theorem getD_setN (xs : List Nat) (i j v : Nat) (hi : i < xs.length) : (xs.set i v).getD j 0 = if j = i then v else xs.getD j 0 := by
  rw [List.getD_eq_getElem?_getD, List.getElem?_set, List.getD_eq_getElem?_getD]
  by_cases h : i = j
  · subst h
    simp [hi]
  · rw [if_neg h, if_neg (fun e => h e.symm)]
theorem list_ext0 {a b : List Nat} (hl : a.length = b.length) (h : ∀ i, i < a.length → a.getD i 0 = b.getD i 0) : a = b := by
  apply List.ext_getElem hl
  intro i h1 h2
  have := h i h1
  simpa [List.getD_eq_getElem?_getD, h1, h2] using this
theorem clrK_zero (t gs : List Nat) : clrK t gs 0 = t := by simp [clrK, clrT]
theorem clrK_all (t gs : List Nat) : clrK t gs t.length = clrT t gs := by simp [clrK]
theorem clrK_yes {t gs : List Nat} {k : Nat} (hk : k < t.length) (h : t.getD k 0 ∈ gs) : clrK t gs (k + 1) = (clrK t gs k).set k 0 := by
  refine list_ext0 (by rw [clrK_len, List.length_set, clrK_len]) fun i hi => ?_
  rw [clrK_len] at hi
  rw [clrK_at, getD_setN _ _ _ _ (by rw [clrK_len]; exact hk)]
  by_cases e : i = k
  · subst e
    rw [if_pos (by omega), if_pos h, if_pos rfl]
  · rw [if_neg e, clrK_at]
    by_cases e2 : i < k
    · rw [if_pos (by omega), if_pos e2]
    · rw [if_neg (by omega), if_neg e2]
theorem clrK_no {t gs : List Nat} {k : Nat} (hk : k < t.length) (h : ¬ (t.getD k 0 ≠ 0 ∧ t.getD k 0 ∈ gs)) : clrK t gs (k + 1) = clrK t gs k := by
  refine list_ext0 (by rw [clrK_len, clrK_len]) fun i hi => ?_
  rw [clrK_len] at hi
  rw [clrK_at, clrK_at]
  by_cases e : i = k
  · subst e
    rw [if_pos (by omega), if_neg (Nat.lt_irrefl i)]
    split
    · rename_i hm
      by_cases h0 : t.getD i 0 = 0
      · exact h0.symm
      · exact absurd ⟨h0, hm⟩ h
    · rfl
  · by_cases e2 : i < k
    · rw [if_pos (by omega), if_pos e2]
    · rw [if_neg (by omega), if_neg e2]

/-- what Make answers -/
def MkE (t : List Nat) (a : Nat) (r : List Nat) (h : Nat) (y : Int) : Prop :=
  (¬ OkW t ∧ r = [] ∧ h = 0 ∧ y = 2) ∨ (OkW t ∧ a = 0 ∧ r = t ∧ h = 0 ∧ y = 7) ∨ (OkW t ∧ a ≠ 0 ∧ hin t a ≠ 0 ∧ r = t ∧ h = hin t a ∧ y = 0) ∨
  (OkW t ∧ a ≠ 0 ∧ hin t a = 0 ∧ t.length = 64 ∧ r = t ∧ h = 0 ∧ y = 6) ∨ (OkW t ∧ a ≠ 0 ∧ hin t a = 0 ∧ t.length < 64 ∧ r = t ++ [a] ∧ h = t.length + 1 ∧ y = 0)
theorem MkE.ex (t : List Nat) (a : Nat) : ∃ r h y, MkE t a r h y := by
  by_cases h1 : OkW t
  · by_cases h2 : a = 0
    · exact ⟨_, _, _, .inr (.inl ⟨h1, h2, rfl, rfl, rfl⟩)⟩
    · by_cases h3 : hin t a = 0
      · by_cases h4 : t.length < 64
        · exact ⟨_, _, _, .inr (.inr (.inr (.inr ⟨h1, h2, h3, h4, rfl, rfl, rfl⟩)))⟩
        · exact ⟨_, _, _, .inr (.inr (.inr (.inl ⟨h1, h2, h3, by have := h1.1; omega, rfl, rfl, rfl⟩)))⟩
      · exact ⟨_, _, _, .inr (.inr (.inl ⟨h1, h2, h3, rfl, rfl, rfl⟩))⟩
  · exact ⟨_, _, _, .inl ⟨h1, rfl, rfl, rfl⟩⟩
def GetE (t : List Nat) (i : Int) (v : Nat) (y : Int) : Prop :=
  (¬ OkW t ∧ v = 0 ∧ y = 2) ∨ (OkW t ∧ ¬ (1 ≤ i ∧ i ≤ t.length) ∧ v = 0 ∧ y = 3) ∨ (OkW t ∧ 1 ≤ i ∧ i ≤ t.length ∧ v = t.getD (i - 1).toNat 0 ∧ y = 0)
theorem GetE.ex (t : List Nat) (i : Int) : ∃ v y, GetE t i v y := by
  by_cases h1 : OkW t
  · by_cases h2 : 1 ≤ i ∧ i ≤ t.length
    · exact ⟨_, _, .inr (.inr ⟨h1, h2.1, h2.2, rfl, rfl⟩)⟩
    · exact ⟨_, _, .inr (.inl ⟨h1, h2, rfl, rfl⟩)⟩
  · exact ⟨_, _, .inl ⟨h1, rfl, rfl⟩⟩
def ClrE (t gs : List Nat) (r : List Nat) (l : List Int) (y : Int) : Prop :=
  (¬ OkW t ∧ r = [] ∧ l = [] ∧ y = 2) ∨ (OkW t ∧ r = clrT t gs ∧ l = clrH t gs t.length ∧ y = 0)
theorem ClrE.ex (t gs : List Nat) : ∃ r l y, ClrE t gs r l y := by
  by_cases h1 : OkW t
  · exact ⟨_, _, _, .inr ⟨h1, rfl, rfl, rfl⟩⟩
  · exact ⟨_, _, _, .inl ⟨h1, rfl, rfl, rfl⟩⟩
def HanE (t : List Nat) (a : Nat) (h : Nat) (y : Int) : Prop :=
  (¬ OkW t ∧ h = 0 ∧ y = 2) ∨ (OkW t ∧ a = 0 ∧ h = 0 ∧ y = 7) ∨ (OkW t ∧ a ≠ 0 ∧ hin t a = 0 ∧ h = 0 ∧ y = 3) ∨ (OkW t ∧ a ≠ 0 ∧ hin t a ≠ 0 ∧ h = hin t a ∧ y = 0)
theorem HanE.ex (t : List Nat) (a : Nat) : ∃ h y, HanE t a h y := by
  by_cases h1 : OkW t
  · by_cases h2 : a = 0
    · exact ⟨_, _, .inr (.inl ⟨h1, h2, rfl, rfl⟩)⟩
    · by_cases h3 : hin t a = 0
      · exact ⟨_, _, .inr (.inr (.inl ⟨h1, h2, h3, rfl, rfl⟩))⟩
      · exact ⟨_, _, .inr (.inr (.inr ⟨h1, h2, h3, rfl, rfl⟩))⟩
  · exact ⟨_, _, .inl ⟨h1, rfl, rfl⟩⟩
end Go.Proofs.Ytkdbcoibapcmjaa
