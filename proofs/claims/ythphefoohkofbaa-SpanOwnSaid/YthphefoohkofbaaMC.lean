/- MC, in one text: W1, W2, W3, S18, S19, S20, S21, S22. -/
import Derived.Test.YthphefoohkofbaaMA
import Derived.Lib.SliceRun
import Derived.Test.YthphefoohkofbaaMB
import Derived.Deep.AppendSrc
import Derived.Lib.AppendZerosOnto
import Derived.Deep.Slices
/- Tables of weak handles: plain facts. -/
namespace Go.Proofs.Ythphefoohkofbaa
open Go.RowKit
set_option linter.unusedVariables false
set_option linter.unusedSimpArgs false

/-- where a is first, or the length -/
def ixN : List Nat → Nat → Nat
  | [], _ => 0
  | x :: t, a => if x = a then 0 else ixN t a + 1
theorem ixN_le (t : List Nat) (a : Nat) : ixN t a ≤ t.length := by
  induction t with
  | nil => exact Nat.le_refl _
  | cons x t ih =>
    unfold ixN
    split
    · omega
    · simp only [List.length_cons]; omega
theorem ixN_hit {t : List Nat} {a k : Nat} (hk : k < t.length) (h : t.getD k 0 = a) (hb : ∀ j, j < k → t.getD j 0 ≠ a) : ixN t a = k := by
  induction t generalizing k with
  | nil => simp at hk
  | cons x t ih =>
    unfold ixN
    cases k with
    | zero =>
      simp only [List.getD_cons_zero] at h
      rw [if_pos h]
    | succ k =>
      have h0 := hb 0 (by omega)
      simp only [List.getD_cons_zero] at h0
      rw [if_neg h0]
      simp only [List.length_cons] at hk
      simp only [List.getD_cons_succ] at h
      rw [ih (by omega) h (fun j hj => by have := hb (j + 1) (by omega); simpa using this)]
theorem ixN_miss {t : List Nat} {a : Nat} (hb : ∀ j, j < t.length → t.getD j 0 ≠ a) : ixN t a = t.length := by
  induction t with
  | nil => rfl
  | cons x t ih =>
    unfold ixN
    have h0 := hb 0 (by simp)
    simp only [List.getD_cons_zero] at h0
    rw [if_neg h0, ih (fun j hj => by have := hb (j + 1) (by simp; omega); simpa using this)]
    simp
theorem ixN_get {t : List Nat} {a : Nat} (h : ixN t a < t.length) : t.getD (ixN t a) 0 = a ∧ ∀ j, j < ixN t a → t.getD j 0 ≠ a := by
  induction t with
  | nil => simp at h
  | cons x t ih =>
    unfold ixN at h ⊢
    by_cases hx : x = a
    · rw [if_pos hx]
      exact ⟨by simpa using hx, fun j hj => by omega⟩
    · rw [if_neg hx] at h ⊢
      simp only [List.length_cons] at h
      obtain ⟨g1, g2⟩ := ih (by omega)
      refine ⟨by simpa using g1, fun j hj => ?_⟩
      cases j with
      | zero => simpa using hx
      | succ j => have := g2 j (by omega); simpa using this
theorem ixN_no {t : List Nat} {a : Nat} (h : ¬ ixN t a < t.length) : ∀ j, j < t.length → t.getD j 0 ≠ a := fun j hj e => by
  have : ∃ k, k < t.length ∧ t.getD k 0 = a ∧ ∀ i, i < k → t.getD i 0 ≠ a := by
    clear h
    induction j using Nat.strongRecOn with
    | _ j ih =>
      by_cases hh : ∃ i, i < j ∧ t.getD i 0 = a
      · obtain ⟨i, h1, h2⟩ := hh
        exact ih i h1 (by omega) h2
      · exact ⟨j, hj, e, fun i hi h2 => hh ⟨i, hi, h2⟩⟩
  obtain ⟨k, h1, h2, h3⟩ := this
  rw [ixN_hit h1 h2 h3] at h
  exact h h1
/-- an address's handle, or 0 -/
def hin (t : List Nat) (a : Nat) : Nat := if a ≠ 0 ∧ ixN t a < t.length then ixN t a + 1 else 0
theorem hin_zero (t : List Nat) : hin t 0 = 0 := by simp [hin]
theorem hin_hit {t : List Nat} {a k : Nat} (ha : a ≠ 0) (hk : k < t.length) (h : t.getD k 0 = a) (hb : ∀ j, j < k → t.getD j 0 ≠ a) : hin t a = k + 1 := by
  unfold hin
  rw [ixN_hit hk h hb, if_pos ⟨ha, hk⟩]
theorem hin_miss {t : List Nat} {a : Nat} (hb : ∀ j, j < t.length → t.getD j 0 ≠ a) : hin t a = 0 := by
  unfold hin
  rw [ixN_miss hb, if_neg (by omega)]
theorem hin_le (t : List Nat) (a : Nat) : hin t a ≤ t.length := by
  unfold hin
  split <;> omega
theorem hin_pos {t : List Nat} {a : Nat} (h : hin t a ≠ 0) : a ≠ 0 ∧ hin t a ≤ t.length ∧ t.getD (hin t a - 1) 0 = a ∧ ∀ j, j < hin t a - 1 → t.getD j 0 ≠ a := by
  unfold hin at h ⊢
  split at h
  · rename_i hh
    rw [if_pos hh]
    obtain ⟨g1, g2⟩ := ixN_get hh.2
    exact ⟨hh.1, by omega, g1, g2⟩
  · exact absurd rfl h
theorem hin_none {t : List Nat} {a : Nat} (ha : a ≠ 0) (h : hin t a = 0) : ∀ j, j < t.length → t.getD j 0 ≠ a := by
  unfold hin at h
  split at h
  · omega
  · rename_i hh
    exact ixN_no (fun h2 => hh ⟨ha, h2⟩)
theorem getD_take (t : List Nat) (i j : Nat) (h : j < i) : (t.take i).getD j 0 = t.getD j 0 := by
  rw [List.getD_eq_getElem?_getD, List.getD_eq_getElem?_getD, List.getElem?_take_of_lt h]
/-- no handle ahead of i leads to what the i-th leads to -/
def AloneW (t : List Nat) (i : Nat) : Prop := t.getD i 0 = 0 ∨ ∀ j, j < i → t.getD j 0 ≠ t.getD i 0
theorem alone_hin (t : List Nat) (i : Nat) (hi : i < t.length) : hin (t.take i) (t.getD i 0) = 0 ↔ AloneW t i := by
  constructor
  · intro h
    by_cases h0 : t.getD i 0 = 0
    · exact .inl h0
    · refine .inr fun j hj => ?_
      have := hin_none h0 h j (by rw [List.length_take]; omega)
      rwa [getD_take _ _ _ hj] at this
  · rintro (h | h)
    · rw [h, hin_zero]
    · refine hin_miss fun j hj => ?_
      rw [List.length_take] at hj
      rw [getD_take _ _ _ (by omega)]
      exact h j (by omega)
/-- a table that is right -/
def OkW (t : List Nat) : Prop := t.length ≤ 64 ∧ ∀ i, i < t.length → AloneW t i
theorem okW_nil : OkW [] := ⟨by simp, fun i hi => by simp at hi⟩
theorem okW_hin {t : List Nat} (h : OkW t) (i : Nat) (hi : i < t.length) (h0 : t.getD i 0 ≠ 0) : hin t (t.getD i 0) = i + 1 := by
  rcases h.2 i hi with h1 | h1
  · exact absurd h1 h0
  · exact hin_hit h0 hi rfl h1
theorem getD_snoc (t : List Nat) (a j : Nat) : (t ++ [a]).getD j 0 = if j < t.length then t.getD j 0 else if j = t.length then a else 0 := by
  rw [List.getD_eq_getElem?_getD, List.getElem?_append]
  split
  · rw [List.getD_eq_getElem?_getD]
  · rename_i h
    by_cases e : j = t.length
    · subst e; simp
    · rw [if_neg e, List.getElem?_eq_none (by simp; omega)]
      rfl
theorem okW_snoc {t : List Nat} {a : Nat} (h : OkW t) (ha : a ≠ 0) (hn : hin t a = 0) (hl : t.length < 64) : OkW (t ++ [a]) := by
  refine ⟨by simp; omega, fun i hi => ?_⟩
  simp only [List.length_append, List.length_singleton] at hi
  unfold AloneW
  by_cases e : i = t.length
  · subst e
    refine .inr fun j hj => ?_
    rw [getD_snoc, getD_snoc, if_pos hj, if_neg (by omega), if_pos rfl]
    exact hin_none ha hn j hj
  · rcases h.2 i (by omega) with h1 | h1
    · refine .inl ?_
      rw [getD_snoc, if_pos (by omega), h1]
    · refine .inr fun j hj => ?_
      rw [getD_snoc, getD_snoc, if_pos (by omega), if_pos (by omega)]
      exact h1 j hj
/-- a table of which some addresses are cleared -/
def clrT (t gs : List Nat) : List Nat := t.map fun a => if a ∈ gs then 0 else a
theorem clrT_len (t gs : List Nat) : (clrT t gs).length = t.length := by simp [clrT]
theorem clrT_at (t gs : List Nat) (i : Nat) : (clrT t gs).getD i 0 = if t.getD i 0 ∈ gs then 0 else t.getD i 0 := by
  unfold clrT
  rw [List.getD_eq_getElem?_getD, List.getElem?_map, List.getD_eq_getElem?_getD]
  cases t[i]? with
  | none => simp
  | some x => rfl
theorem words_clrT {t : List Nat} (gs : List Nat) (h : Words t) : Words (clrT t gs) := fun x hx => by
  simp only [clrT, List.mem_map] at hx
  obtain ⟨y, hy, rfl⟩ := hx
  split
  · decide
  · exact h y hy
theorem okW_clr {t : List Nat} (gs : List Nat) (h : OkW t) : OkW (clrT t gs) := by
  refine ⟨by rw [clrT_len]; exact h.1, fun i hi => ?_⟩
  rw [clrT_len] at hi
  unfold AloneW
  rw [clrT_at]
  by_cases hm : t.getD i 0 ∈ gs
  · rw [if_pos hm]; exact .inl rfl
  · rw [if_neg hm]
    rcases h.2 i hi with h1 | h1
    · exact .inl h1
    · by_cases h0 : t.getD i 0 = 0
      · exact .inl h0
      · refine .inr fun j hj => ?_
        rw [clrT_at]
        split
        · exact fun e => h0 e.symm
        · exact h1 j hj
/-- is the i-th cleared? -/
def goesW (t gs : List Nat) (i : Nat) : Bool := decide (t.getD i 0 ≠ 0 ∧ t.getD i 0 ∈ gs)
/-- the handles that are cleared, of the first k -/
def clrH (t gs : List Nat) : Nat → List Int
  | 0 => []
  | k + 1 => clrH t gs k ++ (if goesW t gs k then [((k + 1 : Nat) : Int)] else [])
theorem clrH_len (t gs : List Nat) (k : Nat) : (clrH t gs k).length ≤ k := by
  induction k with
  | zero => simp [clrH]
  | succ k ih =>
    simp only [clrH, List.length_append]
    split <;> simp <;> omega
theorem clrH_in (t gs : List Nat) (k : Nat) (hk : k ≤ 64) : ∀ x ∈ clrH t gs k, I63 x := by
  induction k with
  | zero => intro x hx; simp [clrH] at hx
  | succ k ih =>
    intro x hx
    simp only [clrH, List.mem_append] at hx
    rcases hx with hx | hx
    · exact ih (by omega) x hx
    · split at hx
      · simp only [List.mem_singleton] at hx
        subst hx
        unfold I63
        omega
      · simp at hx
/-- a table of which the first k are cleared -/
def clrK (t gs : List Nat) (k : Nat) : List Nat := clrT (t.take k) gs ++ t.drop k
theorem clrK_len (t gs : List Nat) (k : Nat) : (clrK t gs k).length = t.length := by
  unfold clrK
  rw [List.length_append, clrT_len, List.length_take, List.length_drop]
  omega
theorem clrK_at (t gs : List Nat) (k i : Nat) : (clrK t gs k).getD i 0 = if i < k then (if t.getD i 0 ∈ gs then 0 else t.getD i 0) else t.getD i 0 := by
  unfold clrK
  rw [List.getD_eq_getElem?_getD, List.getElem?_append, clrT_len, List.length_take]
  by_cases hi : i < t.length
  · by_cases h : i < k
    · rw [if_pos (by omega), ← List.getD_eq_getElem?_getD, clrT_at, getD_take _ _ _ h, if_pos h]
    · rw [if_neg (by omega), List.getElem?_drop, show k + (i - min k t.length) = i by omega, if_neg h, List.getD_eq_getElem?_getD]
  · have e : t.getD i 0 = 0 := by rw [List.getD_eq_getElem?_getD, List.getElem?_eq_none (by omega)]; rfl
    rw [if_neg (by omega), List.getElem?_drop, List.getElem?_eq_none (by omega), e]
    simp
theorem getD_setN (xs : List Nat) (i j v : Nat) (hi : i < xs.length) : (xs.set i v).getD j 0 = if j = i then v else xs.getD j 0 := by
  rw [List.getD_eq_getElem?_getD, List.getElem?_set, List.getD_eq_getElem?_getD]
  by_cases h : i = j
  · subst h
    simp [hi]
  · rw [if_neg h, if_neg (fun e => h e.symm)]
theorem list_ext0 {a b : List Nat} (hl : a.length = b.length) (h : ∀ i, i < a.length → a.getD i 0 = b.getD i 0) : a = b := by
  apply List.ext_getElem hl
  intro i h1 h2
  have := h i h1
  simpa [List.getD_eq_getElem?_getD, h1, h2] using this
theorem clrK_zero (t gs : List Nat) : clrK t gs 0 = t := by simp [clrK, clrT]
theorem clrK_all (t gs : List Nat) : clrK t gs t.length = clrT t gs := by simp [clrK]
theorem clrK_yes {t gs : List Nat} {k : Nat} (hk : k < t.length) (h : t.getD k 0 ∈ gs) : clrK t gs (k + 1) = (clrK t gs k).set k 0 := by
  refine list_ext0 (by rw [clrK_len, List.length_set, clrK_len]) fun i hi => ?_
  rw [clrK_len] at hi
  rw [clrK_at, getD_setN _ _ _ _ (by rw [clrK_len]; exact hk)]
  by_cases e : i = k
  · subst e
    rw [if_pos (by omega), if_pos h, if_pos rfl]
  · rw [if_neg e, clrK_at]
    by_cases e2 : i < k
    · rw [if_pos (by omega), if_pos e2]
    · rw [if_neg (by omega), if_neg e2]
theorem clrK_no {t gs : List Nat} {k : Nat} (hk : k < t.length) (h : ¬ (t.getD k 0 ≠ 0 ∧ t.getD k 0 ∈ gs)) : clrK t gs (k + 1) = clrK t gs k := by
  refine list_ext0 (by rw [clrK_len, clrK_len]) fun i hi => ?_
  rw [clrK_len] at hi
  rw [clrK_at, clrK_at]
  by_cases e : i = k
  · subst e
    rw [if_pos (by omega), if_neg (Nat.lt_irrefl i)]
    split
    · rename_i hm
      by_cases h0 : t.getD i 0 = 0
      · exact h0.symm
      · exact absurd ⟨h0, hm⟩ h
    · rfl
  · by_cases e2 : i < k
    · rw [if_pos (by omega), if_pos e2]
    · rw [if_neg (by omega), if_neg e2]

/-- what Make answers -/
def MkE (t : List Nat) (a : Nat) (r : List Nat) (h : Nat) (y : Int) : Prop :=
  (¬ OkW t ∧ r = [] ∧ h = 0 ∧ y = 2) ∨ (OkW t ∧ a = 0 ∧ r = t ∧ h = 0 ∧ y = 7) ∨ (OkW t ∧ a ≠ 0 ∧ hin t a ≠ 0 ∧ r = t ∧ h = hin t a ∧ y = 0) ∨
  (OkW t ∧ a ≠ 0 ∧ hin t a = 0 ∧ t.length = 64 ∧ r = t ∧ h = 0 ∧ y = 6) ∨ (OkW t ∧ a ≠ 0 ∧ hin t a = 0 ∧ t.length < 64 ∧ r = t ++ [a] ∧ h = t.length + 1 ∧ y = 0)
theorem MkE.ex (t : List Nat) (a : Nat) : ∃ r h y, MkE t a r h y := by
  by_cases h1 : OkW t
  · by_cases h2 : a = 0
    · exact ⟨_, _, _, .inr (.inl ⟨h1, h2, rfl, rfl, rfl⟩)⟩
    · by_cases h3 : hin t a = 0
      · by_cases h4 : t.length < 64
        · exact ⟨_, _, _, .inr (.inr (.inr (.inr ⟨h1, h2, h3, h4, rfl, rfl, rfl⟩)))⟩
        · exact ⟨_, _, _, .inr (.inr (.inr (.inl ⟨h1, h2, h3, by have := h1.1; omega, rfl, rfl, rfl⟩)))⟩
      · exact ⟨_, _, _, .inr (.inr (.inl ⟨h1, h2, h3, rfl, rfl, rfl⟩))⟩
  · exact ⟨_, _, _, .inl ⟨h1, rfl, rfl, rfl⟩⟩
def GetE (t : List Nat) (i : Int) (v : Nat) (y : Int) : Prop :=
  (¬ OkW t ∧ v = 0 ∧ y = 2) ∨ (OkW t ∧ ¬ (1 ≤ i ∧ i ≤ t.length) ∧ v = 0 ∧ y = 3) ∨ (OkW t ∧ 1 ≤ i ∧ i ≤ t.length ∧ v = t.getD (i - 1).toNat 0 ∧ y = 0)
theorem GetE.ex (t : List Nat) (i : Int) : ∃ v y, GetE t i v y := by
  by_cases h1 : OkW t
  · by_cases h2 : 1 ≤ i ∧ i ≤ t.length
    · exact ⟨_, _, .inr (.inr ⟨h1, h2.1, h2.2, rfl, rfl⟩)⟩
    · exact ⟨_, _, .inr (.inl ⟨h1, h2, rfl, rfl⟩)⟩
  · exact ⟨_, _, .inl ⟨h1, rfl, rfl⟩⟩
def ClrE (t gs : List Nat) (r : List Nat) (l : List Int) (y : Int) : Prop :=
  (¬ OkW t ∧ r = [] ∧ l = [] ∧ y = 2) ∨ (OkW t ∧ r = clrT t gs ∧ l = clrH t gs t.length ∧ y = 0)
theorem ClrE.ex (t gs : List Nat) : ∃ r l y, ClrE t gs r l y := by
  by_cases h1 : OkW t
  · exact ⟨_, _, _, .inr ⟨h1, rfl, rfl, rfl⟩⟩
  · exact ⟨_, _, _, .inl ⟨h1, rfl, rfl, rfl⟩⟩
def HanE (t : List Nat) (a : Nat) (h : Nat) (y : Int) : Prop :=
  (¬ OkW t ∧ h = 0 ∧ y = 2) ∨ (OkW t ∧ a = 0 ∧ h = 0 ∧ y = 7) ∨ (OkW t ∧ a ≠ 0 ∧ hin t a = 0 ∧ h = 0 ∧ y = 3) ∨ (OkW t ∧ a ≠ 0 ∧ hin t a ≠ 0 ∧ h = hin t a ∧ y = 0)
theorem HanE.ex (t : List Nat) (a : Nat) : ∃ h y, HanE t a h y := by
  by_cases h1 : OkW t
  · by_cases h2 : a = 0
    · exact ⟨_, _, .inr (.inl ⟨h1, h2, rfl, rfl⟩)⟩
    · by_cases h3 : hin t a = 0
      · exact ⟨_, _, .inr (.inr (.inl ⟨h1, h2, h3, rfl, rfl⟩))⟩
      · exact ⟨_, _, .inr (.inr (.inr ⟨h1, h2, h3, rfl, rfl⟩))⟩
  · exact ⟨_, _, .inl ⟨h1, rfl, rfl⟩⟩
end Go.Proofs.Ythphefoohkofbaa

/- Contracts: slices.Index, slices.Contains of words; a handle in a table, the code's and the document's. -/
namespace Go.Proofs.Ythphefoohkofbaa
open Go.RowKit
set_option linter.unusedVariables false
set_option linter.unusedSimpArgs false

theorem Row.cellAt {w : World} {B : Nat} {A : Option Addr} {ws : List Nat} (h : Row w B A ws) {k : Nat} (hk : k < ws.length) : ∃ b off, A = some ⟨b, off, none⟩ ∧ b < B ∧ w.cell? ⟨b, off + k, none⟩ = some (.int .u64 (ws.getD k 0 : Nat)) := by
  obtain ⟨b, off, e, hb, hc⟩ := h.at_ (by omega)
  exact ⟨b, off, e, hb, hc k hk⟩
theorem Row.take {w : World} {B : Nat} {A : Option Addr} {ws : List Nat} (h : Row w B A ws) (k : Nat) : Row w B A (ws.take k) :=
  ⟨fun x hx => h.words x (List.mem_of_mem_take hx), fun hl => by
    rw [List.length_take] at hl
    obtain ⟨b, off, e, hb, hc⟩ := h.at_ (by omega)
    refine ⟨b, off, e, hb, fun i hi => ?_⟩
    rw [List.length_take] at hi
    rw [getD_take _ _ _ (by omega)]
    exact hc i (by omega)⟩
/-- what slices.Index says -/
def ixI (t : List Nat) (a : Nat) : Int := if ixN t a < t.length then (ixN t a : Nat) else -1
section
variable {w : World} {A : Option Addr} {us : List Nat} {L : Nat} (cap : Nat)
theorem ixI_mem (us : List Nat) (a : Nat) : (0 ≤ ixI us a) ↔ a ∈ us := by
  unfold ixI
  split
  · rename_i h
    obtain ⟨g1, _⟩ := ixN_get h
    constructor
    · intro _
      rw [List.getD_eq_getElem?_getD, List.getElem?_eq_getElem h] at g1
      simp only [Option.getD_some] at g1
      rw [← g1]
      exact List.getElem_mem h
    · intro _; omega
  · rename_i h
    have hn := ixN_no h
    constructor
    · intro h2; omega
    · intro hm
      obtain ⟨i, hi, e⟩ := List.getElem_of_mem hm
      exact absurd (by rw [List.getD_eq_getElem?_getD, List.getElem?_eq_getElem hi]; exact e) (hn i hi)
end
end Go.Proofs.Ythphefoohkofbaa

/- Words of a call's own; whether a table is right; copies; whether two are one. -/
namespace Go.Proofs.Ythphefoohkofbaa
open Go.RowKit
set_option linter.unusedVariables false
set_option linter.unusedSimpArgs false

/-- words of a call's own, in a block from B on -/
structure OwnsN (w : World) (B : Nat) (A : Option Addr) (n cap : Nat) (t : List Nat) : Prop where
  len : t.length = n
  words : Words t
  row_ : w.ownsRow B 33 1 (.slice A n cap) n (vals t)
theorem owns_laterN {w w' : World} {B s n : Nat} {e : TypeId} {v : Value} {xs : List Value} (h : w.ownsRow B e s v n xs) (hb : Below w.heap.size w w') : w'.ownsRow B e s v n xs := by
  refine World.ownsRow.kept (row := none) h ⟨hb.os, hb.tape, hb.output, hb.size, fun k hk _ => hb.block k hk⟩ ?_
  cases hv : v.ownBlock
  · exact .inl rfl
  · exact .inr (by simp)
theorem owns_monoN {w : World} {B B' s n : Nat} {e : TypeId} {v : Value} {xs : List Value} (h : w.ownsRow B e s v n xs) (hB : B' ≤ B) : w.ownsRow B' e s v n xs := by
  obtain ⟨h0, h1 | ⟨g, c, cur, h1, h2, h3⟩⟩ := h
  · exact ⟨h0, .inl h1⟩
  · exact ⟨h0, .inr ⟨g, c, cur, h1, Nat.le_trans hB h2, h3⟩⟩
theorem owns_cap {w : World} {B t s n cap : Nat} {A : Option Addr} {xs : List Value} (h : w.ownsRow B t s (.slice A n cap) n xs) : n ≤ cap ∧ (A = none → cap = 0) := by
  obtain ⟨_, ⟨h1, h2⟩ | ⟨g, cap', cur, e, _, _, hc, hm, _, _⟩⟩ := id h
  · injection h1 with h1 h3 h4
    exact ⟨by omega, fun _ => h4⟩
  · injection e with e1 e2 e3
    subst e3
    exact ⟨by omega, fun hn => by rw [hn] at e1; cases e1⟩
theorem OwnsN.cap_ {w : World} {B n cap : Nat} {A : Option Addr} {t : List Nat} (h : OwnsN w B A n cap t) : n ≤ cap := (owns_cap h.row_).1
theorem OwnsN.nil_ {w : World} {B n cap : Nat} {A : Option Addr} {t : List Nat} (h : OwnsN w B A n cap t) : A = none → cap = 0 := (owns_cap h.row_).2
theorem OwnsN.later {w w' : World} {B n cap : Nat} {A : Option Addr} {t : List Nat} (h : OwnsN w B A n cap t) (hb : Below w.heap.size w w') : OwnsN w' B A n cap t := ⟨h.len, h.words, owns_laterN h.row_ hb⟩
theorem OwnsN.mono {w : World} {B B' n cap : Nat} {A : Option Addr} {t : List Nat} (h : OwnsN w B A n cap t) (hB : B' ≤ B) : OwnsN w B' A n cap t := ⟨h.len, h.words, owns_monoN h.row_ hB⟩
theorem OwnsN.own {w : World} {B n cap : Nat} {A : Option Addr} {t : List Nat} (h : OwnsN w B A n cap t) : Own w B A t :=
  ⟨h.words, fun hl => by
    have hn := h.len
    have hr := h.row_
    obtain ⟨_, ⟨h1, h2⟩ | ⟨g, cap', cur, e, _⟩⟩ := id hr
    · omega
    · injection e with e1 e2 e3
      subst e1
      obtain ⟨l1, l2⟩ := hr.lt g rfl
      refine ⟨g, rfl, l1, l2, fun i hi => ⟨?_, hr.frozenAt i⟩⟩
      rw [hr.cellAt i (by omega), vals_at t i hi]⟩
theorem OwnsN.row {w : World} {B n cap : Nat} {A : Option Addr} {t : List Nat} (h : OwnsN w B A n cap t) : Row w w.heap.size A t := h.own.row
theorem OwnsN.nil (w : World) (B : Nat) : OwnsN w B none 0 0 [] := ⟨rfl, fun x hx => by simp at hx, World.ownsRow_nil _ _ _ _⟩
theorem own_emptyN (w w' : World) (B : Nat) (hB : B ≤ w.heap.size) (h : w'.heap = (w.alloc (.cells #[] 33)).heap) : w'.ownsRow B 33 1 (.slice (some ⟨w.heap.size, 0, none⟩) 0 0) 0 [] :=
  ⟨rfl, .inr ⟨w.heap.size, 0, #[], rfl, hB, by rw [h]; exact heap_alloc_new _ _, Nat.le_refl _, Nat.zero_le _, rfl, rfl⟩⟩
/-- a copy of words -/
def CopiedN (w : World) (t : List Nat) (e : Ending) (w' : World) : Prop := ∃ A cap, e = .returned (.slice A t.length cap) ∧ OwnsN w' w.heap.size A t.length cap t ∧ Below w.heap.size w w'
section
variable {w : World} {A : Option Addr} {t : List Nat} (cap : Nat)
theorem wclone_any (hr : Row w w.heap.size A t) (hl : t.length ≤ 17592186044416) (hn : A = none → cap = 0) : Calls Try.prog 69 #[.slice A t.length cap] w fun e w' => CopiedN w t e w' := by
  unfold CopiedN
  have q22 : ∀ (w : World) (a : Option Addr) (n c n' c' : Nat), (binOp .eql 22 (.slice a n c) (.slice none n' c')).run Try.prog w = .ok (.bool a.isNone) w := fun w a n c n' c' => Lib.run_eql_slice_nil w _ _ a n c n' c' Try.underlying22
  obtain ⟨i0, hi, hz0, hz1, hz2⟩ := info_parts info_u64
  by_cases h0 : 0 < t.length
  · obtain ⟨b, off, rfl, hbb, hc⟩ := hr.at_ h0
    have hsrc := fun j v hv => hr.src2 (Below.refl _ _) (b := b) (off := off) j v hv
    have hlt : b < w.heap.size := hbb
    go_enter Try.func69, Try.ntmps69
    go_wp2_with (at_builtin; refine wpList_append_lies _ ?_ (.tmp 5) (.tmp 6) 22 ?_ w.heap.size 33 i0 _ 1 8 Try.underlying22 hi hz0 hz1 hz2 rfl (by omega) (.slice (some ⟨w.heap.size, 0, none⟩) 0 0) 0 [] ?_ (own_emptyN w _ _ (Nat.le_refl _) rfl) ⟨b, off, none⟩ t.length cap (vals t) ?_ (by rw [length_vals, Nat.mul_one]) ?_ (vals_one t) h0 (by unfold maxLen; omega) (by omega) (by simp) _ rfl ?_; rfl; rfl; rfl; rfl; (exact fun j u hj => by rw [add_form]; exact (World.cell?_alloc_lt _ _ ⟨_, _, _⟩ hlt).trans (by have := hsrc j u hj; rwa [add_form] at this)); intro g cap2 w2 hown2 hg2 hat2 hlt2; simp only [Nat.zero_add, List.nil_append] at hown2; have hb_w2 : Below w.heap.size _ w2 := (Below.refl _ _).grown hg2 (by first | omega | (simp; omega) | simp) (fun k hk => (by simp [Value.ownBlock] at hk; omega)))
    go_ret
    exact ⟨_, cap2, rfl, ⟨rfl, hr.words, hown2⟩, (by repeat (first | exact Below.refl _ _ | assumption | (refine below_drewN ?_ _) | (refine Below.drew ?_) | (refine Below.alloc ?_ (by first | omega | (simp; omega) | simp) _) | (refine Below.setCell ?_ (by first | omega | (simp; omega) | simp) _) | (refine below_trans ?_ (by assumption) (by first | omega | (simp; omega) | simp))))⟩
  · obtain rfl : t = [] := List.eq_nil_of_length_eq_zero (by omega)
    cases A with
    | none =>
      obtain rfl := hn rfl
      simp only [List.length_nil]
      go_enter Try.func69, Try.ntmps69
      go_wp2
      go_ret
      exact ⟨none, 0, rfl, OwnsN.nil _ _, (by repeat (first | exact Below.refl _ _ | assumption | (refine below_drewN ?_ _) | (refine Below.drew ?_) | (refine Below.alloc ?_ (by first | omega | (simp; omega) | simp) _) | (refine Below.setCell ?_ (by first | omega | (simp; omega) | simp) _) | (refine below_trans ?_ (by assumption) (by first | omega | (simp; omega) | simp))))⟩
    | some a =>
      have ho := own_emptyN w (w.alloc (.cells #[] 33)) w.heap.size (Nat.le_refl _) rfl
      simp only [List.length_nil]
      go_enter Try.func69, Try.ntmps69
      go_wp2
      go_ret
      exact ⟨_, 0, rfl, ⟨rfl, hr.words, ho⟩, (by repeat (first | exact Below.refl _ _ | assumption | (refine below_drewN ?_ _) | (refine Below.drew ?_) | (refine Below.alloc ?_ (by first | omega | (simp; omega) | simp) _) | (refine Below.setCell ?_ (by first | omega | (simp; omega) | simp) _) | (refine below_trans ?_ (by assumption) (by first | omega | (simp; omega) | simp))))⟩
end
section
variable {w : World} {A C : Option Addr} {t u : List Nat} (cap cc : Nat)
end
end Go.Proofs.Ythphefoohkofbaa

/- Spans as values in memory; slices.Grow of nothing; slices.Concat of spans. -/
namespace Go.Proofs.Ythphefoohkofbaa
open Go.RowKit
set_option linter.unusedVariables false
set_option linter.unusedSimpArgs false

/-- a span, and where its words lie -/
structure Sv where
  d : Sd
  A : Option Addr
  ca : Nat
  M : Option Addr
  cm : Nat
def cells8 (v : Sv) : List Value := [.int .i64 v.d.f, .int .i64 v.d.p, .int .i64 v.d.z, .int .i64 v.d.an, .slice v.A v.d.aw.length v.ca, .int .i64 v.d.mn, .slice v.M v.d.mw.length v.cm, .bool v.d.s]
def flat8 : List Sv → List Value
  | [] => []
  | v :: l => cells8 v ++ flat8 l
theorem flat8_len (l : List Sv) : (flat8 l).length = l.length * 8 := by
  induction l with
  | nil => rfl
  | cons v l ih => simp only [flat8, List.length_append, ih, List.length_cons]; show 8 + _ = _; omega
theorem flat8_app (l m : List Sv) : flat8 (l ++ m) = flat8 l ++ flat8 m := by
  induction l with
  | nil => rfl
  | cons v l ih => simp [flat8, ih]
theorem flat8_one (l : List Sv) : ∀ v ∈ flat8 l, v.oneCell' = true := by
  induction l with
  | nil => intro v hv; simp [flat8] at hv
  | cons s l ih =>
    intro v hv
    simp only [flat8, List.mem_append] at hv
    rcases hv with hv | hv
    · simp only [cells8, List.mem_cons, List.mem_nil_iff, or_false] at hv
      rcases hv with rfl | rfl | rfl | rfl | rfl | rfl | rfl | rfl <;> rfl
    · exact ih v hv
theorem flat8_at (l : List Sv) (i j : Nat) (hj : j < 8) : (flat8 l)[i * 8 + j]? = l[i]?.bind fun v => (cells8 v)[j]? := by
  induction l generalizing i with
  | nil => simp [flat8]
  | cons v l ih =>
    cases i with
    | zero =>
      simp only [flat8, Nat.zero_mul, Nat.zero_add, List.getElem?_cons_zero, Option.bind_some]
      rw [List.getElem?_append_left (by show j < 8; exact hj)]
    | succ i =>
      simp only [flat8, List.getElem?_cons_succ]
      rw [List.getElem?_append_right (by show 8 ≤ _; omega), ← ih i]
      congr 1
      show _ - 8 = _
      omega
theorem flat8_set (l : List Sv) (i j : Nat) (v : Sv) (u : Value) (hi : i < l.length) (hj : j < 8) (hv : cells8 v = (cells8 l[i]).set j u) : (flat8 l).set (i * 8 + j) u = flat8 (l.set i v) := by
  induction l generalizing i with
  | nil => simp at hi
  | cons s l ih =>
    cases i with
    | zero =>
      simp only [List.set_cons_zero, flat8, Nat.zero_mul, Nat.zero_add]
      rw [List.set_append_left _ _ (by show j < 8; exact hj), hv]
      rfl
    | succ i =>
      simp only [List.set_cons_succ, flat8]
      rw [List.set_append_right _ _ (by show 8 ≤ _; omega), show (i + 1) * 8 + j - (cells8 s).length = i * 8 + j by show _ - 8 = _; omega, ih i (by simpa using hi) (by simpa using hv)]
theorem info_sp : (Try.prog.info? 26).map (fun i => (i.zero, i.size, i.bytes)) = some (some (.agg #[.int .i64 0, .int .i64 0, .int .i64 0, .int .i64 0, .slice none 0 0, .int .i64 0, .slice none 0 0, .bool false]), 8, 96) := by kernel_rfl
/-- the slice at A holds the cells of vs -/
def VRow (w : World) (A : Option Addr) (vs : List Sv) : Prop := 0 < vs.length → ∃ b off, A = some ⟨b, off, none⟩ ∧ b < w.heap.size ∧ ∀ j u, (flat8 vs)[j]? = some u → w.cell? ⟨b, off + j, none⟩ = some u
theorem VRow.later {w w' : World} {A : Option Addr} {vs : List Sv} (h : VRow w A vs) (hb : Below w.heap.size w w') : VRow w' A vs := fun hl => by
  obtain ⟨b, off, e, hbb, hc⟩ := h hl
  exact ⟨b, off, e, Nat.lt_of_lt_of_le hbb hb.size, fun j u hj => ((bcell hb).1 _ _ hbb).trans (hc j u hj)⟩
theorem run_append_none8 {w : World} (ty : TypeId) (v : Value) (n c : Nat) (xs : List Value) (base : Nat) (hown : w.ownsRow base 26 8 v n xs) :
    (Builtin.append_ #[27, 27] ty #[v, .slice none 0 c]).run Try.prog w = .ok v w := by
  obtain ⟨i0, hi, hz0, hz1, hz2⟩ := info_parts info_sp
  obtain ⟨_, ⟨rfl, rfl⟩ | ⟨g, cap, cur, rfl, _, hg, hc, hm, _, _⟩⟩ := hown
  · simp [Builtin.append_, run_underlying Try.underlying27, sizeOf, typeInfo, hi, hz1, Builtin.lenOf, Builtin.firstCells, storeCells]
  · have h1 : ¬ (9223372036854775807 < (n : Int)) := by unfold maxLen at hm; omega
    have hl : ∀ (x : Addr), (loadCells x 0).run Try.prog w = .ok #[] w := fun x => by simpa using run_loadCells_list (P := Try.prog) w x [] (by simp)
    simp [Builtin.append_, run_underlying Try.underlying27, sizeOf, typeInfo, hi, hz1, Builtin.lenOf, Builtin.firstCells, storeCells, hc, hl, h1]
theorem wp_append8 {w : World} {o : Oper} {a : Act} {K : Act → World → Prop} {Q : Exit → Act → World → Prop} (s x : Operand)
    (ho : o.op = .call { callee := .builtin .append, args := #[s, x], argTypes := #[27, 27] })
    (base : Nat) (A : Option Addr) (cap n : Nat) (xs : List Value) (hs : a.eval s = .slice A n cap) (hown : w.ownsRow base 26 8 (.slice A n cap) n xs)
    (Ao : Option Addr) (m c : Nat) (news : List Value) (hx : a.eval x = .slice Ao m c) (hl : news.length = m * 8) (hpos : 0 < m → ∃ b off, Ao = some ⟨b, off, none⟩ ∧ ∀ j u, news[j]? = some u → w.cell? ⟨b, off + j, none⟩ = some u) (h1 : ∀ u ∈ news, u.oneCell' = true)
    (hsm : n + m ≤ 100000) (hbase : base ≤ w.heap.size)
    (h : ∀ A' cap' w', w'.ownsRow base 26 8 (.slice A' (n + m) cap') (n + m) (xs ++ news) → w.grownBy w' (A.map fun a => a.block) → Below base w w' → (A' = A ∨ A' = some ⟨w.heap.size, 0, none⟩) → K (a.put o.dst (.slice A' (n + m) cap')) w') :
    Oper.wp Try.prog o a w K Q := by
  obtain ⟨i0, hi, hz0, hz1, hz2⟩ := info_parts info_sp
  have key : ∃ A' cap' w', (Builtin.append_ #[27, 27] o.type #[.slice A n cap, .slice Ao m c]).run Try.prog w = .ok (.slice A' (n + m) cap') w' ∧ w'.ownsRow base 26 8 (.slice A' (n + m) cap') (n + m) (xs ++ news) ∧ w.grownBy w' (A.map fun a => a.block) ∧ Below base w w' ∧ (A' = A ∨ A' = some ⟨w.heap.size, 0, none⟩) := by
    have hob : (Value.slice A n cap).ownBlock = A.map fun a => a.block := by cases A <;> rfl
    by_cases hm : 0 < m
    · obtain ⟨b, off, rfl, hc⟩ := hpos hm
      obtain ⟨g, cap', w', h2, h3, h4, h5, _⟩ := run_append_lies (P := Try.prog) w 27 o.type base 26 i0 _ 8 96 Try.underlying27 hi hz0 hz1 hz2 rfl (by omega) (.slice A n cap) n xs hown ⟨b, off, none⟩ m c news hl (fun j u hj => by rw [add_form]; exact hc j u hj) h1 hm (by unfold maxLen; omega) (by omega) hbase _ rfl
      refine ⟨_, cap', w', h2, h3, by rw [← hob]; exact h4, (Below.refl _ _).grown h4 hbase (fun k hk => (hown.lt k hk).1), ?_⟩
      rcases h5 with h5 | h5
      · left
        obtain ⟨_, ⟨e1, _⟩ | ⟨g', _, _, e1, _⟩⟩ := hown
        · injection e1 with e1
          subst e1
          cases h5
        · injection e1 with e1
          subst e1
          injection h5 with h5
          have h5' : g' = g := h5
          rw [h5']
      · right
        rw [h5]
    · obtain rfl : m = 0 := by omega
      obtain rfl : news = [] := List.eq_nil_of_length_eq_zero (by omega)
      cases Ao with
      | none => exact ⟨A, cap, w, run_append_none8 _ _ n c xs base hown, by simpa using hown, ⟨rfl, rfl, rfl, Nat.le_refl _, fun _ _ _ => rfl⟩, Below.refl _ _, .inl rfl⟩
      | some ad =>
        have hl : ∀ (x : Addr), (loadCells x 0).run Try.prog w = .ok #[] w := fun x => by simpa using run_loadCells_list (P := Try.prog) w x [] (by simp)
        have h2 : (Builtin.append_ #[27, 27] o.type #[.slice A n cap, .slice (some ad) 0 c]).run Try.prog w = .ok (.slice A n cap) w := by
          obtain ⟨_, ⟨e1, rfl⟩ | ⟨g, cap', cur, e1, _, hg, hc, hm, _, _⟩⟩ := id hown
          · injection e1 with e1 _ e3
            subst e1 e3
            simp [Builtin.append_, run_underlying Try.underlying27, sizeOf, typeInfo, hi, hz1, Builtin.lenOf, Builtin.firstCells, storeCells, hl]
          · injection e1 with e1 _ e3
            subst e1 e3
            have h1 : ¬ (9223372036854775807 < (n : Int)) := by unfold maxLen at hm; omega
            simp [Builtin.append_, run_underlying Try.underlying27, sizeOf, typeInfo, hi, hz1, Builtin.lenOf, Builtin.firstCells, storeCells, hc, hl, h1]
        exact ⟨A, cap, w, h2, by simpa using hown, ⟨rfl, rfl, rfl, Nat.le_refl _, fun _ _ _ => rfl⟩, Below.refl _ _, .inl rfl⟩
  obtain ⟨A', cap', w', h2, h3, h5, h4, h6⟩ := key
  unfold Oper.wp execOp
  simp only [ho, resolve, invoke, builtin, Sem.run_bind, Sem.run_pure, Result.andThen_ok, List.map_toArray, List.map_cons, List.map_nil, hs, hx, h2]
  exact h A' cap' w' h3 h5 h4 h6
theorem wpList_append8 {w : World} {ops : Array Oper} {rest : List Oper} {o : Oper} {a : Act} {Q : Exit → Act → World → Prop} (hgd : o.guard = none) (s x : Operand)
    (ho : o.op = .call { callee := .builtin .append, args := #[s, x], argTypes := #[27, 27] })
    (base : Nat) (A : Option Addr) (cap n : Nat) (xs : List Value) (hs : a.eval s = .slice A n cap) (hown : w.ownsRow base 26 8 (.slice A n cap) n xs)
    (Ao : Option Addr) (m c : Nat) (news : List Value) (hx : a.eval x = .slice Ao m c) (hl : news.length = m * 8) (hpos : 0 < m → ∃ b off, Ao = some ⟨b, off, none⟩ ∧ ∀ j u, news[j]? = some u → w.cell? ⟨b, off + j, none⟩ = some u) (h1 : ∀ u ∈ news, u.oneCell' = true)
    (hsm : n + m ≤ 100000) (hbase : base ≤ w.heap.size)
    (h : ∀ A' cap' w', w'.ownsRow base 26 8 (.slice A' (n + m) cap') (n + m) (xs ++ news) → w.grownBy w' (A.map fun a => a.block) → Below base w w' → (A' = A ∨ A' = some ⟨w.heap.size, 0, none⟩) → wpList Try.prog ops Q rest (a.put o.dst (.slice A' (n + m) cap')) w') : wpList Try.prog ops Q (o :: rest) a w :=
  wpList_plain hgd fun _ hK => wp_append8 s x ho base A cap n xs hs hown Ao m c news hx hl hpos h1 hsm hbase fun A' cap' w' h2 h3 h4 h5 => hK _ _ (h A' cap' w' h2 h3 h4 h5)
theorem sgrow_any (n : Nat) (w : World) (hn : n ≤ 100000) :
    Calls Try.prog 74 #[.slice none 0 0, .int .i64 (n : Nat)] w fun e w' => ∃ A c, e = .returned (.slice A 0 c) ∧ w'.ownsRow w.heap.size 26 8 (.slice A 0 c) 0 [] ∧ Below w.heap.size w w' := by
  obtain ⟨i0, hi, hz0, hz1, hz2⟩ := info_parts info_sp
  by_cases h0 : n = 0
  · subst h0
    go_enter Try.func74, Try.ntmps74
    go_wp2
    go_ret
    exact ⟨none, 0, rfl, World.ownsRow_nil _ _ _ _, (by repeat (first | exact Below.refl _ _ | assumption | (refine below_drewN ?_ _) | (refine Below.drew ?_) | (refine Below.alloc ?_ (by first | omega | (simp; omega) | simp) _) | (refine Below.setCell ?_ (by first | omega | (simp; omega) | simp) _) | (refine below_trans ?_ (by assumption) (by first | omega | (simp; omega) | simp))))⟩
  · have hb96 : Try.t26.bytes = 96 := rfl
    obtain ⟨G, hG⟩ : ∃ G, G = grownCap w n 0 26 := ⟨_, rfl⟩
    have hGn : n ≤ G := by rw [hG]; exact grownCap_ge w _ _ _
    have hGm : G ≤ maxLen := by rw [hG]; exact grownCap_le_maxLen w n 0 26 (by unfold maxLen; omega)
    have hp2 : 0 < n := by omega
    have hfit : Builtin.nextslicecap n 0 * 96 ≤ 281474976710656 := growslice_fits (by omega) (by omega)
    have hb1 : ((n : Int) * (Try.t26.bytes : Int) ≤ 281474976710656) := by rw [hb96]; omega
    have hb2 : ¬ (281474976710656 < Builtin.nextslicecap n 0 * Try.t26.bytes) := by rw [hb96]; omega
    have hb3 : ¬ (281474976710656 < (n : Int) * (Try.t26.bytes : Int)) := by omega
    have HO : Hid (((w.alloc (.cells (Builtin.zeroCells #[.int .i64 0, .int .i64 0, .int .i64 0, .int .i64 0, .slice none 0 0, .int .i64 0, .slice none 0 0, .bool false] n ++ Builtin.zeroCells #[.int .i64 0, .int .i64 0, .int .i64 0, .int .i64 0, .slice none 0 0, .int .i64 0, .slice none 0 0, .bool false] (G - n)) 26)).drew).ownsRow w.heap.size 26 8 (.slice (some ⟨w.heap.size, 0, none⟩) 0 G) 0 []) := Lib.hid ⟨by simp, .inr ⟨w.heap.size, G, _, rfl, Nat.le_refl _, heap_alloc_new w _, Nat.zero_le _, hGm, by simp only [Array.size_append, size_zeroCells]; show n * 8 + (G - n) * 8 = _; omega, by simp⟩⟩
    rw [hG] at HO
    clear hG hGn hGm hb96 hfit
    go_enter Try.func74, Try.ntmps74
    go_wp2
    go_ret
    exact ⟨_, _, rfl, HO.out, (by repeat (first | exact Below.refl _ _ | assumption | (refine below_drewN ?_ _) | (refine Below.drew ?_) | (refine Below.alloc ?_ (by first | omega | (simp; omega) | simp) _) | (refine Below.setCell ?_ (by first | omega | (simp; omega) | simp) _) | (refine below_trans ?_ (by assumption) (by first | omega | (simp; omega) | simp))))⟩
end Go.Proofs.Ythphefoohkofbaa

/- slices.Concat of spans. -/
namespace Go.Proofs.Ythphefoohkofbaa
open Go.RowKit
set_option linter.unusedVariables false
set_option linter.unusedSimpArgs false

/-- the slice at P holds slices that hold the cells of ps -/
def PRow (w : World) (P : Option Addr) (ps : List (List Sv)) : Prop := 0 < ps.length → ∃ g, P = some ⟨g, 0, none⟩ ∧ g < w.heap.size ∧ ∀ i, i < ps.length → ∃ A c, w.cell? ⟨g, i, none⟩ = some (.slice A (ps.getD i []).length c) ∧ VRow w A (ps.getD i [])
theorem PRow.later {w w' : World} {P : Option Addr} {ps : List (List Sv)} (h : PRow w P ps) (hb : Below w.heap.size w w') : PRow w' P ps := fun hl => by
  obtain ⟨g, e, hg, hc⟩ := h hl
  refine ⟨g, e, Nat.lt_of_lt_of_le hg hb.size, fun i hi => ?_⟩
  obtain ⟨A, c, h1, h2⟩ := hc i hi
  exact ⟨A, c, ((bcell hb).1 _ _ hg).trans h1, h2.later hb⟩
theorem flatten_next (ps : List (List Sv)) (k : Nat) (hk : k < ps.length) : (ps.take (k + 1)).flatten = (ps.take k).flatten ++ ps.getD k [] := by
  rw [List.take_succ_eq_append_getElem hk, List.flatten_append, List.getD_eq_getElem?_getD, List.getElem?_eq_getElem hk]
  simp
theorem flatten_le (ps : List (List Sv)) (k : Nat) : (ps.take k).flatten.length ≤ ps.flatten.length := by
  have h : ps.flatten = (ps.take k).flatten ++ (ps.drop k).flatten := by rw [← List.flatten_append, List.take_append_drop]
  rw [h, List.length_append]
  omega
set_option maxHeartbeats 4000000 in
theorem sconcat_any {w : World} {P : Option Addr} {ps : List (List Sv)} (cp : Nat) (hP : PRow w P ps) (hn : ps.length ≤ 1000) (hf : ps.flatten.length ≤ 1000) (n : Nat) (hnn : ps.flatten.length = n) :
    Calls Try.prog 68 #[.slice P ps.length cp] w fun e w' => ∃ A c, e = .returned (.slice A n c) ∧ w'.ownsRow w.heap.size 26 8 (.slice A n c) n (flat8 ps.flatten) ∧ Below w.heap.size w w' := by
  have HNN := Lib.hid hnn
  clear hnn
  go_enter Try.func68, Try.ntmps68
  go_wp2_with fail
  go_loopw [3, 11] (fun ss ii wr => ∃ k : Nat, ii = .int .i64 (k : Nat) ∧ k ≤ ps.length ∧ ∃ m : Nat, Hid ((ps.take k).flatten.length = m) ∧ m ≤ 1000 ∧ ss = .int .i64 (m : Nat) ∧ w.heap.size ≤ wr.heap.size ∧ Below w.heap.size w wr) (fun _ ii _ => ps.length - (intOf ii).toNat)
  case atStart => exact ⟨0, rfl, Nat.zero_le _, 0, Lib.hid rfl, by omega, rfl, (by first | omega | (simp; omega) | simp), (by repeat (first | exact Below.refl _ _ | assumption | (refine below_drewN ?_ _) | (refine Below.drew ?_) | (refine Below.alloc ?_ (by first | omega | (simp; omega) | simp) _) | (refine Below.setCell ?_ (by first | omega | (simp; omega) | simp) _) | (refine below_trans ?_ (by assumption) (by first | omega | (simp; omega) | simp))))⟩
  case round =>
    obtain ⟨k, rfl, hk, m, hm, hm2, rfl, hsz, hb_wr⟩ := hrel
    have hsr := hb_wr.size
    by_cases hlt : k < ps.length
    · obtain ⟨g, hPe, hg, hc⟩ := (hP.later hb_wr) (by omega)
      obtain ⟨A, c, h1, h2⟩ := hc k hlt
      have hnx := flatten_next ps k hlt
      have hle := flatten_le ps (k + 1)
      rw [hnx, List.length_append, hm.out] at hle
      subst hPe
      have i1 : (k : Int) < (ps.length : Int) := by omega
      have i2 : (0 : Int) ≤ (k : Int) := by omega
      have HX : Hid ((ps.take (k + 1)).flatten.length = m + (ps.getD k []).length) := Lib.hid (by rw [hnx, List.length_append, hm.out])
      clear hc h2 hnx
      generalize (ps.getD k []).length = q at *
      have hd : decide (((m : Int) + (q : Int)) < 0) = false := by simp; omega
      go_wp2
      go_roundw
      case rel => exact ⟨k + 1, by go_num, by omega, m + q, HX, by omega, by go_num, (by first | omega | (simp; omega) | simp), (by repeat (first | exact Below.refl _ _ | assumption | (refine below_drewN ?_ _) | (refine Below.drew ?_) | (refine Below.alloc ?_ (by first | omega | (simp; omega) | simp) _) | (refine Below.setCell ?_ (by first | omega | (simp; omega) | simp) _) | (refine below_trans ?_ (by assumption) (by first | omega | (simp; omega) | simp))))⟩
      case measure => simp [intOf]; omega
    · obtain rfl : k = ps.length := by omega
      have hall : ps.flatten.length = m := by rw [← hm.out, List.take_length]
      have HALL := Lib.hid hall
      clear hall
      go_wp2_with fail
      go_at_call 74
      refine (sgrow_any m _ (by omega)).mono ?_
      rintro e w1 ⟨A1, c1, rfl, o1, hb_w1⟩
      have hs_w1 := hb_w1.size
      have b1 : Below w.heap.size w w1 := (by repeat (first | exact Below.refl _ _ | assumption | (refine below_drewN ?_ _) | (refine Below.drew ?_) | (refine Below.alloc ?_ (by first | omega | (simp; omega) | simp) _) | (refine Below.setCell ?_ (by first | omega | (simp; omega) | simp) _) | (refine below_trans ?_ (by assumption) (by first | omega | (simp; omega) | simp))))
      have o1' := owns_monoN (B' := w.heap.size) o1 hsz
      clear hm
      go_wp2_with fail
      clear hb_wr hsz hsr hlt hk hb_w1 o1
      generalize wr = wA at *
      go_loopw [6, 27] (fun c ii wr => ∃ k : Nat, ii = .int .i64 (k : Nat) ∧ k ≤ ps.length ∧ ∃ (m : Nat) (Ac : Option Addr) (capc : Nat), Hid ((ps.take k).flatten.length = m) ∧ c = .slice Ac m capc ∧ wr.ownsRow w.heap.size 26 8 (.slice Ac m capc) m (flat8 (ps.take k).flatten) ∧ w.heap.size ≤ wr.heap.size ∧ Below w.heap.size w wr) (fun _ ii _ => ps.length - (intOf ii).toNat)
      case atStart => exact ⟨0, rfl, Nat.zero_le _, 0, A1, c1, Lib.hid rfl, rfl, by simp only [List.take_zero, List.flatten_nil]; exact o1', b1.size, b1⟩
      case round =>
        clear o1' b1 hs_w1
        obtain ⟨k, rfl, hk, m, Ac, capc, hm, rfl, oC, hsz, hb_wr⟩ := hrel
        have hsr := hb_wr.size
        by_cases hlt : k < ps.length
        · obtain ⟨g, hPe, hg, hc⟩ := (hP.later hb_wr) (by omega)
          obtain ⟨A, c, h1, h2⟩ := hc k hlt
          have hnx := flatten_next ps k hlt
          have hle := flatten_le ps (k + 1)
          rw [hnx, List.length_append, hm.out] at hle
          subst hPe
          have i1 : (k : Int) < (ps.length : Int) := by omega
          have i2 : (0 : Int) ≤ (k : Int) := by omega
          have HX : Hid ((ps.take (k + 1)).flatten.length = m + (ps.getD k []).length) := Lib.hid (by rw [hnx, List.length_append, hm.out])
          have HY : Hid (flat8 (ps.take (k + 1)).flatten = flat8 (ps.take k).flatten ++ flat8 (ps.getD k [])) := Lib.hid (by rw [hnx, flat8_app])
          have hlen := flat8_len (ps.getD k [])
          have hone := flat8_one (ps.getD k [])
          unfold VRow at h2
          have h2 : 0 < (ps.getD k []).length → ∃ b off, A = some ⟨b, off, none⟩ ∧ ∀ j u, (flat8 (ps.getD k []))[j]? = some u → wr.cell? ⟨b, off + j, none⟩ = some u := fun hq => by
            obtain ⟨b, off, e, _, hc⟩ := h2 hq
            exact ⟨b, off, e, hc⟩
          clear hc hnx
          generalize flat8 (ps.getD k []) = news at *
          generalize flat8 (ps.take k).flatten = xs at *
          generalize (ps.getD k []).length = q at *
          go_wp2_with (at_builtin; refine wpList_append8 ?_ (.tmp 31) (.tmp 32) ?_ w.heap.size Ac capc m xs ?_ oC A q c news ?_ hlen h2 hone (by omega) hsz ?_; rfl; rfl; rfl; rfl; intro A7 cap7 w7 hown7 hg7 hb_w7 hat7; have hs7 := hb_w7.size)
          go_roundw
          case rel => exact ⟨k + 1, by go_num, by omega, m + q, A7, cap7, HX, rfl, by rw [HY.out]; exact hown7, Nat.le_trans hsz hg7.size, hb_wr.trans hb_w7⟩
          case measure => simp [intOf]; omega
        · obtain rfl : k = ps.length := by omega
          rw [List.take_length] at oC hm
          have hh : m = n := hm.out.symm.trans HNN.out
          subst hh
          go_wp2
          go_ret
          exact ⟨Ac, capc, rfl, oC, hb_wr⟩
end Go.Proofs.Ythphefoohkofbaa

/- Contract of copies of spans. -/
namespace Go.Proofs.Ythphefoohkofbaa
open Go.RowKit
set_option linter.unusedVariables false
set_option linter.unusedSimpArgs false

/-- spans of a call's own, with words of their own -/
structure OwnsS (w : World) (B : Nat) (A : Option Addr) (n cap : Nat) (vs : List Sv) : Prop where
  len : vs.length = n
  row_ : w.ownsRow B 26 8 (.slice A n cap) n (flat8 vs)
  words : ∀ v ∈ vs, Own w B v.A v.d.aw ∧ Own w B v.M v.d.mw
  apart : ∀ v ∈ vs, ∀ g, A = some ⟨g, 0, none⟩ → v.A ≠ some ⟨g, 0, none⟩ ∧ v.M ≠ some ⟨g, 0, none⟩
def sdsOf (vs : List Sv) : List Sd := vs.map fun v => v.d
theorem nth_sds (vs : List Sv) (i : Nat) (hi : i < vs.length) : nth (sdsOf vs) i = vs[i].d := by
  unfold nth sdsOf
  rw [List.getD_eq_getElem?_getD, List.getElem?_map, List.getElem?_eq_getElem hi]
  rfl
theorem flat8_cell {w : World} {B n cap g : Nat} {vs : List Sv} (h : w.ownsRow B 26 8 (.slice (some ⟨g, 0, none⟩) n cap) n (flat8 vs)) (hn : vs.length = n) (i : Nat) (hi : i < n) (j : Nat) (hj : j < 8) (u : Value) (hu : (cells8 (vs[i]'(by omega)))[j]? = some u) : w.cell? ⟨g, i * 8 + j, none⟩ = some u := by
  rw [h.cellAt (i * 8 + j) (by omega), flat8_at vs i j hj, List.getElem?_eq_getElem (by omega)]
  exact hu
theorem sp8_of_owns {w : World} {B n cap g : Nat} {vs : List Sv} (h : w.ownsRow B 26 8 (.slice (some ⟨g, 0, none⟩) n cap) n (flat8 vs)) (hn : vs.length = n) (i : Nat) (hi : i < n) : Sp8 w g (0 + i * 8) (vs[i]'(by omega)).d (vs[i]'(by omega)).A (vs[i]'(by omega)).ca (vs[i]'(by omega)).M (vs[i]'(by omega)).cm := by
  rw [Nat.zero_add]
  exact ⟨by have := flat8_cell h hn i hi 0 (by omega) _ rfl; rwa [Nat.add_zero] at this, flat8_cell h hn i hi 1 (by omega) _ rfl, flat8_cell h hn i hi 2 (by omega) _ rfl, flat8_cell h hn i hi 3 (by omega) _ rfl, flat8_cell h hn i hi 4 (by omega) _ rfl, flat8_cell h hn i hi 5 (by omega) _ rfl, flat8_cell h hn i hi 6 (by omega) _ rfl, flat8_cell h hn i hi 7 (by omega) _ rfl⟩
theorem OwnsS.srow {w : World} {B n cap : Nat} {A : Option Addr} {vs : List Sv} (h : OwnsS w B A n cap vs) : SRow w w.heap.size A (sdsOf vs) :=
  ⟨fun hl => by
    have hn : 0 < n := by rw [← h.len]; simpa [sdsOf] using hl
    obtain ⟨_, ⟨h1, h2⟩ | ⟨g, cap', cur, e, _⟩⟩ := id h.row_
    · omega
    · injection e with e1 _ e3
      subst e1
      have hr := h.row_
      refine ⟨g, 0, rfl, (hr.lt g rfl).2, fun i hi => ?_⟩
      have hi' : i < vs.length := by simpa [sdsOf] using hi
      have hw := h.words vs[i] (List.getElem_mem hi')
      rw [nth_sds vs i hi']
      exact ⟨vs[i].A, vs[i].ca, vs[i].M, vs[i].cm, sp8_of_owns hr h.len i (by rw [← h.len]; exact hi'), hw.1.row, hw.2.row⟩⟩
theorem OwnsS.later {w w' : World} {B n cap : Nat} {A : Option Addr} {vs : List Sv} (h : OwnsS w B A n cap vs) (hb : Below w.heap.size w w') : OwnsS w' B A n cap vs :=
  ⟨h.len, owns_laterN h.row_ hb, fun v hv => ⟨(h.words v hv).1.later hb, (h.words v hv).2.later hb⟩, h.apart⟩
theorem OwnsS.mono {w : World} {B B' n cap : Nat} {A : Option Addr} {vs : List Sv} (h : OwnsS w B A n cap vs) (hB : B' ≤ B) : OwnsS w B' A n cap vs :=
  ⟨h.len, owns_monoN h.row_ hB, fun v hv => ⟨(h.words v hv).1.mono hB, (h.words v hv).2.mono hB⟩, h.apart⟩
theorem OwnsS.nil (w : World) (B : Nat) : OwnsS w B none 0 0 [] := ⟨rfl, World.ownsRow_nil _ _ _ _, fun v hv => (by cases hv), fun v hv => (by cases hv)⟩
theorem own_ne {w : World} {g : Nat} {A : Option Addr} {ws : List Nat} (h : Own w (g + 1) A ws) (hl : 0 < ws.length) : A ≠ some ⟨g, 0, none⟩ := by
  obtain ⟨q, e, h1, _⟩ := h.at_ hl
  rw [e]
  intro e2
  injection e2 with e2
  injection e2 with e2
  omega
theorem wclone1 {w : World} {A : Option Addr} {c x : Nat} (hr : Row w w.heap.size A [x]) : Calls Try.prog 69 #[.slice A 1 c] w fun e w' => ∃ A' c', e = .returned (.slice A' 1 c') ∧ OwnsN w' w.heap.size A' 1 c' [x] ∧ Below w.heap.size w w' := by
  obtain ⟨b, off, rfl, _⟩ := hr.at_ (by simp)
  exact wclone_any (t := [x]) c hr (by simp) (fun e => (by cases e))
theorem len_one {l : List Nat} (h : l.length = 1) : ∃ x, l = [x] := by
  match l, h with
  | [x], _ => exact ⟨x, rfl⟩
theorem getElem_set8 (vs : List Sv) (k j : Nat) (v : Sv) (hj : j < (vs.set k v).length) : (vs.set k v)[j] = if k = j then v else vs[j]'(by simpa using hj) := List.getElem_set hj
/-- what copies holds at step k -/
structure CopK (w : World) (B g n c : Nat) (vs0 vs : List Sv) (k : Nat) : Prop where
  len : vs.length = n
  same : sdsOf vs = sdsOf vs0
  rest : ∀ j (hj : j < vs.length), k ≤ j → vs0[j]? = some vs[j]
  row_ : w.ownsRow B 26 8 (.slice (some ⟨g, 0, none⟩) n c) n (flat8 vs)
  words : ∀ j (hj : j < vs.length), j < k → Own w (g + 1) vs[j].A vs[j].d.aw ∧ Own w (g + 1) vs[j].M vs[j].d.mw
theorem CopK.next {w6 : World} {B g n c k : Nat} {vs0 vs : List Sv} (len : vs.length = n) (same : sdsOf vs = sdsOf vs0) (rest : ∀ j (hj : j < vs.length), k ≤ j → vs0[j]? = some vs[j]) (hk : k < n) (v : Sv) (hd : v.d = (vs[k]'(by omega)).d)
    (row_ : w6.ownsRow B 26 8 (.slice (some ⟨g, 0, none⟩) n c) n (flat8 (vs.set k v))) (words : ∀ j (hj : j < vs.length), j < k → Own w6 (g + 1) vs[j].A vs[j].d.aw ∧ Own w6 (g + 1) vs[j].M vs[j].d.mw) (h1 : Own w6 (g + 1) v.A v.d.aw) (h2 : Own w6 (g + 1) v.M v.d.mw) : CopK w6 B g n c vs0 (vs.set k v) (k + 1) := by
  refine ⟨by rw [List.length_set]; exact len, ?_, fun j hj hkj => ?_, row_, fun j hj hjk => ?_⟩
  · rw [← same]
    unfold sdsOf
    rw [List.map_set, hd]
    apply List.ext_getElem (by simp)
    intro i h3 h4
    rw [List.getElem_set]
    split
    · rename_i e; subst e; simp
    · rfl
  · rw [getElem_set8, if_neg (by omega)]
    exact rest j (by simpa using hj) (by omega)
  · rw [getElem_set8]
    by_cases e : k = j
    · rw [if_pos e]
      exact ⟨h1, h2⟩
    · rw [if_neg e]
      exact words j (by simpa using hj) (by omega)
theorem CopK.end_ {w : World} {B g n c : Nat} {vs0 vs : List Sv} (h : CopK w B g n c vs0 vs n) (hB : B ≤ g) (h1 : ∀ v ∈ vs0, v.d.aw.length = 1 ∧ v.d.mw.length = 1) : OwnsS w B (some ⟨g, 0, none⟩) n c vs := by
  have hw : ∀ v ∈ vs, Own w (g + 1) v.A v.d.aw ∧ Own w (g + 1) v.M v.d.mw := fun v hv => by
    obtain ⟨j, hj, rfl⟩ := List.getElem_of_mem hv
    exact h.words j hj (by rw [← h.len]; exact hj)
  have hl : ∀ v ∈ vs, v.d.aw.length = 1 ∧ v.d.mw.length = 1 := fun v hv => by
    have : v.d ∈ sdsOf vs := List.mem_map.2 ⟨v, hv, rfl⟩
    rw [h.same] at this
    obtain ⟨u, hu, e⟩ := List.mem_map.1 this
    have := h1 u hu
    have e : u.d = v.d := e
    rwa [e] at this
  refine ⟨h.len, h.row_, fun v hv => ⟨(hw v hv).1.mono (by omega), (hw v hv).2.mono (by omega)⟩, fun v hv g' e => ?_⟩
  injection e with e
  injection e with e
  subst e
  exact ⟨own_ne (hw v hv).1 (by rw [(hl v hv).1]; omega), own_ne (hw v hv).2 (by rw [(hl v hv).2]; omega)⟩
set_option maxHeartbeats 8000000 in
theorem scopies_any {w : World} {P : Option Addr} {ps : List (List Sv)} (cp : Nat) (hP : PRow w P ps) (hn : ps.length ≤ 1000) (hf : ps.flatten.length ≤ 1000)
    (hw : ∀ v ∈ ps.flatten, Row w w.heap.size v.A v.d.aw ∧ Row w w.heap.size v.M v.d.mw ∧ v.d.aw.length = 1 ∧ v.d.mw.length = 1) (n : Nat) (hnn : ps.flatten.length = n) (np : Nat) (hnp : ps.length = np) :
    Calls Try.prog 57 #[.slice P np cp] w fun e w' => ∃ A c vs, e = .returned (.slice A n c) ∧ sdsOf vs = sdsOf ps.flatten ∧ OwnsS w' w.heap.size A n c vs ∧ Below w.heap.size w w' := by
  subst hnp
  have HC := Lib.hid fun (w : World) hP => sconcat_any (w := w) (P := P) (ps := ps) cp hP hn hf n hnn
  have HW := Lib.hid hw
  have HN := Lib.hid hnn
  have hn1 : n ≤ 1000 := by omega
  generalize ps.flatten = vs0 at *
  clear hw hnn hf
  go_enter Try.func57, Try.ntmps57
  go_wp2_with fail
  go_at_call 68
  refine (HC.out _ (hP.later (by repeat (first | exact Below.refl _ _ | assumption | (refine below_drewN ?_ _) | (refine Below.drew ?_) | (refine Below.alloc ?_ (by first | omega | (simp; omega) | simp) _) | (refine Below.setCell ?_ (by first | omega | (simp; omega) | simp) _) | (refine below_trans ?_ (by assumption) (by first | omega | (simp; omega) | simp)))))).mono ?_
  rintro e w1 ⟨A1, c1, rfl, o1, hb_w1⟩
  obtain ⟨hc_w1, hf_w1⟩ := bcell hb_w1; have hs_w1 := hb_w1.size; (try simp only [World.size_alloc, World.size_setCell, World.size_drew, World.heap_drewN] at hs_w1)
  have b1 : Below w.heap.size w w1 := (by repeat (first | exact Below.refl _ _ | assumption | (refine below_drewN ?_ _) | (refine Below.drew ?_) | (refine Below.alloc ?_ (by first | omega | (simp; omega) | simp) _) | (refine Below.setCell ?_ (by first | omega | (simp; omega) | simp) _) | (refine below_trans ?_ (by assumption) (by first | omega | (simp; omega) | simp))))
  clear hc_w1 hf_w1
  by_cases h0 : n = 0
  · subst h0
    have hv : vs0 = [] := List.eq_nil_of_length_eq_zero HN.out
    subst hv
    go_wp2_with fail
    go_loopw [9] (fun ii wr => ii = .int .i64 0 ∧ Below w.heap.size w wr ∧ OwnsS wr w.heap.size A1 0 c1 []) (fun ii _ => 0 - (intOf ii).toNat)
    case atStart => exact ⟨rfl, b1, ⟨rfl, o1, fun v hv => (by cases hv), fun v hv => (by cases hv)⟩⟩
    case round =>
      obtain ⟨rfl, hb_wr, hO⟩ := hrel
      go_wp2
      go_ret
      exact ⟨A1, c1, [], rfl, rfl, hO, hb_wr⟩
  · obtain ⟨_, ⟨h1, h2⟩ | ⟨g, cap', cur, e, hgB, _⟩⟩ := id o1
    · exact absurd h2 h0
    · injection e with e1 _ e3
      subst e1 e3
      have hgl : g < w1.heap.size := (o1.lt g rfl).2
      have HB0 := Lib.hid hgB
      go_wp2_with fail
      go_loopw [9] (fun ii wr => ∃ k : Nat, ii = .int .i64 (k : Nat) ∧ k ≤ n ∧ ∃ vs : List Sv, CopK wr w.heap.size g n c1 vs0 vs k ∧ g < wr.heap.size ∧ w.heap.size ≤ wr.heap.size ∧ Below w.heap.size w wr) (fun ii _ => n - (intOf ii).toNat)
      case atStart => exact ⟨0, rfl, Nat.zero_le _, vs0, ⟨HN.out, rfl, fun j hj _ => List.getElem?_eq_getElem hj, o1, fun j hj hj0 => by omega⟩, hgl, b1.size, b1⟩
      case round =>
        clear o1 b1 hgl
        obtain ⟨k, rfl, hk, vs, hK, hgl, hsz, hb_wr⟩ := hrel
        have hsr := hb_wr.size
        by_cases hlt : k < n
        · have hkl : k < vs.length := by rw [hK.len]; exact hlt
          have hrest := hK.rest k hkl (Nat.le_refl _)
          have hmem : vs[k] ∈ vs0 := List.mem_of_getElem? hrest
          obtain ⟨ra, rm, la, lm⟩ := HW.out _ hmem
          have c8 := sp8_of_owns hK.row_ hK.len k hlt
          obtain ⟨xa, hxa⟩ := len_one la
          obtain ⟨xm, hxm⟩ := len_one lm
          have q4 := c8.c4
          have q6 := c8.c6
          rw [la, Nat.zero_add] at q4
          rw [lm, Nat.zero_add] at q6
          rw [hxa] at ra
          rw [hxm] at rm
          have fz := fun i => hK.row_.frozenAt i
          have f4 := fz (k * 8 + 4)
          have f6 := fz (k * 8 + 6)
          have HK := Lib.hid hK
          have HV : ∃ v, Hid (vs[k] = v) := ⟨_, rfl⟩
          obtain ⟨v, HV⟩ := HV
          rw [HV.out] at ra rm q4 q6 hxa hxm
          have HXA := Lib.hid hxa
          have HXM := Lib.hid hxm
          have ra := ra.later hb_wr
          clear hK fz c8 hmem hrest la lm hxa hxm
          obtain ⟨d, A, ca, M, cm⟩ := v
          simp only at *
          have i1 : (k : Int) < (n : Int) := by omega
          have i2 : (0 : Int) ≤ (k : Int) := by omega
          go_wp2_with fail
          go_at_call 69
          refine (wclone1 ra).mono ?_
          rintro e w5 ⟨A5, c5, rfl, o5, hb_w5⟩
          have hs5 := hb_w5.size
          have p4 : w5.cell? ⟨g, k * 8 + 4, none⟩ = some (.slice A 1 ca) := (hb_w5.cell (p := ⟨g, k * 8 + 4, none⟩) hgl).trans q4
          have g4 : w5.frozen? ⟨g, k * 8 + 4, none⟩ = false := ((bcell hb_w5).2 _ _ hgl).trans f4
          have p6 : w5.cell? ⟨g, k * 8 + 6, none⟩ = some (.slice M 1 cm) := (hb_w5.cell (p := ⟨g, k * 8 + 6, none⟩) hgl).trans q6
          have g6 : w5.frozen? ⟨g, k * 8 + 6, none⟩ = false := ((bcell hb_w5).2 _ _ hgl).trans f6
          have b5 : Below w.heap.size w w5 := hb_wr.trans (hb_w5.mono hsz)
          have ro5 := ((owns_laterN HK.out.row_ hb_w5).stored (k * 8 + 4) (.slice A5 1 c5)).1
          have wo5 : ∀ j (hj : j < vs.length), j < k → Own (w5.setCell ⟨g, k * 8 + 4, none⟩ (.slice A5 1 c5)) (g + 1) vs[j].A vs[j].d.aw ∧ Own (w5.setCell ⟨g, k * 8 + 4, none⟩ (.slice A5 1 c5)) (g + 1) vs[j].M vs[j].d.mw := fun j hj hjk =>
            ⟨((HK.out.words j hj hjk).1.later hb_w5).far (.inl (Nat.lt_succ_self g)) _, ((HK.out.words j hj hjk).2.later hb_w5).far (.inl (Nat.lt_succ_self g)) _⟩
          have o5' : Own (w5.setCell ⟨g, k * 8 + 4, none⟩ (.slice A5 1 c5)) (g + 1) A5 [xa] := (o5.own.mono (by omega)).far (.inl (Nat.lt_succ_self g)) _
          have b6 : Below w.heap.size w (w5.setCell ⟨g, k * 8 + 4, none⟩ (.slice A5 1 c5)) := b5.setCell (p := ⟨g, k * 8 + 4, none⟩) HB0.out _
          have rm6 := rm.later b6
          have p6' : (w5.setCell ⟨g, k * 8 + 4, none⟩ (.slice A5 1 c5)).cell? ⟨g, k * 8 + 6, none⟩ = some (.slice M 1 cm) := (World.cell?_setCell_other _ _ _ _ (by intro e; injection e; omega)).trans p6
          have g6' : (w5.setCell ⟨g, k * 8 + 4, none⟩ (.slice A5 1 c5)).frozen? ⟨g, k * 8 + 6, none⟩ = false := by rw [World.frozen?_setCell]; exact g6
          have hg5 : g < (w5.setCell ⟨g, k * 8 + 4, none⟩ (.slice A5 1 c5)).heap.size := by rw [World.size_setCell]; omega
          have hz5 : w.heap.size ≤ (w5.setCell ⟨g, k * 8 + 4, none⟩ (.slice A5 1 c5)).heap.size := by rw [World.size_setCell]; omega
          clear q4 q6 f4 f6 ra rm o5 p6 g6 b5 hb_wr
          go_wp2_with fail
          generalize w5.setCell ⟨g, k * 8 + 4, none⟩ (.slice A5 1 c5) = wS at *
          go_at_call 69
          refine (wclone1 rm6).mono ?_
          rintro e w7 ⟨A7, c7, rfl, o7, hb_w7⟩
          have hs7 := hb_w7.size
          have p7 : w7.cell? ⟨g, k * 8 + 6, none⟩ = some (.slice M 1 cm) := (hb_w7.cell (p := ⟨g, k * 8 + 6, none⟩) hg5).trans p6'
          have g7 : w7.frozen? ⟨g, k * 8 + 6, none⟩ = false := ((bcell hb_w7).2 _ _ hg5).trans g6'
          have b7 : Below w.heap.size w w7 := b6.trans (hb_w7.mono hz5)
          have ro7 := ((owns_laterN ro5 hb_w7).stored (k * 8 + 6) (.slice A7 1 c7)).1
          have hset : ((flat8 vs).set (k * 8 + 4) (.slice A5 1 c5)).set (k * 8 + 6) (.slice A7 1 c7) = flat8 (vs.set k ⟨d, A5, c5, A7, c7⟩) := by
            have e1 := flat8_set vs k 4 ⟨d, A5, c5, M, cm⟩ (.slice A5 1 c5) hkl (by omega) (by rw [HV.out]; simp [cells8, HXA.out])
            have e2 := flat8_set (vs.set k ⟨d, A5, c5, M, cm⟩) k 6 ⟨d, A5, c5, A7, c7⟩ (.slice A7 1 c7) (by rw [List.length_set]; exact hkl) (by omega) (by rw [List.getElem_set_self]; simp [cells8, HXM.out])
            rw [e1, e2, List.set_set]
          rw [hset] at ro7
          have HNX : Hid (CopK (w7.setCell ⟨g, k * 8 + 6, none⟩ (.slice A7 1 c7)) w.heap.size g n c1 vs0 (vs.set k ⟨d, A5, c5, A7, c7⟩) (k + 1)) := Lib.hid (CopK.next HK.out.len HK.out.same HK.out.rest hlt ⟨d, A5, c5, A7, c7⟩ (by rw [HV.out]) ro7
            (fun j hj hjk => ⟨((wo5 j hj hjk).1.later hb_w7).far (.inl (Nat.lt_succ_self g)) _, ((wo5 j hj hjk).2.later hb_w7).far (.inl (Nat.lt_succ_self g)) _⟩)
            (by show Own _ _ A5 d.aw; rw [HXA.out]; exact (o5'.later hb_w7).far (.inl (Nat.lt_succ_self g)) _) (by show Own _ _ A7 d.mw; rw [HXM.out]; exact (o7.own.mono (by omega)).far (.inl (Nat.lt_succ_self g)) _))
          have b8 : Below w.heap.size w (w7.setCell ⟨g, k * 8 + 6, none⟩ (.slice A7 1 c7)) := b7.setCell (p := ⟨g, k * 8 + 6, none⟩) HB0.out _
          clear wo5 o5' ro5 ro7 hset o7 b6 b7 HK p6' g6'
          go_wp2
          go_roundw
          case rel => exact ⟨k + 1, by go_num, by omega, _, HNX.out, by rw [World.size_setCell]; omega, by rw [World.size_setCell]; omega, b8⟩
          case measure => simp [intOf]; omega
        · obtain rfl : k = n := by omega
          have HE := Lib.hid (hK.end_ HB0.out (fun v hv => ⟨(HW.out v hv).2.2.1, (HW.out v hv).2.2.2⟩))
          have HS := Lib.hid hK.same
          clear hK
          go_wp2
          go_ret
          exact ⟨_, c1, vs, rfl, HS.out, HE.out, hb_wr⟩
end Go.Proofs.Ythphefoohkofbaa

/- Spans as values; contract of Drop. -/
namespace Go.Proofs.Ythphefoohkofbaa
open Go.RowKit
set_option linter.unusedVariables false
set_option linter.unusedSimpArgs false

instance : Inhabited Sv := ⟨⟨sd0, none, 0, none, 0⟩⟩
def RowsV (w : World) (vs : List Sv) : Prop := ∀ v ∈ vs, Row w w.heap.size v.A v.d.aw ∧ Row w w.heap.size v.M v.d.mw
theorem RowsV.later {w w' : World} {vs : List Sv} (h : RowsV w vs) (hb : Below w.heap.size w w') : RowsV w' vs := fun v hv => ⟨(h v hv).1.later hb, (h v hv).2.later hb⟩
theorem vrow_of {w : World} {b off : Nat} {vs : List Sv} (hb : b < w.heap.size) (h : ∀ i (hi : i < vs.length), Sp8 w b (off + i * 8) vs[i].d vs[i].A vs[i].ca vs[i].M vs[i].cm) : VRow w (some ⟨b, off, none⟩) vs := fun _ => by
  refine ⟨b, off, rfl, hb, fun j u hj => ?_⟩
  have hjl : j < vs.length * 8 := by
    have := (List.getElem?_eq_some_iff.1 hj).1
    rwa [flat8_len] at this
  have hi : j / 8 < vs.length := by omega
  have e := flat8_at vs (j / 8) (j % 8) (Nat.mod_lt _ (by omega))
  rw [show j / 8 * 8 + j % 8 = j by omega, hj, List.getElem?_eq_getElem hi, Option.bind_some] at e
  obtain ⟨c0, c1, c2, c3, c4, c5, c6, c7⟩ := h (j / 8) hi
  have hm : j % 8 = 0 ∨ j % 8 = 1 ∨ j % 8 = 2 ∨ j % 8 = 3 ∨ j % 8 = 4 ∨ j % 8 = 5 ∨ j % 8 = 6 ∨ j % 8 = 7 := by omega
  have hoj : ∀ k, j % 8 = k → off + j / 8 * 8 + k = off + j := fun k hk => by omega
  rcases hm with hm | hm | hm | hm | hm | hm | hm | hm
  all_goals
    have ho := hoj _ hm
    rw [hm] at e
    simp only [cells8, List.getElem?_cons_zero, List.getElem?_cons_succ] at e
    injection e with e
    subst e
    first
      | (rw [Nat.add_zero] at ho; rw [← ho]; exact c0)
      | (rw [← ho]; first | exact c1 | exact c2 | exact c3 | exact c4 | exact c5 | exact c6 | exact c7)
theorem SRow.vals {w : World} {A : Option Addr} {l : List Sd} (h : SRow w w.heap.size A l) : ∃ vs, sdsOf vs = l ∧ VRow w A vs ∧ RowsV w vs := by
  by_cases h0 : 0 < l.length
  · obtain ⟨b, off, rfl, hb, hc⟩ := h.at_ h0
    have each : ∀ i, i < l.length → ∃ v : Sv, v.d = nth l i ∧ Sp8 w b (off + i * 8) v.d v.A v.ca v.M v.cm ∧ Row w w.heap.size v.A v.d.aw ∧ Row w w.heap.size v.M v.d.mw := fun i hi => by
      obtain ⟨Aa, ca, Am, cm, h1, h2, h3⟩ := hc i hi
      exact ⟨⟨nth l i, Aa, ca, Am, cm⟩, rfl, h1, h2, h3⟩
    obtain ⟨f, hf⟩ := Go.Deep.choose_lt each
    refine ⟨(List.range l.length).map f, ?_, vrow_of hb (fun i hi => ?_), fun v hv => ?_⟩
    · unfold sdsOf
      apply List.ext_getElem (by simp)
      intro i h1 h2
      simp only [List.getElem_map, List.getElem_range]
      rw [(hf i h2).1]
      unfold nth
      rw [List.getD_eq_getElem?_getD, List.getElem?_eq_getElem h2]
      rfl
    · simp only [List.getElem_map, List.getElem_range]
      exact (hf i (by simpa using hi)).2.1
    · obtain ⟨i, hi, rfl⟩ := List.mem_map.1 hv
      obtain ⟨_, _, h2, h3⟩ := hf i (by simpa using hi)
      exact ⟨h2, h3⟩
  · obtain rfl : l = [] := List.eq_nil_of_length_eq_zero (by omega)
    exact ⟨[], rfl, fun h => by simp at h, fun v hv => (by cases hv)⟩
theorem sds_len {vs : List Sv} {l : List Sd} (h : sdsOf vs = l) : vs.length = l.length := by rw [← h]; simp [sdsOf]
theorem VRow.take {w : World} {A : Option Addr} {vs : List Sv} (h : VRow w A vs) (k : Nat) : VRow w A (vs.take k) := fun hl => by
  rw [List.length_take] at hl
  obtain ⟨b, off, e, hb, hc⟩ := h (by omega)
  refine ⟨b, off, e, hb, fun j u hj => hc j u ?_⟩
  have hk : vs = vs.take k ++ vs.drop k := (List.take_append_drop k vs).symm
  rw [hk, flat8_app, List.getElem?_append_left (List.getElem?_eq_some_iff.1 hj).1]
  exact hj
theorem VRow.drop {w : World} {b off : Nat} {vs : List Sv} (h : VRow w (some ⟨b, off, none⟩) vs) (k : Nat) : VRow w (some ⟨b, off + k * 8, none⟩) (vs.drop k) := fun hl => by
  rw [List.length_drop] at hl
  obtain ⟨b', off', e, hb, hc⟩ := h (by omega)
  injection e with e
  injection e with e1 e2
  subst e1 e2
  refine ⟨b, off + k * 8, rfl, hb, fun j u hj => ?_⟩
  rw [Nat.add_assoc]
  refine hc (k * 8 + j) u ?_
  have hk : vs = vs.take k ++ vs.drop k := (List.take_append_drop k vs).symm
  have hl2 : (flat8 (vs.take k)).length = k * 8 := by rw [flat8_len, List.length_take]; omega
  rw [hk, flat8_app, List.getElem?_append_right (by omega), hl2, show k * 8 + j - k * 8 = j by omega]
  exact hj
theorem prow1 {w : World} {A : Option Addr} {vs : List Sv} {n c : Nat} {t : TypeId} (g : Nat) (hg : w.heap.size = g) (h : VRow w A vs) (hn : vs.length = n) : PRow (w.alloc (.cells #[.slice A n c] t)) (some ⟨g, 0, none⟩) [vs] := fun _ => by
  subst hg hn
  refine ⟨w.heap.size, rfl, by simp, fun i hi => ?_⟩
  have : i = 0 := by simp at hi; omega
  subst this
  exact ⟨A, c, by simp [go_sem], h.later ((Below.refl _ _).alloc (Nat.le_refl _) _)⟩
theorem prow2 {w : World} {A1 A2 : Option Addr} {v1 v2 : List Sv} {n1 n2 c1 c2 : Nat} {t : TypeId} (g : Nat) (hg : w.heap.size = g) (h1 : VRow w A1 v1) (h2 : VRow w A2 v2) (e1 : v1.length = n1) (e2 : v2.length = n2) : PRow (w.alloc (.cells #[.slice A1 n1 c1, .slice A2 n2 c2] t)) (some ⟨g, 0, none⟩) [v1, v2] := fun _ => by
  subst hg e1 e2
  refine ⟨w.heap.size, rfl, by simp, fun i hi => ?_⟩
  have : i = 0 ∨ i = 1 := by simp at hi; omega
  have hb : Below w.heap.size w (w.alloc (.cells #[.slice A1 v1.length c1, .slice A2 v2.length c2] t)) := (Below.refl _ _).alloc (Nat.le_refl _) _
  rcases this with rfl | rfl
  · exact ⟨A1, c1, by simp [go_sem], h1.later hb⟩
  · exact ⟨A2, c2, by simp [go_sem], h2.later hb⟩
theorem prow3 {w : World} {A1 A2 A3 : Option Addr} {v1 v2 v3 : List Sv} {n1 n2 n3 c1 c2 c3 : Nat} {t : TypeId} (g : Nat) (hg : w.heap.size = g) (h1 : VRow w A1 v1) (h2 : VRow w A2 v2) (h3 : VRow w A3 v3) (e1 : v1.length = n1) (e2 : v2.length = n2) (e3 : v3.length = n3) : PRow (w.alloc (.cells #[.slice A1 n1 c1, .slice A2 n2 c2, .slice A3 n3 c3] t)) (some ⟨g, 0, none⟩) [v1, v2, v3] := fun _ => by
  subst hg e1 e2 e3
  refine ⟨w.heap.size, rfl, by simp, fun i hi => ?_⟩
  have : i = 0 ∨ i = 1 ∨ i = 2 := by simp at hi; omega
  have hb : Below w.heap.size w (w.alloc (.cells #[.slice A1 v1.length c1, .slice A2 v2.length c2, .slice A3 v3.length c3] t)) := (Below.refl _ _).alloc (Nat.le_refl _) _
  rcases this with rfl | rfl | rfl
  · exact ⟨A1, c1, by simp [go_sem], h1.later hb⟩
  · exact ⟨A2, c2, by simp [go_sem], h2.later hb⟩
  · exact ⟨A3, c3, by simp [go_sem], h3.later hb⟩
theorem OkL.words {l : List Sd} (h : OkL l) : ∀ d ∈ l, d.aw.length = 1 ∧ d.mw.length = 1 := fun d hd => by
  obtain ⟨i, hi, rfl⟩ := List.getElem_of_mem hd
  have := h.2.1 i hi
  unfold nth at this
  rw [List.getD_eq_getElem?_getD, List.getElem?_eq_getElem hi] at this
  exact ⟨this.aw, this.mw⟩
theorem sds_app (a b : List Sv) : sdsOf (a ++ b) = sdsOf a ++ sdsOf b := by simp [sdsOf]
theorem sds_take (a : List Sv) (k : Nat) : sdsOf (a.take k) = (sdsOf a).take k := by simp [sdsOf, List.map_take]
theorem sds_drop (a : List Sv) (k : Nat) : sdsOf (a.drop k) = (sdsOf a).drop k := by simp [sdsOf, List.map_drop]
/-- spans of a call's own, as they are told -/
def FreshL5 (w : World) (r : List Sd) (y : Int) (e : Ending) (w' : World) : Prop :=
  ∃ A c vs, e = .returned (.tuple #[.slice A r.length c, .int .i64 y]) ∧ sdsOf vs = r ∧ OwnsS w' w.heap.size A r.length c vs ∧ Below w.heap.size w w'
theorem FreshL5.srow {w w' : World} {B n c : Nat} {A : Option Addr} {vs : List Sv} {r : List Sd} (h : OwnsS w' B A n c vs) (e : sdsOf vs = r) : SRow w' w'.heap.size A r := by rw [← e]; exact h.srow
/-- copies of one list, as it stands -/
theorem scopy1_any {W w : World} {A : Option Addr} {l : List Sd} {vs : List Sv} {n c g : Nat} {t : TypeId} (hg : w.heap.size = g) (hok : ∀ d ∈ l, d.aw.length = 1 ∧ d.mw.length = 1) (hl : l.length ≤ 256) (hn : l.length = n) (hs : sdsOf vs = l) (hv : VRow w A vs) (hr : RowsV w vs) :
    Calls Try.prog 57 #[.slice (some ⟨g, 0, none⟩) 1 1] (w.alloc (.cells #[.slice A n c] t)) fun e w' => ∃ A' c' us, e = .returned (.slice A' n c') ∧ sdsOf us = l ∧ OwnsS w' (g + 1) A' n c' us ∧ Below (g + 1) (w.alloc (.cells #[.slice A n c] t)) w' := by
  have hlen := sds_len hs
  have hb : Below w.heap.size w (w.alloc (.cells #[.slice A n c] t)) := (Below.refl _ _).alloc (Nat.le_refl _) _
  have h := scopies_any (w := w.alloc (.cells #[.slice A n c] t)) (P := some ⟨g, 0, none⟩) (ps := [vs]) 1 (prow1 g hg hv (by omega)) (by simp) (by simp; omega) (fun v hv' => by
    have hm : v ∈ vs := by simpa using hv'
    obtain ⟨r1, r2⟩ := (hr.later hb) v hm
    have hd : v.d ∈ l := by rw [← hs]; exact List.mem_map.2 ⟨v, hm, rfl⟩
    exact ⟨r1, r2, (hok _ hd).1, (hok _ hd).2⟩) n (by simp; omega) 1 rfl
  rw [World.size_alloc, hg] at h
  refine h.mono ?_
  rintro e w' ⟨A', c', us, rfl, h1, h2, h3⟩
  exact ⟨A', c', us, rfl, by rw [h1]; simpa using hs, h2, h3⟩
def DropE (l : List Sd) (first : Int) (r : List Sd) (y : Int) : Prop := (¬ OkL l ∧ r = [] ∧ y = 2) ∨ (OkL l ∧ IdxE l (fun d => d.f == first) (-1) ∧ r = l ∧ y = 3) ∨ (∃ i : Nat, OkL l ∧ IdxE l (fun d => d.f == first) i ∧ r = l.take i ++ l.drop (i + 1) ∧ y = 0)
theorem DropE.ex (l : List Sd) (first : Int) : ∃ r y, DropE l first r y := by
  by_cases h : OkL l
  · obtain ⟨x, hx⟩ := IdxE.ex l fun d => d.f == first
    rcases hx with ⟨rfl, h2⟩ | ⟨i, rfl, h2⟩
    · exact ⟨_, _, .inr (.inl ⟨h, .inl ⟨rfl, h2⟩, rfl, rfl⟩)⟩
    · exact ⟨_, _, .inr (.inr ⟨i, h, .inr ⟨i, rfl, h2⟩, rfl, rfl⟩)⟩
  · exact ⟨_, _, .inl ⟨h, rfl, rfl⟩⟩
theorem IdxE.lt {l : List Sd} {p : Sd → Bool} {i : Nat} (h : IdxE l p (i : Nat)) : i < l.length := by
  rcases h with ⟨h1, _⟩ | ⟨j, h1, h2, _⟩
  · omega
  · omega
theorem says_drop1 {w : World} {l : List Sd} (first : Int) (B : Nat) (hB : w.cell? ⟨B, 0, none⟩ = some (.int .i64 first)) : Says 58 #[.pointer (some ⟨B, 0, none⟩)] l (fun d => d.f == first) w :=
  fun W i A M ca cm hb hi hA hM => sdrop1_any ca cm first B ((hb.cell (p := ⟨B, 0, none⟩) (World.block_lt_of_cell? w _ hB)).trans hB)
theorem size_g {w : World} {g : Nat} (h : w.heap.size = g) : w.heap.size = g := h
section
variable {w : World} {A : Option Addr} {l : List Sd} (cap : Nat)
set_option maxHeartbeats 4000000 in
theorem sdrop_any (hr : SRow w w.heap.size A l) (hcl : l.length ≤ cap) (hl : l.length ≤ 17592186044416) (first : Int) (r : List Sd) (y : Int) (hE : DropE l first r y) :
    Calls Try.prog 28 #[.slice A l.length cap, .int .i64 first] w fun e w' => FreshL5 w r y e w' := by
  unfold FreshL5
  rcases hE with ⟨h, rfl, rfl⟩ | ⟨h, hI, rfl, rfl⟩ | ⟨i, h, hI, hre, rfl⟩
  · have C := Lib.hid fun (w : World) hr => scheck_any (w := w) (A := A) (l := l) cap hr hl 2 (.inr ⟨h, rfl⟩)
    clear h
    go_enter Try.func28, Try.ntmps28
    go_wp2_with fail
    go_at_call 19
    refine (C.out _ (hr.later (by repeat (first | exact Below.refl _ _ | assumption | (refine below_drewN ?_ _) | (refine Below.drew ?_) | (refine Below.alloc ?_ (by first | omega | (simp; omega) | simp) _) | (refine Below.setCell ?_ (by first | omega | (simp; omega) | simp) _) | (refine below_trans ?_ (by assumption) (by first | omega | (simp; omega) | simp)))))).mono ?_
    rintro e w1 ⟨rfl, hb_w1⟩
    obtain ⟨hc_w1, hf_w1⟩ := bcell hb_w1; have hz_w1_w_0 : w.heap.size < w1.heap.size := (by have hzz := hb_w1.size; (try simp only [World.size_alloc, World.size_setCell, World.size_drew, World.heap_drewN] at hzz); omega); have hs_w1 := hb_w1.size; (try simp only [World.size_alloc, World.size_setCell, World.size_drew, World.heap_drewN] at hs_w1)
    go_wp2
    go_ret2
    exact ⟨none, 0, [], rfl, rfl, OwnsS.nil _ _, (by repeat (first | exact Below.refl _ _ | assumption | (refine below_drewN ?_ _) | (refine Below.drew ?_) | (refine Below.alloc ?_ (by first | omega | (simp; omega) | simp) _) | (refine Below.setCell ?_ (by first | omega | (simp; omega) | simp) _) | (refine below_trans ?_ (by assumption) (by first | omega | (simp; omega) | simp))))⟩
  · have C := Lib.hid fun (w : World) hr => scheck_any (w := w) (A := A) (l := r) cap hr hl 0 (.inl ⟨h, rfl⟩)
    have HI := Lib.hid hI
    have HW := Lib.hid h.words
    have h256 := h.1
    clear h hI
    go_enter Try.func28, Try.ntmps28
    go_wp2_with fail
    go_at_call 19
    refine (C.out _ (hr.later (by repeat (first | exact Below.refl _ _ | assumption | (refine below_drewN ?_ _) | (refine Below.drew ?_) | (refine Below.alloc ?_ (by first | omega | (simp; omega) | simp) _) | (refine Below.setCell ?_ (by first | omega | (simp; omega) | simp) _) | (refine below_trans ?_ (by assumption) (by first | omega | (simp; omega) | simp)))))).mono ?_
    rintro e w1 ⟨rfl, hb_w1⟩
    obtain ⟨hc_w1, hf_w1⟩ := bcell hb_w1; have hz_w1_w_0 : w.heap.size < w1.heap.size := (by have hzz := hb_w1.size; (try simp only [World.size_alloc, World.size_setCell, World.size_drew, World.heap_drewN] at hzz); omega); have hs_w1 := hb_w1.size; (try simp only [World.size_alloc, World.size_setCell, World.size_drew, World.heap_drewN] at hs_w1)
    have ka : w1.cell? ⟨w.heap.size, 0, none⟩ = some (.int .i64 first) := (hc_w1 _ _ (by first | omega | (simp; omega) | simp)).trans (by simp [go_sem])
    go_wp2_with fail
    go_at_call 47
    refine (sindex_any cap 58 _ (fun d => d.f == first) eg_drop1 (hr.later (by repeat (first | exact Below.refl _ _ | assumption | (refine below_drewN ?_ _) | (refine Below.drew ?_) | (refine Below.alloc ?_ (by first | omega | (simp; omega) | simp) _) | (refine Below.setCell ?_ (by first | omega | (simp; omega) | simp) _) | (refine below_trans ?_ (by assumption) (by first | omega | (simp; omega) | simp))))) hl (says_drop1 first _ ka) (-1) HI.out).mono ?_
    rintro e w2 ⟨rfl, hb_w2⟩
    obtain ⟨hc_w2, hf_w2⟩ := bcell hb_w2; have hz_w2_w_0 : w.heap.size < w2.heap.size := (by have hzz := hb_w2.size; (try simp only [World.size_alloc, World.size_setCell, World.size_drew, World.heap_drewN] at hzz); omega); have hs_w2 := hb_w2.size; (try simp only [World.size_alloc, World.size_setCell, World.size_drew, World.heap_drewN] at hs_w2)
    have b2 : Below w.heap.size w w2 := (by repeat (first | exact Below.refl _ _ | assumption | (refine below_drewN ?_ _) | (refine Below.drew ?_) | (refine Below.alloc ?_ (by first | omega | (simp; omega) | simp) _) | (refine Below.setCell ?_ (by first | omega | (simp; omega) | simp) _) | (refine below_trans ?_ (by assumption) (by first | omega | (simp; omega) | simp))))
    obtain ⟨vs, h1, h2, h3⟩ := (hr.later b2).vals
    have HX := Lib.hid fun (g : Nat) (hg : w2.heap.size = g) (t : TypeId) => scopy1_any (W := w2) (w := w2) (n := r.length) (c := cap) (t := t) hg HW.out h256 rfl h1 h2 h3
    go_wp2_with fail
    go_at_call 57
    refine (HX.out _ rfl _).mono ?_
    rintro e w3 ⟨A3, c3, us, rfl, h4, h5, hb_w3⟩
    have hs3 := hb_w3.size
    go_wp2
    go_ret2
    exact ⟨A3, c3, us, rfl, h4, h5.mono (by first | omega | (simp; omega) | simp), (by repeat (first | exact Below.refl _ _ | assumption | (refine below_drewN ?_ _) | (refine Below.drew ?_) | (refine Below.alloc ?_ (by first | omega | (simp; omega) | simp) _) | (refine Below.setCell ?_ (by first | omega | (simp; omega) | simp) _) | (refine below_trans ?_ (by assumption) (by first | omega | (simp; omega) | simp))))⟩
  · have C := Lib.hid fun (w : World) hr => scheck_any (w := w) (A := A) (l := l) cap hr hl 0 (.inl ⟨h, rfl⟩)
    have HI := Lib.hid hI
    have HW := Lib.hid h.words
    have h256 := h.1
    have hil := hI.lt
    clear h hI
    go_enter Try.func28, Try.ntmps28
    go_wp2_with fail
    go_at_call 19
    refine (C.out _ (hr.later (by repeat (first | exact Below.refl _ _ | assumption | (refine below_drewN ?_ _) | (refine Below.drew ?_) | (refine Below.alloc ?_ (by first | omega | (simp; omega) | simp) _) | (refine Below.setCell ?_ (by first | omega | (simp; omega) | simp) _) | (refine below_trans ?_ (by assumption) (by first | omega | (simp; omega) | simp)))))).mono ?_
    rintro e w1 ⟨rfl, hb_w1⟩
    obtain ⟨hc_w1, hf_w1⟩ := bcell hb_w1; have hz_w1_w_0 : w.heap.size < w1.heap.size := (by have hzz := hb_w1.size; (try simp only [World.size_alloc, World.size_setCell, World.size_drew, World.heap_drewN] at hzz); omega); have hs_w1 := hb_w1.size; (try simp only [World.size_alloc, World.size_setCell, World.size_drew, World.heap_drewN] at hs_w1)
    have ka : w1.cell? ⟨w.heap.size, 0, none⟩ = some (.int .i64 first) := (hc_w1 _ _ (by first | omega | (simp; omega) | simp)).trans (by simp [go_sem])
    go_wp2_with fail
    go_at_call 47
    refine (sindex_any cap 58 _ (fun d => d.f == first) eg_drop1 (hr.later (by repeat (first | exact Below.refl _ _ | assumption | (refine below_drewN ?_ _) | (refine Below.drew ?_) | (refine Below.alloc ?_ (by first | omega | (simp; omega) | simp) _) | (refine Below.setCell ?_ (by first | omega | (simp; omega) | simp) _) | (refine below_trans ?_ (by assumption) (by first | omega | (simp; omega) | simp))))) hl (says_drop1 first _ ka) (i : Nat) HI.out).mono ?_
    rintro e w2 ⟨rfl, hb_w2⟩
    obtain ⟨hc_w2, hf_w2⟩ := bcell hb_w2; have hz_w2_w_0 : w.heap.size < w2.heap.size := (by have hzz := hb_w2.size; (try simp only [World.size_alloc, World.size_setCell, World.size_drew, World.heap_drewN] at hzz); omega); have hs_w2 := hb_w2.size; (try simp only [World.size_alloc, World.size_setCell, World.size_drew, World.heap_drewN] at hs_w2)
    have b2 : Below w.heap.size w w2 := (by repeat (first | exact Below.refl _ _ | assumption | (refine below_drewN ?_ _) | (refine Below.drew ?_) | (refine Below.alloc ?_ (by first | omega | (simp; omega) | simp) _) | (refine Below.setCell ?_ (by first | omega | (simp; omega) | simp) _) | (refine below_trans ?_ (by assumption) (by first | omega | (simp; omega) | simp))))
    have ka2 : w2.cell? ⟨w.heap.size, 0, none⟩ = some (.int .i64 first) := (hb_w2.cell (p := ⟨w.heap.size, 0, none⟩) (by first | omega | (simp; omega) | simp)).trans ka
    obtain ⟨b, off, rfl, hbb, _⟩ := (hr.later b2).at_ (by omega)
    obtain ⟨vs, h1, h2, h3⟩ := (hr.later b2).vals
    have hvl := sds_len h1
    have hi0 : decide ((i : Int) < 0) = false := decide_eq_false (by omega)
    have i1 : (0 : Int) ≤ (i : Int) := by omega
    have i2 : (i : Int) ≤ (cap : Int) := by omega
    have i3 : (i : Int) + 1 ≤ (l.length : Int) := by omega
    have i4 : (l.length : Int) ≤ (cap : Int) := by omega
    have i5 : (0 : Int) ≤ (i : Int) + 1 := by omega
    have i6 : IntKind.i64.wrap ((i : Int) + 1) = (i : Int) + 1 := by rw [IntWalk.i64_in _ (by omega)]
    have i7 : ((i : Int) + 1).toNat = i + 1 := by omega
    have hlen : r.length = l.length - 1 := by rw [hre, List.length_append, List.length_take, List.length_drop]; omega
    have HP : Hid (∀ (W : World) (g : Nat), Below w2.heap.size w2 W → PRow W (some ⟨g, 0, none⟩) [vs.take i, vs.drop (i + 1)] → Calls Try.prog 57 #[.slice (some ⟨g, 0, none⟩) 2 2] W fun e w' => ∃ A' c' us, e = .returned (.slice A' r.length c') ∧ sdsOf us = r ∧ OwnsS w' W.heap.size A' r.length c' us ∧ Below W.heap.size W w') := Lib.hid fun W g hb hp => by
      have h := scopies_any (w := W) (P := some ⟨g, 0, none⟩) (ps := [vs.take i, vs.drop (i + 1)]) 2 hp (by simp) (by simp only [List.flatten_cons, List.flatten_nil, List.append_nil, List.length_append, List.length_take, List.length_drop]; omega) (fun v hv' => by
        have hm : v ∈ vs := by
          simp only [List.flatten_cons, List.flatten_nil, List.append_nil, List.mem_append] at hv'
          rcases hv' with hv' | hv'
          · exact List.mem_of_mem_take hv'
          · exact List.mem_of_mem_drop hv'
        obtain ⟨r1, r2⟩ := (h3.later hb) v hm
        have hd : v.d ∈ l := by rw [← h1]; exact List.mem_map.2 ⟨v, hm, rfl⟩
        exact ⟨r1, r2, (HW.out _ hd).1, (HW.out _ hd).2⟩) r.length (by rw [hlen]; simp only [List.flatten_cons, List.flatten_nil, List.append_nil, List.length_append, List.length_take, List.length_drop]; omega) 2 rfl
      refine h.mono ?_
      rintro e w' ⟨A', c', us, rfl, g1, g2, g3⟩
      exact ⟨A', c', us, rfl, by rw [g1, hre]; simp only [List.flatten_cons, List.flatten_nil, List.append_nil]; rw [sds_app, sds_take, sds_drop, h1], g2, g3⟩
    have HQ : Hid (∀ (A2 : Option Addr) (n2 c1 c2 : Nat) (t : TypeId), VRow w2 A2 (vs.drop (i + 1)) → l.length - (i + 1) = n2 → PRow ((w2.alloc (.cells #[.slice (some ⟨b, off, none⟩) i c1, .slice A2 n2 c2] t)).drew) (some ⟨w2.heap.size, 0, none⟩) [vs.take i, vs.drop (i + 1)]) := Lib.hid fun A2 n2 c1 c2 t hd he =>
      (prow2 w2.heap.size rfl (h2.take i) hd (by rw [List.length_take]; omega) (by rw [List.length_drop]; omega)).later (Below.drew (Below.refl _ _))
    have HD1 := Lib.hid (h2.drop (i + 1))
    have HD2 : Hid (l.length = i + 1 → ∀ A2, VRow w2 A2 (vs.drop (i + 1))) := Lib.hid fun e A2 hl => by
      rw [List.length_drop] at hl
      omega
    clear h1 h2 h3 hvl hlen hre HW C HI hr
    by_cases hcap : cap = i + 1
    · subst hcap
      have HD := Lib.hid (HD2.out (by omega) (some ⟨b, off, none⟩))
      have HE : Hid (l.length - (i + 1) = 0) := Lib.hid (by omega)
      have i9 : (i : Int) ≤ (i : Int) + 1 := by omega
      clear HD1 HD2
      go_wp2_with fail
      go_region_held3 (fun X : World => X.cell? ⟨w.heap.size, 0, none⟩ = some (.int .i64 first))
        (first | assumption | exact (World.cell?_alloc_lt _ _ ⟨_, _, _⟩ (by first | omega | (simp; omega) | simp)).trans (by assumption) | (simp [go_sem]; done))
        ((go_at_call 57; refine (HP.out _ _ (by repeat (first | exact Below.refl _ _ | assumption | (refine below_drewN ?_ _) | (refine Below.drew ?_) | (refine Below.alloc ?_ (by first | omega | (simp; omega) | simp) _) | (refine Below.setCell ?_ (by first | omega | (simp; omega) | simp) _) | (refine below_trans ?_ (by assumption) (by first | omega | (simp; omega) | simp)))) (HQ.out _ _ _ _ _ HD.out HE.out)).mono ?_; rintro e w3 ⟨A3, c3, us, rfl, h4, h5, hb_w3⟩; have hs3 := hb_w3.size; have k3 : w3.cell? ⟨w.heap.size, 0, none⟩ = some (.int .i64 first) := (hb_w3.cell (p := ⟨w.heap.size, 0, none⟩) (by first | omega | (simp; omega) | simp)).trans (by first | assumption | (simp [go_sem]; done) | exact (World.cell?_alloc_lt _ _ ⟨_, _, _⟩ (by first | omega | (simp; omega) | simp)).trans (by assumption))))
      all_goals
        go_wp2
        go_ret2
        exact ⟨A3, c3, us, rfl, h4, h5.mono (by first | omega | (simp; omega) | simp), (by repeat (first | exact Below.refl _ _ | assumption | (refine below_drewN ?_ _) | (refine Below.drew ?_) | (refine Below.alloc ?_ (by first | omega | (simp; omega) | simp) _) | (refine Below.setCell ?_ (by first | omega | (simp; omega) | simp) _) | (refine below_trans ?_ (by assumption) (by first | omega | (simp; omega) | simp))))⟩
    · clear HD2
      go_wp2_with fail
      go_region_held3 (fun X : World => X.cell? ⟨w.heap.size, 0, none⟩ = some (.int .i64 first))
        (first | assumption | exact (World.cell?_alloc_lt _ _ ⟨_, _, _⟩ (by first | omega | (simp; omega) | simp)).trans (by assumption) | (simp [go_sem]; done))
        ((go_at_call 57; refine (HP.out _ _ (by repeat (first | exact Below.refl _ _ | assumption | (refine below_drewN ?_ _) | (refine Below.drew ?_) | (refine Below.alloc ?_ (by first | omega | (simp; omega) | simp) _) | (refine Below.setCell ?_ (by first | omega | (simp; omega) | simp) _) | (refine below_trans ?_ (by assumption) (by first | omega | (simp; omega) | simp)))) (HQ.out _ _ _ _ _ HD1.out rfl)).mono ?_; rintro e w3 ⟨A3, c3, us, rfl, h4, h5, hb_w3⟩; have hs3 := hb_w3.size; have k3 : w3.cell? ⟨w.heap.size, 0, none⟩ = some (.int .i64 first) := (hb_w3.cell (p := ⟨w.heap.size, 0, none⟩) (by first | omega | (simp; omega) | simp)).trans (by first | assumption | (simp [go_sem]; done) | exact (World.cell?_alloc_lt _ _ ⟨_, _, _⟩ (by first | omega | (simp; omega) | simp)).trans (by assumption))))
      all_goals
        go_wp2
        go_ret2
        exact ⟨A3, c3, us, rfl, h4, h5.mono (by first | omega | (simp; omega) | simp), (by repeat (first | exact Below.refl _ _ | assumption | (refine below_drewN ?_ _) | (refine Below.drew ?_) | (refine Below.alloc ?_ (by first | omega | (simp; omega) | simp) _) | (refine Below.setCell ?_ (by first | omega | (simp; omega) | simp) _) | (refine below_trans ?_ (by assumption) (by first | omega | (simp; omega) | simp))))⟩
end
end Go.Proofs.Ythphefoohkofbaa

/- Contract of Add of spans. -/
namespace Go.Proofs.Ythphefoohkofbaa
open Go.RowKit
set_option linter.unusedVariables false
set_option linter.unusedSimpArgs false

def hitsS (s d : Sd) : Bool := decide (s.f < d.f + d.p)
/-- where a span goes -/
def PosE (l : List Sd) (s : Sd) (n : Nat) : Prop := (IdxE l (hitsS s) (-1) ∧ n = l.length) ∨ IdxE l (hitsS s) (n : Nat)
theorem PosE.ex (l : List Sd) (s : Sd) : ∃ n, PosE l s n := by
  obtain ⟨x, hx⟩ := IdxE.ex l (hitsS s)
  rcases hx with ⟨rfl, h2⟩ | ⟨i, rfl, h2⟩
  · exact ⟨_, .inl ⟨.inl ⟨rfl, h2⟩, rfl⟩⟩
  · exact ⟨i, .inr (.inr ⟨i, rfl, h2⟩)⟩
theorem PosE.le {l : List Sd} {s : Sd} {n : Nat} (h : PosE l s n) : n ≤ l.length := by
  rcases h with ⟨_, h⟩ | h
  · omega
  · exact Nat.le_of_lt h.lt
/-- it is where another one is -/
def Clash (l : List Sd) (s : Sd) (n : Nat) : Prop := n < l.length ∧ (nth l n).f < s.f + s.p
def AddE (l : List Sd) (s : Sd) (r : List Sd) (y : Int) : Prop := (¬ OkL l ∧ r = [] ∧ y = 2) ∨ (OkL l ∧ ¬ Ok1 s ∧ r = [] ∧ y = 2) ∨
  ∃ n, OkL l ∧ Ok1 s ∧ PosE l s n ∧ ((Clash l s n ∧ r = l ∧ y = 4) ∨ (¬ Clash l s n ∧ l.length = 256 ∧ r = l ∧ y = 6) ∨ (¬ Clash l s n ∧ l.length < 256 ∧ r = l.take n ++ [s] ++ l.drop n ∧ y = 0))
theorem AddE.ex (l : List Sd) (s : Sd) : ∃ r y, AddE l s r y := by
  by_cases h : OkL l
  · by_cases h1 : Ok1 s
    · obtain ⟨n, hn⟩ := PosE.ex l s
      by_cases h2 : Clash l s n
      · exact ⟨_, _, .inr (.inr ⟨n, h, h1, hn, .inl ⟨h2, rfl, rfl⟩⟩)⟩
      · by_cases h3 : l.length < 256
        · exact ⟨_, _, .inr (.inr ⟨n, h, h1, hn, .inr (.inr ⟨h2, h3, rfl, rfl⟩)⟩)⟩
        · exact ⟨_, _, .inr (.inr ⟨n, h, h1, hn, .inr (.inl ⟨h2, by have := h.1; omega, rfl, rfl⟩)⟩)⟩
    · exact ⟨_, _, .inr (.inl ⟨h, h1, rfl, rfl⟩)⟩
  · exact ⟨_, _, .inl ⟨h, rfl, rfl⟩⟩
theorem says_add1 {w : World} {l : List Sd} (s : Sd) (B : Nat) (hok : OkL l) (hB : w.cell? ⟨B, 0, none⟩ = some (.int .i64 s.f)) : Says 56 #[.pointer (some ⟨B, 0, none⟩)] l (hitsS s) w :=
  fun W i A M ca cm hb hi hA hM => sadd1_any ca cm s.f B (hok.2.1 i hi) ((hb.cell (p := ⟨B, 0, none⟩) (World.block_lt_of_cell? w _ hB)).trans hB)
section
variable {w : World} {A As Ms : Option Addr} {l : List Sd} (cap ca cm : Nat)
set_option maxHeartbeats 4000000 in
theorem sadd_bad (hr : SRow w w.heap.size A l) (hl : l.length ≤ 17592186044416) (d : Sd) (hA : Row w w.heap.size As d.aw) (hM : Row w w.heap.size Ms d.mw) (hE : ¬ OkL l ∨ (OkL l ∧ ¬ Ok1 d)) :
    Calls Try.prog 26 #[.slice A l.length cap, spv d As ca Ms cm] w fun e w' => FreshL5 w [] 2 e w' := by
  unfold FreshL5
  rcases hE with h | ⟨h, h1⟩
  · have C := Lib.hid fun (w : World) hr => scheck_any (w := w) (A := A) (l := l) cap hr hl 2 (.inr ⟨h, rfl⟩)
    clear h
    obtain ⟨f, p, z, an, aw, mn, mw, s⟩ := d
    unfold spv
    simp only at *
    go_enter Try.func26, Try.ntmps26
    go_wp2_with fail
    go_at_call 19
    refine (C.out _ (hr.later (by repeat (first | exact Below.refl _ _ | assumption | (refine below_drewN ?_ _) | (refine Below.drew ?_) | (refine Below.alloc ?_ (by first | omega | (simp; omega) | simp) _) | (refine Below.setCell ?_ (by first | omega | (simp; omega) | simp) _) | (refine below_trans ?_ (by assumption) (by first | omega | (simp; omega) | simp)))))).mono ?_
    rintro e w1 ⟨rfl, hb_w1⟩
    obtain ⟨hc_w1, hf_w1⟩ := bcell hb_w1; have hz_w1_w_0 : w.heap.size < w1.heap.size := (by have hzz := hb_w1.size; (try simp only [World.size_alloc, World.size_setCell, World.size_drew, World.heap_drewN] at hzz); omega); have hs_w1 := hb_w1.size; (try simp only [World.size_alloc, World.size_setCell, World.size_drew, World.heap_drewN] at hs_w1)
    go_wp2
    go_ret2
    exact ⟨none, 0, [], rfl, rfl, OwnsS.nil _ _, (by repeat (first | exact Below.refl _ _ | assumption | (refine below_drewN ?_ _) | (refine Below.drew ?_) | (refine Below.alloc ?_ (by first | omega | (simp; omega) | simp) _) | (refine Below.setCell ?_ (by first | omega | (simp; omega) | simp) _) | (refine below_trans ?_ (by assumption) (by first | omega | (simp; omega) | simp))))⟩
  · have C := Lib.hid fun (w : World) hr => scheck_any (w := w) (A := A) (l := l) cap hr hl 0 (.inl ⟨h, rfl⟩)
    have V := Lib.hid fun (w : World) (g : Nat) (hg : w.heap.size = g) hA hM (t : TypeId) => scheck1_any (w := w) (d := d) (A := As) (M := Ms) ca cm hg hA hM 2 (.inr ⟨h1, rfl⟩) t
    clear h h1
    obtain ⟨f, p, z, an, aw, mn, mw, s⟩ := d
    unfold spv
    simp only at *
    go_enter Try.func26, Try.ntmps26
    go_wp2_with fail
    go_at_call 19
    refine (C.out _ (hr.later (by repeat (first | exact Below.refl _ _ | assumption | (refine below_drewN ?_ _) | (refine Below.drew ?_) | (refine Below.alloc ?_ (by first | omega | (simp; omega) | simp) _) | (refine Below.setCell ?_ (by first | omega | (simp; omega) | simp) _) | (refine below_trans ?_ (by assumption) (by first | omega | (simp; omega) | simp)))))).mono ?_
    rintro e w1 ⟨rfl, hb_w1⟩
    obtain ⟨hc_w1, hf_w1⟩ := bcell hb_w1; have hz_w1_w_0 : w.heap.size < w1.heap.size := (by have hzz := hb_w1.size; (try simp only [World.size_alloc, World.size_setCell, World.size_drew, World.heap_drewN] at hzz); omega); have hs_w1 := hb_w1.size; (try simp only [World.size_alloc, World.size_setCell, World.size_drew, World.heap_drewN] at hs_w1)
    have b1 : Below w.heap.size w w1 := (by repeat (first | exact Below.refl _ _ | assumption | (refine below_drewN ?_ _) | (refine Below.drew ?_) | (refine Below.alloc ?_ (by first | omega | (simp; omega) | simp) _) | (refine Below.setCell ?_ (by first | omega | (simp; omega) | simp) _) | (refine below_trans ?_ (by assumption) (by first | omega | (simp; omega) | simp))))
    have qw10 : w1.cell? ⟨w.heap.size, 0, none⟩ = some (.int .i64 f) := (hc_w1 _ _ (by first | omega | (simp; omega) | simp)).trans (by simp [go_sem])
    have qw11 : w1.cell? ⟨w.heap.size, 1, none⟩ = some (.int .i64 p) := (hc_w1 _ _ (by first | omega | (simp; omega) | simp)).trans (by simp [go_sem])
    have qw12 : w1.cell? ⟨w.heap.size, 2, none⟩ = some (.int .i64 z) := (hc_w1 _ _ (by first | omega | (simp; omega) | simp)).trans (by simp [go_sem])
    have qw13 : w1.cell? ⟨w.heap.size, 3, none⟩ = some (.int .i64 an) := (hc_w1 _ _ (by first | omega | (simp; omega) | simp)).trans (by simp [go_sem])
    have qw14 : w1.cell? ⟨w.heap.size, 4, none⟩ = some (.slice As aw.length ca) := (hc_w1 _ _ (by first | omega | (simp; omega) | simp)).trans (by simp [go_sem])
    have qw15 : w1.cell? ⟨w.heap.size, 5, none⟩ = some (.int .i64 mn) := (hc_w1 _ _ (by first | omega | (simp; omega) | simp)).trans (by simp [go_sem])
    have qw16 : w1.cell? ⟨w.heap.size, 6, none⟩ = some (.slice Ms mw.length cm) := (hc_w1 _ _ (by first | omega | (simp; omega) | simp)).trans (by simp [go_sem])
    have qw17 : w1.cell? ⟨w.heap.size, 7, none⟩ = some (.bool s) := (hc_w1 _ _ (by first | omega | (simp; omega) | simp)).trans (by simp [go_sem])
    go_wp2_with fail
    go_at_call 19
    refine (V.out _ _ rfl (hA.later b1) (hM.later b1) _).mono ?_
    rintro e w2 ⟨rfl, hb_w2⟩
    have hs2 := hb_w2.size
    (try simp only [World.size_alloc] at hs2)
    go_wp2
    go_ret2
    exact ⟨none, 0, [], rfl, rfl, OwnsS.nil _ _, (by repeat (first | exact Below.refl _ _ | assumption | (refine below_drewN ?_ _) | (refine Below.drew ?_) | (refine Below.alloc ?_ (by first | omega | (simp; omega) | simp) _) | (refine Below.setCell ?_ (by first | omega | (simp; omega) | simp) _) | (refine below_trans ?_ (by assumption) (by first | omega | (simp; omega) | simp))))⟩
end
end Go.Proofs.Ythphefoohkofbaa
