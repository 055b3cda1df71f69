/- What taking and giving runs of pages comes to, and the longest run: plain facts. -/
import Derived.Test.YthikpamjeckfcaaDoorSpec2
namespace Go.Proofs.YthikpamjeckfcaaDoor
open Go

/-- the m bits from a on are 0 -/
def FitAt (ws : List Nat) (a m : Nat) : Prop := ∀ j, a ≤ j → j < a + m → tb ws j = false
theorem FitAt.zero (ws : List Nat) (a : Nat) : FitAt ws a 0 := fun j h1 h2 => by omega
theorem FitAt.succ {ws : List Nat} {a m : Nat} (h : FitAt ws a m) (h' : tb ws (a + m) = false) : FitAt ws a (m + 1) := fun j h1 h2 => by
  by_cases e : j = a + m
  · rw [e]; exact h'
  · exact h j h1 (by omega)
theorem zs_ge (ws : List Nat) (a m : Nat) (h : FitAt ws a m) : m ≤ zs ws (a + m) := by
  induction m with
  | zero => exact Nat.zero_le _
  | succ m ih =>
    have := ih fun j h1 h2 => h j h1 (by omega)
    have hb := h (a + m) (by omega) (by omega)
    rw [← Nat.add_assoc, zs, hb]
    simpa using this
/-- the first run of c bits that are 0: what is told -/
def FitP (ws : List Nat) (c n i why : Int) : Prop :=
  (why = 0 ∧ 0 ≤ i ∧ i + c ≤ n ∧ FitAt ws i.toNat c.toNat ∧ ∀ j : Nat, (j : Int) < i → ¬ FitAt ws j c.toNat) ∨ (why = 3 ∧ i = 0 ∧ ∀ j : Nat, (j : Int) + c ≤ n → ¬ FitAt ws j c.toNat)
theorem RunP.fit {ws : List Nat} {c n i why : Int} (h : RunP ws c n i why) (hc : 1 ≤ c) : FitP ws c n i why := by
  rcases h with ⟨rfl, k, h1, h2, h3, rfl⟩ | ⟨rfl, rfl, h4⟩
  · have hle := zs_le ws (k + 1)
    refine .inl ⟨rfl, by omega, by omega, fun j g1 g2 => zs_zero ws (k + 1) j (by omega) (by omega), fun j g hf => ?_⟩
    have hz := zs_ge ws j c.toNat hf
    obtain ⟨t, t1, t2⟩ := zs_hit ws c.toNat _ (by omega) hz
    exact h3 t (by omega) (by omega)
  · refine .inr ⟨rfl, rfl, fun j g hf => ?_⟩
    have hz := zs_ge ws j c.toNat hf
    obtain ⟨t, t1, t2⟩ := zs_hit ws c.toNat _ (by omega) hz
    exact h4 t (by omega) (by omega)
theorem FitP.one {ws : List Nat} {c n i why i' why' : Int} (h : FitP ws c n i why) (h' : FitP ws c n i' why') : i = i' ∧ why = why' := by
  rcases h with ⟨rfl, h1, h2, h3, h4⟩ | ⟨rfl, rfl, h4⟩ <;> rcases h' with ⟨rfl, g1, g2, g3, g4⟩ | ⟨rfl, rfl, g4⟩
  · refine ⟨?_, rfl⟩
    by_cases e : i < i'
    · exact absurd h3 (g4 i.toNat (by omega))
    · by_cases e' : i' < i
      · exact absurd g3 (h4 i'.toNat (by omega))
      · omega
  · exact absurd h3 (g4 i.toNat (by omega))
  · exact absurd g3 (h4 i'.toNat (by omega))
  · exact ⟨rfl, rfl⟩

/-- the longest run of bits that are 0 among the first k -/
def best (ws : List Nat) : Nat → Nat
  | 0 => 0
  | k + 1 => max (best ws k) (zs ws (k + 1))
theorem best_ge (ws : List Nat) (k j : Nat) (h : j ≤ k) : zs ws j ≤ best ws k := by
  induction k with
  | zero => obtain rfl : j = 0 := by omega
            exact Nat.le_refl _
  | succ k ih =>
    rw [best]
    by_cases e : j = k + 1
    · subst e; omega
    · have := ih (by omega); omega
theorem best_at (ws : List Nat) (k : Nat) : ∃ j, j ≤ k ∧ zs ws j = best ws k := by
  induction k with
  | zero => exact ⟨0, Nat.le_refl _, rfl⟩
  | succ k ih =>
    obtain ⟨j, h1, h2⟩ := ih
    rw [best]
    by_cases e : best ws k ≤ zs ws (k + 1)
    · exact ⟨k + 1, Nat.le_refl _, by omega⟩
    · exact ⟨j, by omega, by omega⟩
theorem best_le (ws : List Nat) (k : Nat) : best ws k ≤ k := by
  obtain ⟨j, h1, h2⟩ := best_at ws k
  have := zs_le ws j
  omega
theorem zs_count (ws : List Nat) (k : Nat) : zs ws k + countTo ws k ≤ k := by
  induction k with
  | zero => exact Nat.le_refl _
  | succ k ih =>
    rw [zs, countTo]
    have := countTo_le ws k
    cases tb ws k <;> simp <;> omega
theorem best_count (ws : List Nat) (k : Nat) : best ws k + countTo ws k ≤ k := by
  induction k with
  | zero => exact Nat.le_refl _
  | succ k ih =>
    have h1 := zs_count ws (k + 1)
    rw [best]
    have : countTo ws (k + 1) ≤ countTo ws k + 1 := by
      rw [countTo]; split <;> omega
    omega
/-- there is room just for what is no longer than the longest one -/
theorem FitP.best {ws : List Nat} {c n i why : Int} (h : FitP ws c n i why) (hc : 1 ≤ c) (hn : 0 ≤ n) : (why = 0 ∧ c ≤ (best ws n.toNat : Nat)) ∨ (why = 3 ∧ ((Go.Proofs.YthikpamjeckfcaaDoor.best ws n.toNat : Nat) : Int) < c) := by
  rcases h with ⟨rfl, h1, h2, h3, h4⟩ | ⟨rfl, rfl, h4⟩
  · left
    refine ⟨rfl, ?_⟩
    have hz := zs_ge ws i.toNat c.toNat h3
    have := best_ge ws n.toNat (i.toNat + c.toNat) (by omega)
    omega
  · right
    refine ⟨rfl, ?_⟩
    by_cases e : ((Go.Proofs.YthikpamjeckfcaaDoor.best ws n.toNat : Nat) : Int) < c
    · exact e
    · exfalso
      obtain ⟨j, h1, h2⟩ := best_at ws n.toNat
      obtain ⟨t, t1, t2⟩ := zs_hit ws c.toNat j (by omega) (by omega)
      have hle := zs_le ws t
      refine h4 (t - c.toNat) (by omega) fun q q1 q2 => zs_zero ws t q (by omega) (by omega)
theorem best_skip (ws : List Nat) (a m : Nat) (h : ∀ j, a ≤ j → j < a + m → tb ws j = true) : best ws (a + m) = best ws a := by
  induction m with
  | zero => rfl
  | succ m ih =>
    have hb := h (a + m) (by omega) (by omega)
    rw [← Nat.add_assoc, best, ih (fun j h1 h2 => h j h1 (by omega)), zs, hb]
    simp
theorem zs_skip (ws : List Nat) (a m : Nat) (hm : 0 < m) (h : ∀ j, a ≤ j → j < a + m → tb ws j = true) : zs ws (a + m) = 0 := by
  obtain ⟨m, rfl⟩ : ∃ k, m = k + 1 := ⟨m - 1, by omega⟩
  have hb := h (a + m) (by omega) (by omega)
  rw [← Nat.add_assoc, zs, hb]
  rfl
theorem zs_run (ws : List Nat) (a m : Nat) (h0 : zs ws a = 0) (h : FitAt ws a m) : zs ws (a + m) = m := by
  induction m with
  | zero => exact h0
  | succ m ih =>
    have hb := h (a + m) (by omega) (by omega)
    rw [← Nat.add_assoc, zs, hb, ih (fun j h1 h2 => h j h1 (by omega))]
    rfl
theorem best_run (ws : List Nat) (a m : Nat) (h0 : zs ws a = 0) (h : FitAt ws a m) : best ws (a + m) = max (best ws a) m := by
  induction m with
  | zero => rw [Nat.add_zero]; omega
  | succ m ih =>
    have hz := zs_run ws a (m + 1) h0 h
    rw [← Nat.add_assoc] at hz ⊢
    rw [best, ih (fun j h1 h2 => h j h1 (by omega)), hz]
    omega
theorem zs_mono (ws us : List Nat) (k : Nat) (h : ∀ j, tb us j = true → tb ws j = true) : zs ws k ≤ zs us k := by
  induction k with
  | zero => exact Nat.le_refl _
  | succ k ih =>
    rw [zs, zs]
    cases hu : tb us k
    · cases hw : tb ws k <;> simp <;> omega
    · rw [h k hu]; simp
theorem best_mono (ws us : List Nat) (k : Nat) (h : ∀ j, tb us j = true → tb ws j = true) : best ws k ≤ best us k := by
  obtain ⟨j, h1, h2⟩ := best_at ws k
  have := zs_mono ws us j h
  have := best_ge us k j h1
  omega
theorem best_all (ws : List Nat) (k : Nat) (h : ∀ j, j < k → tb ws j = false) : best ws k = k := by
  have h1 := zs_ge ws 0 k (fun j _ h2 => h j (by omega))
  have h2 := best_ge ws k k (Nat.le_refl _)
  have h3 := best_le ws k
  rw [Nat.zero_add] at h1
  omega
/-- one way of the search of the longest run: from 'from', behind which a bit is 1 or nothing is -/
theorem best_round (ws : List Nat) (n a b e : Nat) (h : a = 0 ∨ tb ws a = true) (hab : a ≤ b) (hbe : b ≤ e) (hen : e ≤ n)
    (h1 : ∀ j, a ≤ j → j < b → tb ws j = true) (h2 : ∀ j, b ≤ j → j < e → tb ws j = false) : best ws e = max (best ws a) (e - b) := by
  obtain ⟨m, rfl⟩ : ∃ m, b = a + m := ⟨b - a, by omega⟩
  obtain ⟨k, rfl⟩ : ∃ k, e = a + m + k := ⟨e - (a + m), by omega⟩
  have hb := best_skip ws a m h1
  have hk : a + m + k - (a + m) = k := by omega
  rw [hk]
  by_cases hm : 0 < m
  · rw [best_run ws (a + m) k (zs_skip ws a m hm h1) h2, hb]
  · obtain rfl : m = 0 := by omega
    rw [Nat.add_zero] at *
    by_cases hk0 : k = 0
    · subst hk0; rw [Nat.add_zero]; omega
    · rcases h with rfl | h
      · exact best_run ws 0 k rfl h2
      · have := h2 a (Nat.le_refl _) (by omega)
        rw [h] at this
        cases this
/-- what was taken is given back: all as it was -/
theorem fill_back (ws : List Nat) (a m : Nat) (hw : Words ws) (h : a + m ≤ 64 * ws.length) (hf : FitAt ws a m) : fillW (fillW ws a m true) a m false = ws := by
  refine words_ext (words_fillW (words_fillW hw _ _ _) _ _ _) hw (by rw [length_fillW, length_fillW]) fun i _ => ?_
  rw [tb_fillW _ _ _ _ _ (by rw [length_fillW]; exact h), tb_fillW _ _ _ _ _ h]
  by_cases hi : a ≤ i ∧ i < a + m
  · rw [if_pos hi]; exact (hf i hi.1 hi.2).symm
  · rw [if_neg hi, if_neg hi]
end Go.Proofs.YthikpamjeckfcaaDoor
