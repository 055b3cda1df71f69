/- What counting and searching come to when bits are changed: plain facts. -/
import Derived.Test.YthikpamjeckfcaaDoorSpec
namespace Go.Proofs.YthikpamjeckfcaaDoor
open Go

def b2i (b : Bool) : Int := if b then 1 else 0
theorem countTo_succ (ws : List Nat) (n : Nat) : ((countTo ws (n + 1) : Nat) : Int) = (countTo ws n : Nat) + b2i (tb ws n) := by
  rw [countTo]
  cases tb ws n <;> simp [b2i]
theorem countTo_putW (ws : List Nat) (i : Nat) (v : Bool) (n : Nat) (hi : i < 64 * ws.length) :
    ((countTo (putW ws i v) n : Nat) : Int) = (countTo ws n : Nat) + if i < n then b2i v - b2i (tb ws i) else 0 := by
  induction n with
  | zero => simp [countTo]
  | succ n ih =>
    rw [countTo_succ, countTo_succ, tb_putW ws i n v hi, ih]
    by_cases e : n = i
    · subst e
      rw [if_neg (show ¬ n < n by omega), if_pos (show n < n + 1 by omega), if_pos (show n = n from rfl)]
      omega
    · rw [if_neg e]
      by_cases h : i < n
      · rw [if_pos h, if_pos (show i < n + 1 by omega)]; omega
      · rw [if_neg h, if_neg (show ¬ i < n + 1 by omega)]; omega
theorem countTo_fill (ws : List Nat) (a c n : Nat) (hn : a + c ≤ n) (hl : a + c ≤ 64 * ws.length) (hz : ∀ j, a ≤ j → j < a + c → tb ws j = false) :
    countTo (fillW ws a c true) n = countTo ws n + c := by
  induction c with
  | zero => rfl
  | succ c ih =>
    have h1 := ih (by omega) (by omega) (fun j g1 g2 => hz j g1 (by omega))
    rw [fillW]
    have h2 := countTo_putW (fillW ws a c true) (a + c) true n (by rw [length_fillW]; omega)
    rw [if_pos (by omega), tb_fillW ws a c (a + c) true (by omega), if_neg (by omega), hz (a + c) (by omega) (by omega), h1] at h2
    simp only [b2i] at h2
    simp at h2
    omega
theorem zs_same (ws us : List Nat) (k : Nat) (h : ∀ j, j < k → tb us j = tb ws j) : zs us k = zs ws k := by
  induction k with
  | zero => rfl
  | succ k ih =>
    unfold zs
    rw [h k (by omega), ih (fun j hj => h j (by omega))]
theorem zs_behind (ws : List Nat) (b k : Nat) (hb : tb ws b = true) (hk : b < k) : zs ws k ≤ k - (b + 1) := by
  induction k with
  | zero => omega
  | succ k ih =>
    unfold zs
    by_cases e : k = b
    · subst e
      rw [hb]
      simp
    · have := ih (by omega)
      split
      · omega
      · omega
theorem zs_hit (ws : List Nat) (c m : Nat) (hc : 1 ≤ c) (h : c ≤ zs ws m) : ∃ j, j ≤ m ∧ zs ws j = c := by
  induction m with
  | zero => simp [zs] at h; omega
  | succ m ih =>
    by_cases e : zs ws (m + 1) = c
    · exact ⟨m + 1, Nat.le_refl _, e⟩
    · have hz : zs ws (m + 1) = if tb ws m then 0 else zs ws m + 1 := rfl
      cases hb : tb ws m
      · rw [hb] at hz
        simp only [Bool.false_eq_true, if_false] at hz
        obtain ⟨j, g1, g2⟩ := ih (by omega)
        exact ⟨j, by omega, g2⟩
      · rw [hb] at hz
        simp only [if_true] at hz
        omega
theorem zs_long (ws : List Nat) (a c : Nat) (hz : ∀ j, a ≤ j → j < a + c → tb ws j = false) : c ≤ zs ws (a + c) := by
  induction c with
  | zero => exact Nat.zero_le _
  | succ c ih =>
    have := ih (fun j g1 g2 => hz j g1 (by omega))
    show c + 1 ≤ zs ws (a + c + 1)
    unfold zs
    rw [hz (a + c) (by omega) (by omega)]
    simp
    omega

/-- the first run, filled, is none; what is told then lies behind it -/
theorem run_next (ws : List Nat) (c n i why : Int) (k : Nat) (hc : 1 ≤ c) (hk : (k : Int) < n) (hl : n ≤ 64 * ws.length) (h1 : (zs ws (k + 1) : Int) = c) (h2 : ∀ j : Nat, j ≤ k → (zs ws j : Int) ≠ c)
    (h : RunP (fillW ws ((k : Int) - c + 1).toNat c.toNat true) c n i why) : why = 3 ∨ (why = 0 ∧ (k : Int) - c + 1 + c ≤ i) := by
  have hz := zs_le ws (k + 1)
  obtain ⟨a, ha⟩ : ∃ a : Nat, a = ((k : Int) - c + 1).toNat := ⟨_, rfl⟩
  obtain ⟨d, hd⟩ : ∃ d : Nat, d = c.toNat := ⟨_, rfl⟩
  rw [← ha, ← hd] at h
  rcases h with ⟨rfl, k', g1, g2, g3, rfl⟩ | ⟨rfl, _, _⟩
  · right
    refine ⟨rfl, ?_⟩
    have hone : tb (fillW ws a d true) (a + d - 1) = true := by
      rw [tb_fillW _ _ _ _ _ (by omega), if_pos (by omega)]
    by_cases hlt : a + d - 1 < k' + 1
    · have := zs_behind _ _ _ hone hlt
      omega
    · by_cases hle : k' + 1 ≤ a
      · have := zs_same ws (fillW ws a d true) (k' + 1) (fun j hj => by rw [tb_fillW _ _ _ _ _ (by omega), if_neg (by omega)])
        rw [this] at g2
        exact absurd g2 (h2 (k' + 1) (by omega))
      · have hb : tb (fillW ws a d true) k' = true := by
          rw [tb_fillW _ _ _ _ _ (by omega), if_pos (by omega)]
        have e : zs (fillW ws a d true) (k' + 1) = 0 := by
          unfold zs
          rw [hb]
          rfl
        rw [e] at g2
        omega
  · exact .inl rfl
theorem run_within (ws : List Nat) (a c : Nat) (n i why : Int) (hc : 1 ≤ c) (hn : ((a + c : Nat) : Int) ≤ n) (hz : ∀ j, a ≤ j → j < a + c → tb ws j = false) (h : RunP ws c n i why) : why = 0 ∧ i ≤ a := by
  obtain ⟨j, g1, g2⟩ := zs_hit ws c (a + c) hc (zs_long ws a c hz)
  rcases h with ⟨rfl, k, h1, h2, h3, rfl⟩ | ⟨rfl, _, h4⟩
  · refine ⟨rfl, ?_⟩
    have : k < j := by
      by_cases e : j ≤ k
      · exact absurd (by rw [g2]) (h3 j e)
      · omega
    omega
  · exact absurd (by rw [g2]) (h4 j (by omega))
theorem fill_again (ws : List Nat) (hw : Words ws) (a c : Nat) (hl : a + c ≤ 64 * ws.length) : fillW (fillW (fillW ws a c false) a c true) a c false = fillW ws a c false := by
  refine words_ext (words_fillW (words_fillW (words_fillW hw _ _ _) _ _ _) _ _ _) (words_fillW hw _ _ _) (by simp only [length_fillW]) fun i hi => ?_
  rw [tb_fillW _ _ _ _ _ (by simp only [length_fillW]; exact hl), tb_fillW _ _ _ _ _ (by simp only [length_fillW]; exact hl), tb_fillW _ _ _ _ _ hl]
  split <;> rfl
theorem both_comm (a b : List Nat) (ha : Words a) (hb : Words b) (hl : a.length = b.length) : bothTo b a a.length = bothTo a b b.length := by
  refine words_ext (words_bothTo hb _) (words_bothTo ha _) (by rw [length_bothTo, length_bothTo, hl]) fun i _ => ?_
  rw [hl, tb_both b a i hl.symm, ← hl, tb_both a b i hl, Bool.and_comm]
theorem both_self (a : List Nat) (ha : Words a) : bothTo a a a.length = a := by
  refine words_ext (words_bothTo ha _) ha (by rw [length_bothTo]) fun i _ => ?_
  rw [tb_both a a i rfl, Bool.and_self]
end Go.Proofs.YthikpamjeckfcaaDoor
