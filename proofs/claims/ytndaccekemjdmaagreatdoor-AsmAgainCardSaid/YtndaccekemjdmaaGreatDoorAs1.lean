/- Plain facts of text: digits, words between one byte: no program is named here. -/
import Derived.Lib.AtoiAll
import Derived.Lib.ItoaNum
import Derived.Lib.Split
import Derived.Lib.SplitLaws
import Derived.Lib.CutLaws
namespace Go.Proofs.YtndaccekemjdmaaGreatDoor
open Go
set_option linter.unusedVariables false
set_option linter.unusedSimpArgs false

def digF : Nat → Nat → List UInt8
  | 0, _ => []
  | f + 1, u => if u < 10 then [UInt8.ofNat (48 + u)] else digF f (u / 10) ++ [UInt8.ofNat (48 + u % 10)]
/-- the digits of a number -/
def digs (u : Nat) : List UInt8 := digF 20 u
theorem digF_eq : ∀ (f u : Nat), 1 ≤ f → u < 10 ^ f → Lib.decDigits u = digF f u
  | 0, u, h, _ => by omega
  | f + 1, u, _, h => by
    rw [Lib.decDigits, digF]
    by_cases hu : u < 10
    · rw [dif_pos hu, if_pos hu]
    · rw [dif_neg hu, if_neg hu]
      rw [Nat.pow_succ] at h
      have hf : 1 ≤ f := by
        rcases Nat.eq_zero_or_pos f with rfl | h1
        · simp at h; omega
        · exact h1
      rw [digF_eq f (u / 10) hf (by omega)]
theorem digs_eq (u : Nat) (h : u < 18446744073709551616) : Lib.decDigits u = digs u := digF_eq 20 u (by omega) (Nat.lt_trans h (by decide))
theorem itoa_eq (n : Int) (h0 : 0 ≤ n) (h : n < 18446744073709551616) : Lib.itoa n = digs n.toNat := by
  unfold Lib.itoa
  rw [if_neg (by omega), digs_eq _ (by omega)]
theorem digF_range : ∀ (f u : Nat) (c : UInt8), c ∈ digF f u → 48 ≤ c.toNat ∧ c.toNat ≤ 57
  | 0, u, c, h => by simp [digF] at h
  | f + 1, u, c, h => by
    rw [digF] at h
    split at h
    · rename_i hu
      rw [List.mem_singleton] at h
      subst h
      simp
      omega
    · rw [List.mem_append, List.mem_singleton] at h
      rcases h with h | rfl
      · exact digF_range f _ c h
      · simp
        omega
theorem digF_len : ∀ (f u : Nat), (digF f u).length ≤ f
  | 0, u => by simp [digF]
  | f + 1, u => by
    rw [digF]
    split
    · simp
    · have := digF_len f (u / 10)
      simp
      omega
theorem occ_one (s : List UInt8) (c : UInt8) (i : Nat) : Lib.occAt s [c] i = decide (s[i]? = some c) := by
  unfold Lib.occAt
  rw [Bool.eq_iff_iff]
  rw [decide_eq_true_eq, List.getElem?_eq_some_iff]
  cases hd : s.drop i with
  | nil =>
    have : s.length ≤ i := by simpa using hd
    simp
    omega
  | cons x t =>
    have hl : i < s.length := by
      have := congrArg List.length hd
      simp at this
      omega
    have hx : s[i] = x := by
      have := congrArg (fun l => l[0]?) hd
      simpa [hl] using this
    simp [hl, hx]
    exact ⟨Eq.symm, Eq.symm⟩
theorem index_one_hit (a r : List UInt8) (c : UInt8) (h : c ∉ a) : Lib.index (a ++ c :: r) [c] = (a.length : Int) := by
  refine Lib.index_first (by simp) ?_ ?_
  · rw [occ_one]; simp
  · intro j hj
    rw [occ_one, decide_eq_false_iff_not, List.getElem?_append_left hj, List.getElem?_eq_getElem hj]
    intro e
    injection e with e
    exact h (e ▸ List.getElem_mem hj)
theorem index_one_miss (a : List UInt8) (c : UInt8) (h : c ∉ a) : Lib.index a [c] = -1 := by
  refine Lib.index_none fun j hj => ?_
  rw [occ_one, decide_eq_false_iff_not]
  intro e
  exact h (List.mem_of_getElem? e)
theorem split_miss (a : List UInt8) (c : UInt8) (h : c ∉ a) : Lib.split a [c] = [a] := by
  unfold Lib.split
  rw [Lib.count_miss (index_one_miss a c h)]
  rfl
theorem split_hit (a r : List UInt8) (c : UInt8) (h : c ∉ a) : Lib.split (a ++ c :: r) [c] = a :: Lib.split r [c] := by
  have hi := index_one_hit a r c h
  unfold Lib.split
  rw [Lib.count_hit (by simp) hi, Nat.add_comm, Lib.splitK, if_neg (by rw [hi, beq_iff_eq]; omega), hi]
  simp [List.take_left', List.drop_left']
end Go.Proofs.YtndaccekemjdmaaGreatDoor
