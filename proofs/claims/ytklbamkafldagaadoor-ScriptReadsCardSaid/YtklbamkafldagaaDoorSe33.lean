/- Plain facts of the document's reading of a line. -/
import Derived.Test.YtklbamkafldagaaDoorSe32
namespace Go.Proofs.YtklbamkafldagaaDoor
open Go
set_option linter.unusedVariables false
set_option linter.unusedSimpArgs false

/-- what a text's digits come to -/
def valL (d : List UInt8) : Nat := d.foldl (fun n c => 10 * n + (c.toNat - 48)) 0
def digC (c : UInt8) : Prop := 48 ≤ c.toNat ∧ c.toNat ≤ 57
theorem valL_snoc (d : List UInt8) (c : UInt8) : valL (d ++ [c]) = 10 * valL d + (c.toNat - 48) := by unfold valL; rw [List.foldl_append]; rfl
theorem dig_fin : ∀ a : Fin 65, ∀ b : Fin 64, a.val * 64 + b.val ≤ 4096 → (digs (a.val * 64 + b.val)).length ≤ 4 ∧ digs (a.val * 64 + b.val) ≠ [] ∧ valL (digs (a.val * 64 + b.val)) = a.val * 64 + b.val ∧ valL ((digs (a.val * 64 + b.val)).take 0) ≤ 4096 ∧ valL ((digs (a.val * 64 + b.val)).take 1) ≤ 4096 ∧ valL ((digs (a.val * 64 + b.val)).take 2) ≤ 4096 ∧ valL ((digs (a.val * 64 + b.val)).take 3) ≤ 4096 := by decide +kernel
theorem dig_val (n : Nat) (h : n ≤ 4096) : digs n ≠ [] ∧ valL (digs n) = n ∧ ∀ j, valL ((digs n).take j) ≤ 4096 := by
  have := dig_fin ⟨n / 64, by omega⟩ ⟨n % 64, by omega⟩
  simp only at this
  rw [show n / 64 * 64 + n % 64 = n by omega] at this
  obtain ⟨h1, h2, h3, h4, h5, h6, h7⟩ := this h
  refine ⟨h2, h3, fun j => ?_⟩
  match j with
  | 0 => exact h4
  | 1 => exact h5
  | 2 => exact h6
  | 3 => exact h7
  | j + 4 => rw [List.take_of_length_le (by omega), h3]; exact h
theorem first_true (f : Nat → Bool) : ∀ n, (∃ j, j ≤ n ∧ f j = true) → ∃ i, i ≤ n ∧ f i = true ∧ ∀ j, j < i → f j = false
  | 0, ⟨j, hj, h⟩ => ⟨0, Nat.le_refl _, by obtain rfl : j = 0 := by omega
                                           exact h, fun j hj => by omega⟩
  | n + 1, ⟨j, hj, h⟩ => by
    by_cases hn : ∃ j, j ≤ n ∧ f j = true
    · obtain ⟨i, h1, h2, h3⟩ := first_true f n hn
      exact ⟨i, by omega, h2, h3⟩
    · refine ⟨n + 1, Nat.le_refl _, ?_, fun k hk => ?_⟩
      · obtain rfl : j = n + 1 := by
          by_cases e : j = n + 1
          · exact e
          · exact absurd ⟨j, by omega, h⟩ hn
        exact h
      · cases hf : f k with
        | false => rfl
        | true => exact absurd ⟨k, by omega, hf⟩ hn
theorem index_hit (s sub : List UInt8) : Lib.index s sub = -1 ∨ ∃ i : Nat, Lib.index s sub = (i : Int) ∧ Lib.occAt s sub i = true := by
  by_cases h : ∃ j, j ≤ s.length ∧ Lib.occAt s sub j = true
  · obtain ⟨i, h1, h2, h3⟩ := first_true (fun j => Lib.occAt s sub j) s.length h
    exact .inr ⟨i, Lib.index_first h1 h2 h3, h2⟩
  · refine .inl (Lib.index_none fun j hj => ?_)
    cases hf : Lib.occAt s sub j with
    | false => rfl
    | true => exact absurd ⟨j, hj, hf⟩ h
theorem cut_true {s a d : List UInt8} (h : Lib.cut s star = (a, d, true)) : s = a ++ star ++ d := by
  unfold Lib.cut at h
  split at h
  · rename_i hi
    simp only [Prod.mk.injEq] at h
    obtain ⟨h1, h2, _⟩ := h
    rcases index_hit s star with e | ⟨i, e, ho⟩
    · rw [e] at hi; omega
    · rw [e] at h1 h2
      unfold Lib.occAt at ho
      obtain ⟨t, ht⟩ := List.isPrefixOf_iff_prefix.1 ho
      have : s = s.take i ++ s.drop i := (List.take_append_drop i s).symm
      rw [← ht] at this
      have h1' : s.take i = a := by simpa using h1
      have h2' : t = d := by
        have e9 : s.drop (i + 3) = t := by
          rw [← List.drop_drop, ← ht]
          rfl
        rw [← e9, ← h2]
        simp [star]
      rw [h1', h2'] at this
      rw [List.append_assoc]
      exact this
  · simp at h
theorem cut_false {s a d : List UInt8} (h : Lib.cut s star = (a, d, false)) : s = a := by
  unfold Lib.cut at h
  split at h
  · simp at h
  · simp only [Prod.mk.injEq] at h
    exact h.1
/-- what is read is written so -/
theorem read1_back {s : List UInt8} {e : Ev} (h : read1 s = some e) : s = lineE e := by
  unfold read1 at h
  rcases hc : Lib.cut s star with ⟨a, d, f⟩
  rw [hc] at h
  simp only at h
  cases hl : look a with
  | none => rw [hl] at h; cases h
  | some x =>
    rw [hl] at h
    simp only at h
    obtain ⟨hx, hn⟩ := look_sgl hl
    have h1 := (sgl_ok x hx).2
    cases f with
    | true =>
      simp only [if_true] at h
      rw [Option.map_eq_some_iff] at h
      obtain ⟨n, ht, rfl⟩ := h
      obtain ⟨n1, _, hd⟩ := timesE_in ht
      rw [cut_true hc]
      unfold lineE
      rw [nmE_tms, hn]
      have e9 : (tms x n).n = n := rfl
      rw [e9, if_neg (by omega), hd]
    | false =>
      simp only [Bool.false_eq_true, if_false] at h
      injection h with h
      subst h
      rw [cut_false hc]
      unfold lineE
      rw [if_pos h1, hn]
theorem read1_none {s : List UInt8} (h : ∀ e, okE e = true → s ≠ lineE e) : read1 s = none := by
  cases h1 : read1 s with
  | none => rfl
  | some e => exact absurd (read1_back h1) (h e (read1_ok h1))
theorem read1_some {s : List UInt8} {e : Ev} (he : okE e = true) (h : s = lineE e) : read1 s = some e := by rw [h]; exact read1_line he
/-- a name with a number behind it is no other's line -/
theorem head_only {x e : Ev} {d : List UInt8} (hx : x ∈ sgl) (he : okE e = true) (h : nmE x ++ star ++ d = lineE e) : e = tms x e.n ∧ 2 ≤ e.n ∧ e.n ≤ 4096 ∧ d = digs e.n.toNat := by
  obtain ⟨h1, h2, h3, h4, _⟩ := okE_name he
  obtain ⟨e1, e2, _⟩ := (okE_iff e).1 he
  have hs := sgl_plain x hx
  have c1 := cut_hit (nmE x) d hs.2.1
  rw [h] at c1
  unfold lineE at c1
  split at c1
  · rw [cut_miss _ h2] at c1
    simp at c1
  · rename_i hn
    rw [cut_hit _ _ h2] at c1
    simp only [Prod.mk.injEq, and_true] at c1
    obtain ⟨c2, c3⟩ := c1
    have hl := hs.2.2.2.1
    rw [← c2, h4] at hl
    injection hl with hl
    refine ⟨?_, by omega, e2, c3.symm⟩
    rw [← hl]
    rfl
/-- no head fits: the line is none's -/
theorem no_head {s : List UInt8} (h : ∀ x ∈ sgl, s ≠ nmE x ∧ ¬ (s.length > (nmE x).length + 3 ∧ s.take ((nmE x).length + 3) = nmE x ++ star)) : read1 s = none := by
  refine read1_none fun e he hs => ?_
  obtain ⟨e1, e2, e3⟩ := (okE_iff e).1 he
  obtain ⟨h1, h2⟩ := h (one e) e3
  rw [nmE_one] at h1 h2
  unfold lineE at hs
  split at hs
  · exact h1 hs
  · rename_i hn
    refine h2 ⟨?_, ?_⟩
    · have := (dig_val e.n.toNat (by omega)).1
      have hl : 0 < (digs e.n.toNat).length := List.length_pos_iff.2 this
      rw [hs]
      simp only [List.length_append, star, List.length_cons, List.length_nil]
      omega
    · rw [hs]
      have : (nmE e ++ star).length = (nmE e).length + 3 := by simp [star]
      rw [← this, List.take_left']
      rfl
/-- a digit that is none -/
theorem bad_digit {x : Ev} {d : List UInt8} (hx : x ∈ sgl) (j : Nat) (hj : j < d.length) (hb : ¬ digC d[j]) : read1 (nmE x ++ star ++ d) = none := by
  refine read1_none fun e he hs => ?_
  obtain ⟨_, _, _, hd⟩ := head_only hx he hs
  subst hd
  exact hb (digF_range _ _ _ (List.getElem_mem hj))
/-- the digits came to what is no event's -/
theorem bad_number {x : Ev} {d : List UInt8} (hx : x ∈ sgl) (j : Nat) (hj : 4096 < valL (d.take j) ∨ d.length ≤ j) (hno : ¬ (valL (d.take j) ≠ 1 ∧ okE (tms x (valL (d.take j) : Nat)) = true ∧ lineE (tms x (valL (d.take j) : Nat)) = nmE x ++ star ++ d)) : read1 (nmE x ++ star ++ d) = none := by
  refine read1_none fun e he hs => ?_
  obtain ⟨h1, h2, h3, hd⟩ := head_only hx he hs
  obtain ⟨g1, g2, g3⟩ := dig_val e.n.toNat (by omega)
  rcases hj with hj | hj
  · have := g3 j
    rw [← hd] at this
    omega
  · rw [List.take_of_length_le hj] at hno
    have hv : valL d = e.n.toNat := by rw [hd]; exact g2
    rw [hv] at hno
    have e9 : tms x ((e.n.toNat : Nat) : Int) = e := by rw [show ((e.n.toNat : Nat) : Int) = e.n by omega]; exact h1.symm
    rw [e9] at hno
    exact hno ⟨by omega, he, hs.symm⟩
end Go.Proofs.YtklbamkafldagaaDoor
