/- A law of an append of however many elements of three cells, none too; where one goes in a sorted list. -/
import Derived.Test.YtamnfgpoelbgcaaV12
namespace Go.Proofs.Ytamnfgpoelbgcaa
open Go.RowKit
set_option linter.unusedVariables false
set_option linter.unusedSimpArgs false

theorem run_append_none {w : World} (ty : TypeId) (v : Value) (n c : Nat) (xs : List Value) (base : Nat) (hown : w.ownsRow base 41 3 v n xs) :
    (Builtin.append_ #[22, 22] ty #[v, .slice none 0 c]).run Try.prog w = .ok v w := by
  obtain ⟨i0, hi, hz0, hz1, hz2⟩ := info_parts info_sc
  obtain ⟨_, ⟨rfl, rfl⟩ | ⟨g, cap, cur, rfl, _, hg, hc, hm, _, _⟩⟩ := hown
  · simp [Builtin.append_, run_underlying Try.underlying22, sizeOf, typeInfo, hi, hz1, Builtin.lenOf, Builtin.firstCells, storeCells]
  · have h1 : ¬ (9223372036854775807 < (n : Int)) := by unfold maxLen at hm; omega
    have hl : ∀ (x : Addr), (loadCells x 0).run Try.prog w = .ok #[] w := fun x => by simpa using run_loadCells_list (P := Try.prog) w x [] (by simp)
    simp [Builtin.append_, run_underlying Try.underlying22, sizeOf, typeInfo, hi, hz1, Builtin.lenOf, Builtin.firstCells, storeCells, hc, hl, h1]
theorem wp_appendk {w : World} {o : Oper} {a : Act} {K : Act → World → Prop} {Q : Exit → Act → World → Prop} (s x : Operand)
    (ho : o.op = .call { callee := .builtin .append, args := #[s, x], argTypes := #[22, 22] })
    (base : Nat) (A : Option Addr) (cap n : Nat) (xs : List Value) (hs : a.eval s = .slice A n cap) (hown : w.ownsRow base 41 3 (.slice A n cap) n xs)
    (Ao : Option Addr) (m c : Nat) (news : List Value) (hx : a.eval x = .slice Ao m c) (hl : news.length = m * 3) (hpos : 0 < m → ∃ b off, Ao = some ⟨b, off, none⟩ ∧ ∀ j u, news[j]? = some u → w.cell? ⟨b, off + j, none⟩ = some u) (h1 : ∀ u ∈ news, u.oneCell' = true)
    (hsm : n + m ≤ 2000000000) (hbase : base ≤ w.heap.size)
    (h : ∀ A' cap' w', w'.ownsRow base 41 3 (.slice A' (n + m) cap') (n + m) (xs ++ news) → w.grownBy w' (A.map fun a => a.block) → Below base w w' → w.heap.size ≤ w'.heap.size → K (a.put o.dst (.slice A' (n + m) cap')) w') :
    Oper.wp Try.prog o a w K Q := by
  obtain ⟨i0, hi, hz0, hz1, hz2⟩ := info_parts info_sc
  have key : ∃ A' cap' w', (Builtin.append_ #[22, 22] o.type #[.slice A n cap, .slice Ao m c]).run Try.prog w = .ok (.slice A' (n + m) cap') w' ∧ w'.ownsRow base 41 3 (.slice A' (n + m) cap') (n + m) (xs ++ news) ∧ w.grownBy w' (A.map fun a => a.block) ∧ Below base w w' := by
    have hob : (Value.slice A n cap).ownBlock = A.map fun a => a.block := by cases A <;> rfl
    by_cases hm : 0 < m
    · obtain ⟨b, off, rfl, hc⟩ := hpos hm
      obtain ⟨g, cap', w', h2, h3, h4, _, _⟩ := run_append_lies (P := Try.prog) w 22 o.type base 41 i0 _ 3 24 Try.underlying22 hi hz0 hz1 hz2 rfl (by omega) (.slice A n cap) n xs hown ⟨b, off, none⟩ m c news hl (fun j u hj => by rw [add_form]; exact hc j u hj) h1 hm (by unfold maxLen; omega) (by omega) hbase _ rfl
      exact ⟨_, cap', w', h2, h3, by rw [← hob]; exact h4, (Below.refl _ _).grown h4 hbase (fun k hk => (hown.lt k hk).1)⟩
    · obtain rfl : m = 0 := by omega
      obtain rfl : news = [] := List.eq_nil_of_length_eq_zero (by omega)
      cases Ao with
      | none => exact ⟨A, cap, w, run_append_none _ _ n c xs base hown, by simpa using hown, ⟨rfl, rfl, rfl, Nat.le_refl _, fun _ _ _ => rfl⟩, Below.refl _ _⟩
      | some ad =>
        obtain ⟨v', w', h2, h3, h4, h5, _⟩ := run_append_own_at (P := Try.prog) w base 22 o.type 41 i0 _ 3 24 Try.underlying22 hi hz0 hz1 hz2 rfl (by omega) (.slice A n cap) n xs hown ad 0 c [] (by simp) (fun j u hj => by simp at hj) (by simp) (by unfold maxLen; omega) (by omega) hbase
        have hb := (Below.refl base w).grown h4 hbase (fun k hk => (hown.lt k hk).1)
        rcases h3.2 with ⟨e, e2⟩ | ⟨g, cap', cur, e, _⟩
        · obtain rfl : n = 0 := by omega
          rw [e] at h2 h3
          exact ⟨none, 0, w', h2, by simpa using h3, by rw [← hob]; exact h4, hb⟩
        · rw [e] at h2 h3
          exact ⟨_, cap', w', h2, by simpa using h3, by rw [← hob]; exact h4, hb⟩
  obtain ⟨A', cap', w', h2, h3, h5, h4⟩ := key
  unfold Oper.wp execOp
  simp only [ho, resolve, invoke, builtin, Sem.run_bind, Sem.run_pure, Result.andThen_ok, List.map_toArray, List.map_cons, List.map_nil, hs, hx, h2]
  exact h A' cap' w' h3 h5 h4 h4.size
theorem bh_lt {l : List Sc} {x : Int} {j : Nat} (h : j < bh l x) : (nthC l j).a ≤ x := by
  have hb := bh_le l x
  refine bh_before l x _ ?_
  rw [← nthC_take l _ j h]
  exact nthC_mem _ _ (by rw [List.length_take]; omega)
theorem bh_ge {l : List Sc} (hg : Good l) {x : Int} {j : Nat} (h : bh l x ≤ j) (hj : j < l.length) : x < (nthC l j).a := by
  refine hg.behind x _ ?_
  have e : nthC l j = nthC (l.drop (bh l x)) (j - bh l x) := by rw [nthC_drop]; congr 1; omega
  rw [e]
  exact nthC_mem _ _ (by rw [List.length_drop]; omega)
theorem refC_tw {l : List Sc} {s : Sc} (h1 : okc s = true) (h2 : tw l s = true) : refC l s = 4 := by unfold refC; simp [h1, h2]
theorem refC_full {l : List Sc} {s : Sc} (h1 : okc s = true) (h2 : tw l s = false) (h3 : l.length = 64) : refC l s = 6 := by unfold refC; simp [h1, h2, h3]
theorem refC_bad {l : List Sc} {s : Sc} (h1 : okc s = false) : refC l s = 2 := by unfold refC; simp [h1]
end Go.Proofs.Ytamnfgpoelbgcaa
