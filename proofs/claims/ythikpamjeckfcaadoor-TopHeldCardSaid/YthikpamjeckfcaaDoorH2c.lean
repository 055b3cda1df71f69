/- A step of a region: a piece of a row that stood before is appended to a row of the region's own; nothing that stood before turns. -/
import Derived.Test.YthikpamjeckfcaaDoorH2b
namespace Go.Proofs.YthikpamjeckfcaaDoor
open Go.RowKit
set_option linter.unusedVariables false
set_option linter.unusedSimpArgs false

/-- the row of no numbers that '[]int{}' lays -/
theorem own_blank {W : World} {B g : Nat} (hB : B ≤ g) (h : W.heap[g]? = some (.cells #[] 3 (0, 0))) : W.ownsRow B 3 1 (.slice (some ⟨g, 0, none⟩) 0 0) 0 [] :=
  ⟨rfl, .inr ⟨g, 0, #[], rfl, hB, h, Nat.le_refl _, by decide, rfl, rfl⟩⟩
theorem natv_getD (xs : List Nat) (j : Nat) (u : Value) (h : (natv xs)[j]? = some u) : j < xs.length ∧ u = .int .i64 (xs.getD j 0 : Nat) := by
  have hj : j < xs.length := by
    have := (List.getElem?_eq_some_iff.mp h).1
    simpa [natv] using this
  refine ⟨hj, ?_⟩
  rw [natv_at xs j hj] at h
  injection h with h
  exact h.symm
theorem step_cut {ops : Array Oper} {o : Oper} {a : Act} {K : Act → World → Prop} {Q : Exit → Act → World → Prop} {E : Prop} (w : World) (hgd : o.guard = none) (s x : Operand)
    (ho : o.op = .call { callee := .builtin .append, args := #[s, x], argTypes := #[22, 22] })
    (wz : World) (hb : Below wz.heap.size wz w) (a0 : Addr) (c0 n : Nat) (xs : List Nat) (hs : a.eval s = .slice (some a0) n c0) (hown : w.ownsRow wz.heap.size 3 1 (.slice (some a0) n c0) n (natv xs))
    (g0 lo m c : Nat) (hx : a.eval x = .slice (some ⟨g0, lo, none⟩) m c) (hlt : g0 < wz.heap.size) (news : List Nat) (hl : news.length = m)
    (hc : ∀ j, j < m → wz.cell? ⟨g0, lo + j, none⟩ = some (.int .i64 (news.getD j 0 : Nat))) (h63 : n + m ≤ 4096)
    (h : ∀ g cap w', w'.ownsRow wz.heap.size 3 1 (.slice (some ⟨g, 0, none⟩) (n + m) cap) (n + m) (natv (xs ++ news)) → Below wz.heap.size wz w' → w.grownBy w' (some a0.block) → (a0.block = g ∨ g = w.heap.size) → g < w'.heap.size → K (a.put o.dst (.slice (some ⟨g, 0, none⟩) (n + m) cap)) w') :
    if Region.wanted o (yielded ops a.tmps) = true then Oper.wp Tryd.prog o a w K Q else E := by
  obtain ⟨i0, hi, hz0, hz1, hz2⟩ := info_parts info_int
  have hB0 : wz.heap.size ≤ a0.block := (hown.lt a0.block rfl).1
  refine step_append_row w hgd s x 22 ho wz.heap.size 3 i0 _ 1 8 Tryd.underlying22 hi hz0 hz1 hz2 rfl Nat.zero_lt_one a0 c0 n (natv xs) hs hown ⟨g0, lo, none⟩ m c (natv news) hx (by rw [length_natv, hl, Nat.mul_one]) ?_ (natv_one news) (Nat.le_trans h63 (by decide)) (by omega) hb.size _ rfl ?_
  · intro j u hj
    obtain ⟨h1, rfl⟩ := natv_getD news j u hj
    rw [show (⟨g0, lo, none⟩ : Addr).add j = ⟨g0, lo + j, none⟩ from by unfold Addr.add; split <;> simp_all]
    exact (hb.cell (p := ⟨g0, lo + j, none⟩) hlt).trans (hc j (by omega))
  · intro g cap w' h1 h2 h3 h4
    refine h g cap w' (by unfold natv at h1 ⊢; rw [List.map_append]; exact h1) (Below.grown hb h2 hb.size (fun k e => by injection e with e; omega)) h2 h3 h4
theorem getD_take (xs : List Nat) (t j : Nat) (h : j < t) : (xs.take t).getD j 0 = xs.getD j 0 := by
  simp only [List.getD_eq_getElem?_getD]
  rw [List.getElem?_take, if_pos h]
theorem getD_drop (xs : List Nat) (t j : Nat) : (xs.drop t).getD j 0 = xs.getD (t + j) 0 := by
  simp only [List.getD_eq_getElem?_getD]
  rw [List.getElem?_drop]
theorem bl1 (w : World) (o : Obj) : (w.alloc o).heap[w.heap.size]? = some o := by
  show (w.heap.push o)[w.heap.size]? = some o
  rw [Array.getElem?_push, if_pos rfl]
theorem bl1b (w : World) (o o' : Obj) : ((w.alloc o).alloc o').heap[w.heap.size]? = some o := by
  show ((w.heap.push o).push o')[w.heap.size]? = some o
  rw [Array.getElem?_push, if_neg (by simp), Array.getElem?_push, if_pos rfl]
theorem bl2 (w : World) (o o' : Obj) : ((w.alloc o).alloc o').heap[w.heap.size + 1]? = some o' := by
  have := bl1 (w.alloc o) o'
  rwa [World.size_alloc] at this
end Go.Proofs.YthikpamjeckfcaaDoor
