/- AM2, in one text: As2a, As6, As7, As8, As9. -/
import Derived.Test.YtggaijdbaplfiaaGreatDoorAM1
import Derived.Lib.Hide
import Derived.Laws.StructEq
/- Rows that grow: of operands, places, words, commands. -/
namespace Go.Proofs.YtggaijdbaplfiaaGreatDoor
open Go.RowKit
set_option linter.unusedVariables false
set_option linter.unusedSimpArgs false
set_option maxRecDepth 100000
theorem fl_lies (w : World) (cs : List Value) (t : TypeId) : ∀ j u, cs[j]? = some u → (w.alloc (.cells cs.toArray t)).cell? ⟨w.heap.size, 0 + j, none⟩ = some u := by
  intro j u hj
  rw [Nat.zero_add, cell_of_row _ _ j _ _ _ (heap_alloc_new w (.cells cs.toArray t)), ← hj]
  simp
theorem fl_liesG (w : World) (g : Nat) (hg : w.heap.size = g) (cs : List Value) (t : TypeId) : ∀ j u, cs[j]? = some u → (w.alloc (.cells cs.toArray t)).cell? ⟨g, 0 + j, none⟩ = some u := by
  subst hg
  exact fl_lies w cs t
theorem info_O : (Tryz.prog.info? 95).map (fun i => (i.zero, i.size, i.bytes)) = some (some (.int .i64 0), 1, 8) := by kernel_rfl
theorem owns_laterO {w w' : World} {B n : Nat} {v : Value} {xs : List Value} (h : w.ownsRow B 95 1 v n xs) (hb : Below w.heap.size w w') : w'.ownsRow B 95 1 v n xs := by
  refine World.ownsRow.kept (row := none) h ⟨hb.os, hb.tape, hb.output, hb.size, fun k hk _ => hb.block k hk⟩ ?_
  cases hv : v.ownBlock
  · exact .inl rfl
  · exact .inr (by simp)
theorem run_append_noneO {w : World} (ty : TypeId) (v : Value) (n c : Nat) (xs : List Value) (base : Nat) (hown : w.ownsRow base 95 1 v n xs) :
    (Builtin.append_ #[103, 103] ty #[v, .slice none 0 c]).run Tryz.prog w = .ok v w := by
  obtain ⟨i0, hi, hz0, hz1, hz2⟩ := info_parts info_O
  obtain ⟨_, ⟨rfl, rfl⟩ | ⟨g, cap, cur, rfl, _, hg, hc, hm, _, _⟩⟩ := hown
  · simp [Builtin.append_, run_underlying Tryz.underlying103, sizeOf, typeInfo, hi, hz1, Builtin.lenOf, Builtin.firstCells, storeCells]
  · have h1 : ¬ (9223372036854775807 < (n : Int)) := by unfold maxLen at hm; omega
    have hl : ∀ (x : Addr), (loadCells x 0).run Tryz.prog w = .ok #[] w := fun x => by simpa using run_loadCells_list (P := Tryz.prog) w x [] (by simp)
    simp [Builtin.append_, run_underlying Tryz.underlying103, sizeOf, typeInfo, hi, hz1, Builtin.lenOf, Builtin.firstCells, storeCells, hc, hl, h1]
theorem wp_appendO {w : World} {o : Oper} {a : Act} {K : Act → World → Prop} {Q : Exit → Act → World → Prop} (s x : Operand)
    (ho : o.op = .call { callee := .builtin .append, args := #[s, x], argTypes := #[103, 103] })
    (base : Nat) (A : Option Addr) (cap n : Nat) (xs : List Value) (hs : a.eval s = .slice A n cap) (hown : w.ownsRow base 95 1 (.slice A n cap) n xs)
    (Ao : Option Addr) (m c : Nat) (news : List Value) (hx : a.eval x = .slice Ao m c) (hl : news.length = m * 1) (hpos : 0 < m → ∃ b off, Ao = some ⟨b, off, none⟩ ∧ ∀ j u, news[j]? = some u → w.cell? ⟨b, off + j, none⟩ = some u) (h1 : ∀ u ∈ news, u.oneCell' = true)
    (hsm : n + m ≤ 100000) (hbase : base ≤ w.heap.size)
    (h : ∀ A' cap' w', w'.ownsRow base 95 1 (.slice A' (n + m) cap') (n + m) (xs ++ news) → w.grownBy w' (A.map fun a => a.block) → Below base w w' → (A' = A ∨ A' = some ⟨w.heap.size, 0, none⟩) → K (a.put o.dst (.slice A' (n + m) cap')) w') :
    Oper.wp Tryz.prog o a w K Q := by
  obtain ⟨i0, hi, hz0, hz1, hz2⟩ := info_parts info_O
  have key : ∃ A' cap' w', (Builtin.append_ #[103, 103] o.type #[.slice A n cap, .slice Ao m c]).run Tryz.prog w = .ok (.slice A' (n + m) cap') w' ∧ w'.ownsRow base 95 1 (.slice A' (n + m) cap') (n + m) (xs ++ news) ∧ w.grownBy w' (A.map fun a => a.block) ∧ Below base w w' ∧ (A' = A ∨ A' = some ⟨w.heap.size, 0, none⟩) := by
    have hob : (Value.slice A n cap).ownBlock = A.map fun a => a.block := by cases A <;> rfl
    by_cases hm : 0 < m
    · obtain ⟨b, off, rfl, hc⟩ := hpos hm
      obtain ⟨g, cap', w', h2, h3, h4, h5, _⟩ := run_append_lies (P := Tryz.prog) w 103 o.type base 95 i0 _ 1 8 Tryz.underlying103 hi hz0 hz1 hz2 rfl (by omega) (.slice A n cap) n xs hown ⟨b, off, none⟩ m c news hl (fun j u hj => by rw [add_form]; exact hc j u hj) h1 hm (by unfold maxLen; omega) (by omega) hbase _ rfl
      refine ⟨_, cap', w', h2, h3, by rw [← hob]; exact h4, (Below.refl _ _).grown h4 hbase (fun k hk => (hown.lt k hk).1), ?_⟩
      rcases h5 with h5 | h5
      · left
        obtain ⟨_, ⟨e1, _⟩ | ⟨g', _, _, e1, _⟩⟩ := hown
        · injection e1 with e1
          subst e1
          cases h5
        · injection e1 with e1
          subst e1
          injection h5 with h5
          have h5' : g' = g := h5
          rw [h5']
      · right
        rw [h5]
    · obtain rfl : m = 0 := by omega
      obtain rfl : news = [] := List.eq_nil_of_length_eq_zero (by omega)
      cases Ao with
      | none => exact ⟨A, cap, w, run_append_noneO _ _ n c xs base hown, by simpa using hown, ⟨rfl, rfl, rfl, Nat.le_refl _, fun _ _ _ => rfl⟩, Below.refl _ _, .inl rfl⟩
      | some ad =>
        have hl : ∀ (x : Addr), (loadCells x 0).run Tryz.prog w = .ok #[] w := fun x => by simpa using run_loadCells_list (P := Tryz.prog) w x [] (by simp)
        have h2 : (Builtin.append_ #[103, 103] o.type #[.slice A n cap, .slice (some ad) 0 c]).run Tryz.prog w = .ok (.slice A n cap) w := by
          obtain ⟨_, ⟨e1, rfl⟩ | ⟨g, cap', cur, e1, _, hg, hc, hm, _, _⟩⟩ := id hown
          · injection e1 with e1 _ e3
            subst e1 e3
            simp [Builtin.append_, run_underlying Tryz.underlying103, sizeOf, typeInfo, hi, hz1, Builtin.lenOf, Builtin.firstCells, storeCells, hl]
          · injection e1 with e1 _ e3
            subst e1 e3
            have h1 : ¬ (9223372036854775807 < (n : Int)) := by unfold maxLen at hm; omega
            simp [Builtin.append_, run_underlying Tryz.underlying103, sizeOf, typeInfo, hi, hz1, Builtin.lenOf, Builtin.firstCells, storeCells, hc, hl, h1]
        exact ⟨A, cap, w, h2, by simpa using hown, ⟨rfl, rfl, rfl, Nat.le_refl _, fun _ _ _ => rfl⟩, Below.refl _ _, .inl rfl⟩
  obtain ⟨A', cap', w', h2, h3, h5, h4, h6⟩ := key
  unfold Oper.wp execOp
  simp only [ho, resolve, invoke, builtin, Sem.run_bind, Sem.run_pure, Result.andThen_ok, List.map_toArray, List.map_cons, List.map_nil, hs, hx, h2]
  exact h A' cap' w' h3 h5 h4 h6
theorem wpList_appendO {w : World} {ops : Array Oper} {rest : List Oper} {o : Oper} {a : Act} {Q : Exit → Act → World → Prop} (hgd : o.guard = none) (s x : Operand)
    (ho : o.op = .call { callee := .builtin .append, args := #[s, x], argTypes := #[103, 103] })
    (base : Nat) (A : Option Addr) (cap n : Nat) (xs : List Value) (hs : a.eval s = .slice A n cap) (hown : w.ownsRow base 95 1 (.slice A n cap) n xs)
    (Ao : Option Addr) (m c : Nat) (news : List Value) (hx : a.eval x = .slice Ao m c) (hl : news.length = m * 1) (hpos : 0 < m → ∃ b off, Ao = some ⟨b, off, none⟩ ∧ ∀ j u, news[j]? = some u → w.cell? ⟨b, off + j, none⟩ = some u) (h1 : ∀ u ∈ news, u.oneCell' = true)
    (hsm : n + m ≤ 100000) (hbase : base ≤ w.heap.size)
    (h : ∀ A' cap' w', w'.ownsRow base 95 1 (.slice A' (n + m) cap') (n + m) (xs ++ news) → w.grownBy w' (A.map fun a => a.block) → Below base w w' → (A' = A ∨ A' = some ⟨w.heap.size, 0, none⟩) → wpList Tryz.prog ops Q rest (a.put o.dst (.slice A' (n + m) cap')) w') : wpList Tryz.prog ops Q (o :: rest) a w :=
  wpList_plain hgd fun _ hK => wp_appendO s x ho base A cap n xs hs hown Ao m c news hx hl hpos h1 hsm hbase fun A' cap' w' h2 h3 h4 h5 => hK _ _ (h A' cap' w' h2 h3 h4 h5)
theorem info_G : (Tryz.prog.info? 3).map (fun i => (i.zero, i.size, i.bytes)) = some (some (.int .i64 0), 1, 8) := by kernel_rfl
theorem owns_laterG {w w' : World} {B n : Nat} {v : Value} {xs : List Value} (h : w.ownsRow B 3 1 v n xs) (hb : Below w.heap.size w w') : w'.ownsRow B 3 1 v n xs := by
  refine World.ownsRow.kept (row := none) h ⟨hb.os, hb.tape, hb.output, hb.size, fun k hk _ => hb.block k hk⟩ ?_
  cases hv : v.ownBlock
  · exact .inl rfl
  · exact .inr (by simp)
theorem run_append_noneG {w : World} (ty : TypeId) (v : Value) (n c : Nat) (xs : List Value) (base : Nat) (hown : w.ownsRow base 3 1 v n xs) :
    (Builtin.append_ #[83, 83] ty #[v, .slice none 0 c]).run Tryz.prog w = .ok v w := by
  obtain ⟨i0, hi, hz0, hz1, hz2⟩ := info_parts info_G
  obtain ⟨_, ⟨rfl, rfl⟩ | ⟨g, cap, cur, rfl, _, hg, hc, hm, _, _⟩⟩ := hown
  · simp [Builtin.append_, run_underlying Tryz.underlying83, sizeOf, typeInfo, hi, hz1, Builtin.lenOf, Builtin.firstCells, storeCells]
  · have h1 : ¬ (9223372036854775807 < (n : Int)) := by unfold maxLen at hm; omega
    have hl : ∀ (x : Addr), (loadCells x 0).run Tryz.prog w = .ok #[] w := fun x => by simpa using run_loadCells_list (P := Tryz.prog) w x [] (by simp)
    simp [Builtin.append_, run_underlying Tryz.underlying83, sizeOf, typeInfo, hi, hz1, Builtin.lenOf, Builtin.firstCells, storeCells, hc, hl, h1]
theorem wp_appendG {w : World} {o : Oper} {a : Act} {K : Act → World → Prop} {Q : Exit → Act → World → Prop} (s x : Operand)
    (ho : o.op = .call { callee := .builtin .append, args := #[s, x], argTypes := #[83, 83] })
    (base : Nat) (A : Option Addr) (cap n : Nat) (xs : List Value) (hs : a.eval s = .slice A n cap) (hown : w.ownsRow base 3 1 (.slice A n cap) n xs)
    (Ao : Option Addr) (m c : Nat) (news : List Value) (hx : a.eval x = .slice Ao m c) (hl : news.length = m * 1) (hpos : 0 < m → ∃ b off, Ao = some ⟨b, off, none⟩ ∧ ∀ j u, news[j]? = some u → w.cell? ⟨b, off + j, none⟩ = some u) (h1 : ∀ u ∈ news, u.oneCell' = true)
    (hsm : n + m ≤ 100000) (hbase : base ≤ w.heap.size)
    (h : ∀ A' cap' w', w'.ownsRow base 3 1 (.slice A' (n + m) cap') (n + m) (xs ++ news) → w.grownBy w' (A.map fun a => a.block) → Below base w w' → (A' = A ∨ A' = some ⟨w.heap.size, 0, none⟩) → K (a.put o.dst (.slice A' (n + m) cap')) w') :
    Oper.wp Tryz.prog o a w K Q := by
  obtain ⟨i0, hi, hz0, hz1, hz2⟩ := info_parts info_G
  have key : ∃ A' cap' w', (Builtin.append_ #[83, 83] o.type #[.slice A n cap, .slice Ao m c]).run Tryz.prog w = .ok (.slice A' (n + m) cap') w' ∧ w'.ownsRow base 3 1 (.slice A' (n + m) cap') (n + m) (xs ++ news) ∧ w.grownBy w' (A.map fun a => a.block) ∧ Below base w w' ∧ (A' = A ∨ A' = some ⟨w.heap.size, 0, none⟩) := by
    have hob : (Value.slice A n cap).ownBlock = A.map fun a => a.block := by cases A <;> rfl
    by_cases hm : 0 < m
    · obtain ⟨b, off, rfl, hc⟩ := hpos hm
      obtain ⟨g, cap', w', h2, h3, h4, h5, _⟩ := run_append_lies (P := Tryz.prog) w 83 o.type base 3 i0 _ 1 8 Tryz.underlying83 hi hz0 hz1 hz2 rfl (by omega) (.slice A n cap) n xs hown ⟨b, off, none⟩ m c news hl (fun j u hj => by rw [add_form]; exact hc j u hj) h1 hm (by unfold maxLen; omega) (by omega) hbase _ rfl
      refine ⟨_, cap', w', h2, h3, by rw [← hob]; exact h4, (Below.refl _ _).grown h4 hbase (fun k hk => (hown.lt k hk).1), ?_⟩
      rcases h5 with h5 | h5
      · left
        obtain ⟨_, ⟨e1, _⟩ | ⟨g', _, _, e1, _⟩⟩ := hown
        · injection e1 with e1
          subst e1
          cases h5
        · injection e1 with e1
          subst e1
          injection h5 with h5
          have h5' : g' = g := h5
          rw [h5']
      · right
        rw [h5]
    · obtain rfl : m = 0 := by omega
      obtain rfl : news = [] := List.eq_nil_of_length_eq_zero (by omega)
      cases Ao with
      | none => exact ⟨A, cap, w, run_append_noneG _ _ n c xs base hown, by simpa using hown, ⟨rfl, rfl, rfl, Nat.le_refl _, fun _ _ _ => rfl⟩, Below.refl _ _, .inl rfl⟩
      | some ad =>
        have hl : ∀ (x : Addr), (loadCells x 0).run Tryz.prog w = .ok #[] w := fun x => by simpa using run_loadCells_list (P := Tryz.prog) w x [] (by simp)
        have h2 : (Builtin.append_ #[83, 83] o.type #[.slice A n cap, .slice (some ad) 0 c]).run Tryz.prog w = .ok (.slice A n cap) w := by
          obtain ⟨_, ⟨e1, rfl⟩ | ⟨g, cap', cur, e1, _, hg, hc, hm, _, _⟩⟩ := id hown
          · injection e1 with e1 _ e3
            subst e1 e3
            simp [Builtin.append_, run_underlying Tryz.underlying83, sizeOf, typeInfo, hi, hz1, Builtin.lenOf, Builtin.firstCells, storeCells, hl]
          · injection e1 with e1 _ e3
            subst e1 e3
            have h1 : ¬ (9223372036854775807 < (n : Int)) := by unfold maxLen at hm; omega
            simp [Builtin.append_, run_underlying Tryz.underlying83, sizeOf, typeInfo, hi, hz1, Builtin.lenOf, Builtin.firstCells, storeCells, hc, hl, h1]
        exact ⟨A, cap, w, h2, by simpa using hown, ⟨rfl, rfl, rfl, Nat.le_refl _, fun _ _ _ => rfl⟩, Below.refl _ _, .inl rfl⟩
  obtain ⟨A', cap', w', h2, h3, h5, h4, h6⟩ := key
  unfold Oper.wp execOp
  simp only [ho, resolve, invoke, builtin, Sem.run_bind, Sem.run_pure, Result.andThen_ok, List.map_toArray, List.map_cons, List.map_nil, hs, hx, h2]
  exact h A' cap' w' h3 h5 h4 h6
theorem wpList_appendG {w : World} {ops : Array Oper} {rest : List Oper} {o : Oper} {a : Act} {Q : Exit → Act → World → Prop} (hgd : o.guard = none) (s x : Operand)
    (ho : o.op = .call { callee := .builtin .append, args := #[s, x], argTypes := #[83, 83] })
    (base : Nat) (A : Option Addr) (cap n : Nat) (xs : List Value) (hs : a.eval s = .slice A n cap) (hown : w.ownsRow base 3 1 (.slice A n cap) n xs)
    (Ao : Option Addr) (m c : Nat) (news : List Value) (hx : a.eval x = .slice Ao m c) (hl : news.length = m * 1) (hpos : 0 < m → ∃ b off, Ao = some ⟨b, off, none⟩ ∧ ∀ j u, news[j]? = some u → w.cell? ⟨b, off + j, none⟩ = some u) (h1 : ∀ u ∈ news, u.oneCell' = true)
    (hsm : n + m ≤ 100000) (hbase : base ≤ w.heap.size)
    (h : ∀ A' cap' w', w'.ownsRow base 3 1 (.slice A' (n + m) cap') (n + m) (xs ++ news) → w.grownBy w' (A.map fun a => a.block) → Below base w w' → (A' = A ∨ A' = some ⟨w.heap.size, 0, none⟩) → wpList Tryz.prog ops Q rest (a.put o.dst (.slice A' (n + m) cap')) w') : wpList Tryz.prog ops Q (o :: rest) a w :=
  wpList_plain hgd fun _ hK => wp_appendG s x ho base A cap n xs hs hown Ao m c news hx hl hpos h1 hsm hbase fun A' cap' w' h2 h3 h4 h5 => hK _ _ (h A' cap' w' h2 h3 h4 h5)
theorem info_S : (Tryz.prog.info? 9).map (fun i => (i.zero, i.size, i.bytes)) = some (some (.string ⟨#[]⟩), 1, 16) := by kernel_rfl
theorem owns_laterS {w w' : World} {B n : Nat} {v : Value} {xs : List Value} (h : w.ownsRow B 9 1 v n xs) (hb : Below w.heap.size w w') : w'.ownsRow B 9 1 v n xs := by
  refine World.ownsRow.kept (row := none) h ⟨hb.os, hb.tape, hb.output, hb.size, fun k hk _ => hb.block k hk⟩ ?_
  cases hv : v.ownBlock
  · exact .inl rfl
  · exact .inr (by simp)
theorem run_append_noneS {w : World} (ty : TypeId) (v : Value) (n c : Nat) (xs : List Value) (base : Nat) (hown : w.ownsRow base 9 1 v n xs) :
    (Builtin.append_ #[52, 52] ty #[v, .slice none 0 c]).run Tryz.prog w = .ok v w := by
  obtain ⟨i0, hi, hz0, hz1, hz2⟩ := info_parts info_S
  obtain ⟨_, ⟨rfl, rfl⟩ | ⟨g, cap, cur, rfl, _, hg, hc, hm, _, _⟩⟩ := hown
  · simp [Builtin.append_, run_underlying Tryz.underlying52, sizeOf, typeInfo, hi, hz1, Builtin.lenOf, Builtin.firstCells, storeCells]
  · have h1 : ¬ (9223372036854775807 < (n : Int)) := by unfold maxLen at hm; omega
    have hl : ∀ (x : Addr), (loadCells x 0).run Tryz.prog w = .ok #[] w := fun x => by simpa using run_loadCells_list (P := Tryz.prog) w x [] (by simp)
    simp [Builtin.append_, run_underlying Tryz.underlying52, sizeOf, typeInfo, hi, hz1, Builtin.lenOf, Builtin.firstCells, storeCells, hc, hl, h1]
theorem wp_appendS {w : World} {o : Oper} {a : Act} {K : Act → World → Prop} {Q : Exit → Act → World → Prop} (s x : Operand)
    (ho : o.op = .call { callee := .builtin .append, args := #[s, x], argTypes := #[52, 52] })
    (base : Nat) (A : Option Addr) (cap n : Nat) (xs : List Value) (hs : a.eval s = .slice A n cap) (hown : w.ownsRow base 9 1 (.slice A n cap) n xs)
    (Ao : Option Addr) (m c : Nat) (news : List Value) (hx : a.eval x = .slice Ao m c) (hl : news.length = m * 1) (hpos : 0 < m → ∃ b off, Ao = some ⟨b, off, none⟩ ∧ ∀ j u, news[j]? = some u → w.cell? ⟨b, off + j, none⟩ = some u) (h1 : ∀ u ∈ news, u.oneCell' = true)
    (hsm : n + m ≤ 100000) (hbase : base ≤ w.heap.size)
    (h : ∀ A' cap' w', w'.ownsRow base 9 1 (.slice A' (n + m) cap') (n + m) (xs ++ news) → w.grownBy w' (A.map fun a => a.block) → Below base w w' → (A' = A ∨ A' = some ⟨w.heap.size, 0, none⟩) → K (a.put o.dst (.slice A' (n + m) cap')) w') :
    Oper.wp Tryz.prog o a w K Q := by
  obtain ⟨i0, hi, hz0, hz1, hz2⟩ := info_parts info_S
  have key : ∃ A' cap' w', (Builtin.append_ #[52, 52] o.type #[.slice A n cap, .slice Ao m c]).run Tryz.prog w = .ok (.slice A' (n + m) cap') w' ∧ w'.ownsRow base 9 1 (.slice A' (n + m) cap') (n + m) (xs ++ news) ∧ w.grownBy w' (A.map fun a => a.block) ∧ Below base w w' ∧ (A' = A ∨ A' = some ⟨w.heap.size, 0, none⟩) := by
    have hob : (Value.slice A n cap).ownBlock = A.map fun a => a.block := by cases A <;> rfl
    by_cases hm : 0 < m
    · obtain ⟨b, off, rfl, hc⟩ := hpos hm
      obtain ⟨g, cap', w', h2, h3, h4, h5, _⟩ := run_append_lies (P := Tryz.prog) w 52 o.type base 9 i0 _ 1 16 Tryz.underlying52 hi hz0 hz1 hz2 rfl (by omega) (.slice A n cap) n xs hown ⟨b, off, none⟩ m c news hl (fun j u hj => by rw [add_form]; exact hc j u hj) h1 hm (by unfold maxLen; omega) (by omega) hbase _ rfl
      refine ⟨_, cap', w', h2, h3, by rw [← hob]; exact h4, (Below.refl _ _).grown h4 hbase (fun k hk => (hown.lt k hk).1), ?_⟩
      rcases h5 with h5 | h5
      · left
        obtain ⟨_, ⟨e1, _⟩ | ⟨g', _, _, e1, _⟩⟩ := hown
        · injection e1 with e1
          subst e1
          cases h5
        · injection e1 with e1
          subst e1
          injection h5 with h5
          have h5' : g' = g := h5
          rw [h5']
      · right
        rw [h5]
    · obtain rfl : m = 0 := by omega
      obtain rfl : news = [] := List.eq_nil_of_length_eq_zero (by omega)
      cases Ao with
      | none => exact ⟨A, cap, w, run_append_noneS _ _ n c xs base hown, by simpa using hown, ⟨rfl, rfl, rfl, Nat.le_refl _, fun _ _ _ => rfl⟩, Below.refl _ _, .inl rfl⟩
      | some ad =>
        have hl : ∀ (x : Addr), (loadCells x 0).run Tryz.prog w = .ok #[] w := fun x => by simpa using run_loadCells_list (P := Tryz.prog) w x [] (by simp)
        have h2 : (Builtin.append_ #[52, 52] o.type #[.slice A n cap, .slice (some ad) 0 c]).run Tryz.prog w = .ok (.slice A n cap) w := by
          obtain ⟨_, ⟨e1, rfl⟩ | ⟨g, cap', cur, e1, _, hg, hc, hm, _, _⟩⟩ := id hown
          · injection e1 with e1 _ e3
            subst e1 e3
            simp [Builtin.append_, run_underlying Tryz.underlying52, sizeOf, typeInfo, hi, hz1, Builtin.lenOf, Builtin.firstCells, storeCells, hl]
          · injection e1 with e1 _ e3
            subst e1 e3
            have h1 : ¬ (9223372036854775807 < (n : Int)) := by unfold maxLen at hm; omega
            simp [Builtin.append_, run_underlying Tryz.underlying52, sizeOf, typeInfo, hi, hz1, Builtin.lenOf, Builtin.firstCells, storeCells, hc, hl, h1]
        exact ⟨A, cap, w, h2, by simpa using hown, ⟨rfl, rfl, rfl, Nat.le_refl _, fun _ _ _ => rfl⟩, Below.refl _ _, .inl rfl⟩
  obtain ⟨A', cap', w', h2, h3, h5, h4, h6⟩ := key
  unfold Oper.wp execOp
  simp only [ho, resolve, invoke, builtin, Sem.run_bind, Sem.run_pure, Result.andThen_ok, List.map_toArray, List.map_cons, List.map_nil, hs, hx, h2]
  exact h A' cap' w' h3 h5 h4 h6
theorem wpList_appendS {w : World} {ops : Array Oper} {rest : List Oper} {o : Oper} {a : Act} {Q : Exit → Act → World → Prop} (hgd : o.guard = none) (s x : Operand)
    (ho : o.op = .call { callee := .builtin .append, args := #[s, x], argTypes := #[52, 52] })
    (base : Nat) (A : Option Addr) (cap n : Nat) (xs : List Value) (hs : a.eval s = .slice A n cap) (hown : w.ownsRow base 9 1 (.slice A n cap) n xs)
    (Ao : Option Addr) (m c : Nat) (news : List Value) (hx : a.eval x = .slice Ao m c) (hl : news.length = m * 1) (hpos : 0 < m → ∃ b off, Ao = some ⟨b, off, none⟩ ∧ ∀ j u, news[j]? = some u → w.cell? ⟨b, off + j, none⟩ = some u) (h1 : ∀ u ∈ news, u.oneCell' = true)
    (hsm : n + m ≤ 100000) (hbase : base ≤ w.heap.size)
    (h : ∀ A' cap' w', w'.ownsRow base 9 1 (.slice A' (n + m) cap') (n + m) (xs ++ news) → w.grownBy w' (A.map fun a => a.block) → Below base w w' → (A' = A ∨ A' = some ⟨w.heap.size, 0, none⟩) → wpList Tryz.prog ops Q rest (a.put o.dst (.slice A' (n + m) cap')) w') : wpList Tryz.prog ops Q (o :: rest) a w :=
  wpList_plain hgd fun _ hK => wp_appendS s x ho base A cap n xs hs hown Ao m c news hx hl hpos h1 hsm hbase fun A' cap' w' h2 h3 h4 h5 => hK _ _ (h A' cap' w' h2 h3 h4 h5)
theorem info_C : (Tryz.prog.info? 74).map (fun i => (i.zero, i.size, i.bytes)) = some (some (.agg #[.int .u8 0, .int .u8 0, .int .i64 0, .int .i64 0, .int .i64 0, .int .i64 0, .int .u64 0, .int .u64 0, .int .i64 0, .int .i64 0, .int .i64 0, .string ⟨#[]⟩, .int .i64 0]), 13, 112) := by kernel_rfl
theorem owns_laterC {w w' : World} {B n : Nat} {v : Value} {xs : List Value} (h : w.ownsRow B 74 13 v n xs) (hb : Below w.heap.size w w') : w'.ownsRow B 74 13 v n xs := by
  refine World.ownsRow.kept (row := none) h ⟨hb.os, hb.tape, hb.output, hb.size, fun k hk _ => hb.block k hk⟩ ?_
  cases hv : v.ownBlock
  · exact .inl rfl
  · exact .inr (by simp)
theorem run_append_noneC {w : World} (ty : TypeId) (v : Value) (n c : Nat) (xs : List Value) (base : Nat) (hown : w.ownsRow base 74 13 v n xs) :
    (Builtin.append_ #[49, 49] ty #[v, .slice none 0 c]).run Tryz.prog w = .ok v w := by
  obtain ⟨i0, hi, hz0, hz1, hz2⟩ := info_parts info_C
  obtain ⟨_, ⟨rfl, rfl⟩ | ⟨g, cap, cur, rfl, _, hg, hc, hm, _, _⟩⟩ := hown
  · simp [Builtin.append_, run_underlying Tryz.underlying49, sizeOf, typeInfo, hi, hz1, Builtin.lenOf, Builtin.firstCells, storeCells]
  · have h1 : ¬ (9223372036854775807 < (n : Int)) := by unfold maxLen at hm; omega
    have hl : ∀ (x : Addr), (loadCells x 0).run Tryz.prog w = .ok #[] w := fun x => by simpa using run_loadCells_list (P := Tryz.prog) w x [] (by simp)
    simp [Builtin.append_, run_underlying Tryz.underlying49, sizeOf, typeInfo, hi, hz1, Builtin.lenOf, Builtin.firstCells, storeCells, hc, hl, h1]
theorem wp_appendC {w : World} {o : Oper} {a : Act} {K : Act → World → Prop} {Q : Exit → Act → World → Prop} (s x : Operand)
    (ho : o.op = .call { callee := .builtin .append, args := #[s, x], argTypes := #[49, 49] })
    (base : Nat) (A : Option Addr) (cap n : Nat) (xs : List Value) (hs : a.eval s = .slice A n cap) (hown : w.ownsRow base 74 13 (.slice A n cap) n xs)
    (Ao : Option Addr) (m c : Nat) (news : List Value) (hx : a.eval x = .slice Ao m c) (hl : news.length = m * 13) (hpos : 0 < m → ∃ b off, Ao = some ⟨b, off, none⟩ ∧ ∀ j u, news[j]? = some u → w.cell? ⟨b, off + j, none⟩ = some u) (h1 : ∀ u ∈ news, u.oneCell' = true)
    (hsm : n + m ≤ 100000) (hbase : base ≤ w.heap.size)
    (h : ∀ A' cap' w', w'.ownsRow base 74 13 (.slice A' (n + m) cap') (n + m) (xs ++ news) → w.grownBy w' (A.map fun a => a.block) → Below base w w' → (A' = A ∨ A' = some ⟨w.heap.size, 0, none⟩) → K (a.put o.dst (.slice A' (n + m) cap')) w') :
    Oper.wp Tryz.prog o a w K Q := by
  obtain ⟨i0, hi, hz0, hz1, hz2⟩ := info_parts info_C
  have key : ∃ A' cap' w', (Builtin.append_ #[49, 49] o.type #[.slice A n cap, .slice Ao m c]).run Tryz.prog w = .ok (.slice A' (n + m) cap') w' ∧ w'.ownsRow base 74 13 (.slice A' (n + m) cap') (n + m) (xs ++ news) ∧ w.grownBy w' (A.map fun a => a.block) ∧ Below base w w' ∧ (A' = A ∨ A' = some ⟨w.heap.size, 0, none⟩) := by
    have hob : (Value.slice A n cap).ownBlock = A.map fun a => a.block := by cases A <;> rfl
    by_cases hm : 0 < m
    · obtain ⟨b, off, rfl, hc⟩ := hpos hm
      obtain ⟨g, cap', w', h2, h3, h4, h5, _⟩ := run_append_lies (P := Tryz.prog) w 49 o.type base 74 i0 _ 13 112 Tryz.underlying49 hi hz0 hz1 hz2 rfl (by omega) (.slice A n cap) n xs hown ⟨b, off, none⟩ m c news hl (fun j u hj => by rw [add_form]; exact hc j u hj) h1 hm (by unfold maxLen; omega) (by omega) hbase _ rfl
      refine ⟨_, cap', w', h2, h3, by rw [← hob]; exact h4, (Below.refl _ _).grown h4 hbase (fun k hk => (hown.lt k hk).1), ?_⟩
      rcases h5 with h5 | h5
      · left
        obtain ⟨_, ⟨e1, _⟩ | ⟨g', _, _, e1, _⟩⟩ := hown
        · injection e1 with e1
          subst e1
          cases h5
        · injection e1 with e1
          subst e1
          injection h5 with h5
          have h5' : g' = g := h5
          rw [h5']
      · right
        rw [h5]
    · obtain rfl : m = 0 := by omega
      obtain rfl : news = [] := List.eq_nil_of_length_eq_zero (by omega)
      cases Ao with
      | none => exact ⟨A, cap, w, run_append_noneC _ _ n c xs base hown, by simpa using hown, ⟨rfl, rfl, rfl, Nat.le_refl _, fun _ _ _ => rfl⟩, Below.refl _ _, .inl rfl⟩
      | some ad =>
        have hl : ∀ (x : Addr), (loadCells x 0).run Tryz.prog w = .ok #[] w := fun x => by simpa using run_loadCells_list (P := Tryz.prog) w x [] (by simp)
        have h2 : (Builtin.append_ #[49, 49] o.type #[.slice A n cap, .slice (some ad) 0 c]).run Tryz.prog w = .ok (.slice A n cap) w := by
          obtain ⟨_, ⟨e1, rfl⟩ | ⟨g, cap', cur, e1, _, hg, hc, hm, _, _⟩⟩ := id hown
          · injection e1 with e1 _ e3
            subst e1 e3
            simp [Builtin.append_, run_underlying Tryz.underlying49, sizeOf, typeInfo, hi, hz1, Builtin.lenOf, Builtin.firstCells, storeCells, hl]
          · injection e1 with e1 _ e3
            subst e1 e3
            have h1 : ¬ (9223372036854775807 < (n : Int)) := by unfold maxLen at hm; omega
            simp [Builtin.append_, run_underlying Tryz.underlying49, sizeOf, typeInfo, hi, hz1, Builtin.lenOf, Builtin.firstCells, storeCells, hc, hl, h1]
        exact ⟨A, cap, w, h2, by simpa using hown, ⟨rfl, rfl, rfl, Nat.le_refl _, fun _ _ _ => rfl⟩, Below.refl _ _, .inl rfl⟩
  obtain ⟨A', cap', w', h2, h3, h5, h4, h6⟩ := key
  unfold Oper.wp execOp
  simp only [ho, resolve, invoke, builtin, Sem.run_bind, Sem.run_pure, Result.andThen_ok, List.map_toArray, List.map_cons, List.map_nil, hs, hx, h2]
  exact h A' cap' w' h3 h5 h4 h6
theorem wpList_appendC {w : World} {ops : Array Oper} {rest : List Oper} {o : Oper} {a : Act} {Q : Exit → Act → World → Prop} (hgd : o.guard = none) (s x : Operand)
    (ho : o.op = .call { callee := .builtin .append, args := #[s, x], argTypes := #[49, 49] })
    (base : Nat) (A : Option Addr) (cap n : Nat) (xs : List Value) (hs : a.eval s = .slice A n cap) (hown : w.ownsRow base 74 13 (.slice A n cap) n xs)
    (Ao : Option Addr) (m c : Nat) (news : List Value) (hx : a.eval x = .slice Ao m c) (hl : news.length = m * 13) (hpos : 0 < m → ∃ b off, Ao = some ⟨b, off, none⟩ ∧ ∀ j u, news[j]? = some u → w.cell? ⟨b, off + j, none⟩ = some u) (h1 : ∀ u ∈ news, u.oneCell' = true)
    (hsm : n + m ≤ 100000) (hbase : base ≤ w.heap.size)
    (h : ∀ A' cap' w', w'.ownsRow base 74 13 (.slice A' (n + m) cap') (n + m) (xs ++ news) → w.grownBy w' (A.map fun a => a.block) → Below base w w' → (A' = A ∨ A' = some ⟨w.heap.size, 0, none⟩) → wpList Tryz.prog ops Q rest (a.put o.dst (.slice A' (n + m) cap')) w') : wpList Tryz.prog ops Q (o :: rest) a w :=
  wpList_plain hgd fun _ hK => wp_appendC s x ho base A cap n xs hs hown Ao m c news hx hl hpos h1 hsm hbase fun A' cap' w' h2 h3 h4 h5 => hK _ _ (h A' cap' w' h2 h3 h4 h5)
end Go.Proofs.YtggaijdbaplfiaaGreatDoor

/- Contracts of package asm: bare, list, isReg, most, get, put. -/
namespace Go.Proofs.YtggaijdbaplfiaaGreatDoor
open Go.RowKit
set_option linter.unusedVariables false
set_option linter.unusedSimpArgs false
/-- a form with no more than three words that mean something -/
def WfF (f : Fm) : Prop := f.os.length ≤ 3 ∧ ∀ o ∈ f.os, 1 ≤ o ∧ o ≤ 9
instance (f : Fm) : Decidable (WfF f) := inferInstanceAs (Decidable (_ ∧ _))
theorem fms_wf : ∀ f ∈ fms, WfF f := by decide
theorem fm0_wf : WfF fm0 := by decide
theorem formOf_wf (x : In) : WfF ((formOf x).getD fm0) := by
  cases h : formOf x with
  | none => exact fm0_wf
  | some f => exact fms_wf f (List.mem_of_find?_eq_some h)
theorem fnamed_wf (s : List UInt8) : WfF ((fnamed s).getD fm0) := by
  cases h : fnamed s with
  | none => exact fm0_wf
  | some f => exact fms_wf f (List.mem_of_find?_eq_some h)
/-- operands in memory -/
def opI (os : List Nat) : List Int := os.map fun (o : Nat) => (o : Int)
def ORow (w : World) (A : Option Addr) (os : List Nat) : Prop := IRow w w.heap.size A (opI os)
theorem ORow.later {w w' : World} {A : Option Addr} {os : List Nat} (h : ORow w A os) (hb : Below w.heap.size w w') : ORow w' A os := IRow.later h hb
theorem opI_len (os : List Nat) : (opI os).length = os.length := by simp [opI]
theorem opI_get (os : List Nat) (i : Nat) (h : i < os.length) : (opI os).getD i 0 = ((os.getD i 0 : Nat) : Int) := by simp [opI, h]
theorem irow_ofO {w : World} {B cap n : Nat} {A : Option Addr} {xs : List Int} (h : w.ownsRow B 95 1 (.slice A n cap) n (ivals xs)) (hn : xs.length = n) (hw : ∀ x ∈ xs, I63 x) : IRow w w.heap.size A xs := by
  refine ⟨hw, fun hl => ?_⟩
  obtain ⟨_, ⟨h1, h2⟩ | ⟨g, cap', cur, e, hB, hg, hc, _, hs, ht⟩⟩ := id h
  · omega
  · injection e with e1 e2 e3
    subst e1 e3
    have hlt : g < w.heap.size := heap_lt hg
    refine ⟨g, 0, rfl, hlt, fun i hi => ?_⟩
    rw [Nat.zero_add, cell_of_row w g i cur _ _ hg, ← ivals_at xs i hi, ← ht, List.getElem?_take_of_lt (by omega), Array.getElem?_toList]
section
variable {w : World}
theorem bare_any (f : Fm) : Calls Tryz.prog 51 #[fmv f] w fun e w' => e = .returned (inv (bare f)) ∧ Below w.heap.size w w' := by
  unfold fmv
  go_enter Tryz.func51, Tryz.ntmps51
  go_wp2
  refine bodyPost_ret (res_in1 rfl rfl (s := bare f) ⟨?_, ?_, ?_, ?_, ?_, ?_, ?_, ?_, ?_, ?_, ?_⟩) rfl ⟨rfl, (by repeat (first | exact Below.refl _ _ | assumption | (refine below_drewN ?_ _) | (refine Below.drew ?_) | (refine Below.alloc ?_ (by first | omega | (simp; omega) | simp) _) | (refine Below.setCell ?_ (by first | omega | (simp; omega) | simp) _) | (refine below_trans ?_ (by assumption) (by first | omega | (simp; omega) | simp))))⟩ <;> simp [go_sem, bare, in0]
theorem isReg_any (o : Nat) (h : o ≤ 9) : Calls Tryz.prog 79 #[.int .i64 (o : Nat)] w fun e w' => e = .returned (.bool (isR o)) ∧ w' = w := by
  have hc : o = 0 ∨ o = 1 ∨ o = 2 ∨ o = 3 ∨ o = 4 ∨ o = 5 ∨ o = 6 ∨ o = 7 ∨ o = 8 ∨ o = 9 := by omega
  rcases hc with rfl | rfl | rfl | rfl | rfl | rfl | rfl | rfl | rfl | rfl <;>
  · go_enter Tryz.func79, Tryz.ntmps79
    go_wp2
    go_ret
    exact ⟨rfl, rfl⟩
theorem most_any (o : Nat) (h0 : 1 ≤ o) (h : o ≤ 9) (c : Int) (hc0 : 0 ≤ c) (hc1 : c < 9223372036854775808) : Calls Tryz.prog 54 #[.int .i64 (o : Nat), .int .i64 c] w fun e w' => e = .returned (.int .u64 (mostO o c)) ∧ w' = w := by
  have hw : IntKind.u64.wrap c = c := by unfold IntKind.wrap; simp [IntKind.signed, IntKind.bits]; omega
  have hc : o = 1 ∨ o = 2 ∨ o = 3 ∨ o = 4 ∨ o = 5 ∨ o = 6 ∨ o = 7 ∨ o = 8 ∨ o = 9 := by omega
  rcases hc with rfl | rfl | rfl | rfl | rfl | rfl | rfl | rfl | rfl <;>
  · go_enter Tryz.func54, Tryz.ntmps54
    go_wp2
    go_ret
    exact ⟨rfl, rfl⟩
theorem get_any (o : Nat) (h0 : 1 ≤ o) (h : o ≤ 9) (x : In) : Calls Tryz.prog 53 #[.int .i64 (o : Nat), inv x] w fun e w' => e = .returned (.int .u64 (if o = 5 ∨ o = 6 then getO o x else IntKind.u64.wrap (getO o x))) ∧ Below w.heap.size w w' := by
  obtain ⟨kd, op, oa, ob, fd, n, m, wd, a, b, to⟩ := x
  unfold inv
  simp only
  have hc : o = 1 ∨ o = 2 ∨ o = 3 ∨ o = 4 ∨ o = 5 ∨ o = 6 ∨ o = 7 ∨ o = 8 ∨ o = 9 := by omega
  rcases hc with rfl | rfl | rfl | rfl | rfl | rfl | rfl | rfl | rfl <;>
  · go_enter Tryz.func53, Tryz.ntmps53
    go_wp2
    go_ret
    exact ⟨rfl, (by repeat (first | exact Below.refl _ _ | assumption | (refine below_drewN ?_ _) | (refine Below.drew ?_) | (refine Below.alloc ?_ (by first | omega | (simp; omega) | simp) _) | (refine Below.setCell ?_ (by first | omega | (simp; omega) | simp) _) | (refine below_trans ?_ (by assumption) (by first | omega | (simp; omega) | simp))))⟩
end
end Go.Proofs.YtggaijdbaplfiaaGreatDoor

/- Contracts of package asm: put, list. -/
namespace Go.Proofs.YtggaijdbaplfiaaGreatDoor
open Go.RowKit
set_option linter.unusedVariables false
set_option linter.unusedSimpArgs false
/-- where an operand lies, and as what -/
def jO (o : Nat) : Nat := o + 1
def vO (o : Nat) (v : Int) : Value := if o = 5 ∨ o = 6 then .int .u64 v else .int .i64 v
theorem In11.put {W : World} {g : Nat} {s : In} (h : In11 W g 0 s) (o : Nat) (ho1 : 1 ≤ o) (ho9 : o ≤ 9) (v : Int) (hv : 0 ≤ v) : In11 (W.setCell ⟨g, jO o, none⟩ (vO o v)) g 0 (putO o v s) := by
  obtain ⟨h0, h1, h2, h3, h4, h5, h6, h7, h8, h9, h10⟩ := h
  simp only [Nat.zero_add] at h0 h1 h2 h3 h4 h5 h6 h7 h8 h9 h10
  have hc : o = 1 ∨ o = 2 ∨ o = 3 ∨ o = 4 ∨ o = 5 ∨ o = 6 ∨ o = 7 ∨ o = 8 ∨ o = 9 := by omega
  have hz : ((v.toNat : Nat) : Int) = v := by omega
  rcases hc with rfl | rfl | rfl | rfl | rfl | rfl | rfl | rfl | rfl <;> constructor <;> simp [go_sem, h0, h1, h2, h3, h4, h5, h6, h7, h8, h9, h10, jO, vO, putO, hv] <;> omega
theorem below_put {B g : Nat} {W0 W : World} (o : Nat) (v : Int) (hb : Below B W0 W) (hg : B ≤ g) : Below B W0 (W.setCell ⟨g, jO o, none⟩ (vO o v)) := Below.setCell hb hg _
theorem fz_put {W : World} {g : Nat} (h : ∀ o, W.frozen? ⟨g, o, none⟩ = false) (j : Nat) (v : Value) : ∀ o, (W.setCell ⟨g, j, none⟩ v).frozen? ⟨g, o, none⟩ = false := fun o => by simpa [go_sem] using h o
theorem ix0 (w : World) (a b c : Int) : (Instr.index 97 (.agg #[.int .i64 a, .int .i64 b, .int .i64 c]) (.int .i64 0)).run Tryz.prog w = .ok (.int .i64 a) w := by kernel_rfl
theorem ix1 (w : World) (a b c : Int) : (Instr.index 97 (.agg #[.int .i64 a, .int .i64 b, .int .i64 c]) (.int .i64 1)).run Tryz.prog w = .ok (.int .i64 b) w := by kernel_rfl
theorem ix2 (w : World) (a b c : Int) : (Instr.index 97 (.agg #[.int .i64 a, .int .i64 b, .int .i64 c]) (.int .i64 2)).run Tryz.prog w = .ok (.int .i64 c) w := by kernel_rfl
section
variable {w : World}
set_option maxHeartbeats 4000000 in
theorem put_any (o : Nat) (h1 : 1 ≤ o) (h9 : o ≤ 9) (v : Int) (hv : 0 ≤ v) (hw : (o = 5 ∨ o = 6) ∨ v < 9223372036854775808) (g : Nat) (s : In) (hc : In11 w g 0 s) (hf : ∀ o, w.frozen? ⟨g, o, none⟩ = false) :
    Calls Tryz.prog 55 #[.int .i64 (o : Nat), .pointer (some ⟨g, 0, none⟩), .int .u64 v] w fun e w' => e = .returned (.tuple #[]) ∧ w' = w.setCell ⟨g, jO o, none⟩ (vO o v) := by
  obtain ⟨c0, c1, c2, c3, c4, c5, c6, c7, c8, c9, c10⟩ := hc
  simp only [Nat.zero_add] at c0 c1 c2 c3 c4 c5 c6 c7 c8 c9 c10
  have hwr : (o = 5 ∨ o = 6) ∨ IntKind.i64.wrap v = v := by
    rcases hw with h | h
    · exact .inl h
    · right; unfold IntKind.wrap; simp [IntKind.signed, IntKind.bits]; omega
  clear hw
  have hc : o = 1 ∨ o = 2 ∨ o = 3 ∨ o = 4 ∨ o = 5 ∨ o = 6 ∨ o = 7 ∨ o = 8 ∨ o = 9 := by omega
  rcases hc with rfl | rfl | rfl | rfl | rfl | rfl | rfl | rfl | rfl
  · have hx : IntKind.i64.wrap v = v := by simpa using hwr
    clear hwr
    have z := hf 2
    go_enter Tryz.func55, Tryz.ntmps55
    go_wp2
    go_end0
    exact ⟨rfl, rfl⟩
  · have hx : IntKind.i64.wrap v = v := by simpa using hwr
    clear hwr
    have z := hf 3
    go_enter Tryz.func55, Tryz.ntmps55
    go_wp2
    go_end0
    exact ⟨rfl, rfl⟩
  · have hx : IntKind.i64.wrap v = v := by simpa using hwr
    clear hwr
    have z := hf 4
    go_enter Tryz.func55, Tryz.ntmps55
    go_wp2
    go_end0
    exact ⟨rfl, rfl⟩
  · have hx : IntKind.i64.wrap v = v := by simpa using hwr
    clear hwr
    have z := hf 5
    go_enter Tryz.func55, Tryz.ntmps55
    go_wp2
    go_end0
    exact ⟨rfl, rfl⟩
  · skip
    clear hwr
    have z := hf 6
    go_enter Tryz.func55, Tryz.ntmps55
    go_wp2
    go_end0
    exact ⟨rfl, rfl⟩
  · skip
    clear hwr
    have z := hf 7
    go_enter Tryz.func55, Tryz.ntmps55
    go_wp2
    go_end0
    exact ⟨rfl, rfl⟩
  · have hx : IntKind.i64.wrap v = v := by simpa using hwr
    clear hwr
    have z := hf 8
    go_enter Tryz.func55, Tryz.ntmps55
    go_wp2
    go_end0
    exact ⟨rfl, rfl⟩
  · have hx : IntKind.i64.wrap v = v := by simpa using hwr
    clear hwr
    have z := hf 9
    go_enter Tryz.func55, Tryz.ntmps55
    go_wp2
    go_end0
    exact ⟨rfl, rfl⟩
  · have hx : IntKind.i64.wrap v = v := by simpa using hwr
    clear hwr
    have z := hf 10
    go_enter Tryz.func55, Tryz.ntmps55
    go_wp2
    go_end0
    exact ⟨rfl, rfl⟩
set_option maxRecDepth 100000 in
set_option maxHeartbeats 4000000 in
theorem list_any (f : Fm) (hf : WfF f) : Calls Tryz.prog 52 #[fmv f] w fun e w' => ∃ A cap, e = .returned (.slice A f.os.length cap) ∧ (ORow w' A f.os ∧ ∀ a, A = some a → w.heap.size ≤ a.block) ∧ Below w.heap.size w w' := by
  have HI := Lib.hid fun (W : World) (A : Option Addr) (cap : Nat) (h : W.ownsRow w.heap.size 95 1 (.slice A f.os.length cap) f.os.length (ivals (opI f.os))) => (show ORow W A f.os ∧ (∀ a, A = some a → w.heap.size ≤ a.block) from ⟨irow_ofO h (by simp [opI]) (fun x hx => by
    simp only [opI, List.mem_map] at hx
    obtain ⟨y, hy, rfl⟩ := hx
    have := hf.2 y hy
    unfold I63
    omega), fun a ha => by
    obtain ⟨_, ⟨h1, h2⟩ | ⟨g, cap', cur, e, hB, _⟩⟩ := h
    · injection h1 with h1
      rw [ha] at h1
      cases h1
    · injection e with e1
      rw [ha] at e1
      injection e1 with e1
      rw [e1]
      exact hB⟩)
  obtain ⟨hl, hm⟩ := hf
  have hop : ∀ k, k < f.os.length → 1 ≤ opn f k ∧ opn f k ≤ 9 := fun k hk => by
    unfold opn
    rw [List.getD_eq_getElem?_getD, List.getElem?_eq_getElem hk]
    have := hm _ (List.getElem_mem hk)
    simp only [Option.getD_some]
    omega
  have hoz : ∀ k, f.os.length ≤ k → opn f k = 0 := fun k hk => by
    unfold opn
    rw [List.getD_eq_getElem?_getD, List.getElem?_eq_none hk]
    rfl
  have htk : ∀ k, k < f.os.length → ivals (opI (f.os.take k)) ++ [.int .i64 (opn f k)] = ivals (opI (f.os.take (k + 1))) := fun k hk => by
    rw [List.take_add_one, List.getElem?_eq_getElem hk]
    simp only [opI, ivals, Option.toList_some, List.map_append, List.map_cons, List.map_nil, opn, List.getD_eq_getElem?_getD, List.getElem?_eq_getElem hk, Option.getD_some]
  have HP := Lib.hid hop
  have HZ := Lib.hid hoz
  have HT := Lib.hid htk
  clear hop hoz htk hm
  unfold fmv
  go_enter Tryz.func52, Tryz.ntmps52
  go_wp2_with fail
  go_loopw [3, 8] (fun ll ii wr => ∃ (k : Nat) (A : Option Addr) (cap : Nat), ii = .int .i64 (k : Nat) ∧ k ≤ f.os.length ∧ ll = .slice A k cap ∧ wr.ownsRow w.heap.size 95 1 (.slice A k cap) k (ivals (opI (f.os.take k))) ∧ Below w.heap.size w wr) (fun ll ii _ => 3 - (intOf ii).toNat)
  case atStart => exact ⟨0, none, 0, rfl, Nat.zero_le _, rfl, World.ownsRow_nil _ _ _ _, (by repeat (first | exact Below.refl _ _ | assumption | (refine below_drewN ?_ _) | (refine Below.drew ?_) | (refine Below.alloc ?_ (by first | omega | (simp; omega) | simp) _) | (refine Below.setCell ?_ (by first | omega | (simp; omega) | simp) _) | (refine below_trans ?_ (by assumption) (by first | omega | (simp; omega) | simp))))⟩
  case round =>
    obtain ⟨k, A, cap, rfl, hk, rfl, own, hb_wr⟩ := hrel
    have hsr := hb_wr.size
    have OW := Lib.hid own
    clear own
    have hk3 : k = 0 ∨ k = 1 ∨ k = 2 ∨ k = 3 := by omega
    rcases hk3 with rfl | rfl | rfl | rfl
    · have IX := fun W => ix0 W (opn f 0) (opn f 1) (opn f 2)
      by_cases hlt : 0 < f.os.length
      · have hq := HP.out 0 hlt
        have e1 : (opn f 0 == 0) = false := by simp; omega
        have HX := Lib.hid (HT.out 0 hlt)
        have hle : 0 + 1 ≤ f.os.length := hlt
        clear hq hlt
        go_wp2_with (at_builtin; refine wpList_appendO ?_ (.tmp 13) (.tmp 15) ?_ w.heap.size A cap 0 (ivals (opI (f.os.take 0))) ?_ (owns_laterO OW.out (show Below wr.heap.size wr _ from (by repeat (first | exact Below.refl _ _ | assumption | (refine below_drewN ?_ _) | (refine Below.drew ?_) | (refine Below.alloc ?_ (by first | omega | (simp; omega) | simp) _) | (refine Below.setCell ?_ (by first | omega | (simp; omega) | simp) _) | (refine below_trans ?_ (by assumption) (by first | omega | (simp; omega) | simp)))))) (some ⟨wr.heap.size, 0, none⟩) 1 1 [.int .i64 (opn f 0)] ?_ rfl (fun _ => ⟨wr.heap.size, 0, rfl, fl_lies wr [.int .i64 (opn f 0)] _⟩) (by intro u hu; simp at hu; subst hu; rfl) (by omega) (by simp; omega) ?_; rfl; rfl; rfl; rfl; intro A7 cap7 w7 hown7 hg7 hb_w7 hat7; have hs7 := hb_w7.size)
        rw [HX.out] at hown7
        go_roundw
        case rel => exact ⟨0 + 1, A7, cap7, by go_num, hle, rfl, hown7, (by repeat (first | exact Below.refl _ _ | assumption | (refine below_drewN ?_ _) | (refine Below.drew ?_) | (refine Below.alloc ?_ (by first | omega | (simp; omega) | simp) _) | (refine Below.setCell ?_ (by first | omega | (simp; omega) | simp) _) | (refine below_trans ?_ (by assumption) (by first | omega | (simp; omega) | simp))))⟩
        case measure => simp [intOf]
      · have e1 : (opn f 0 == 0) = true := by simp [HZ.out 0 (by omega)]
        have hlen : f.os.length = 0 := by omega
        have HO := OW.out
        have HL := Lib.hid hlen
        rw [show f.os.take 0 = f.os from List.take_of_length_le (by omega)] at HO
        have HJ := Lib.hid HO
        clear HO hlen hlt hk hl
        go_wp2
        go_ret
        refine ⟨A, cap, by rw [HL.out]; rfl, HI.out _ A cap ?_, (by repeat (first | exact Below.refl _ _ | assumption | (refine below_drewN ?_ _) | (refine Below.drew ?_) | (refine Below.alloc ?_ (by first | omega | (simp; omega) | simp) _) | (refine Below.setCell ?_ (by first | omega | (simp; omega) | simp) _) | (refine below_trans ?_ (by assumption) (by first | omega | (simp; omega) | simp))))⟩
        rw [HL.out]
        exact HJ.out
    · have IX := fun W => ix1 W (opn f 0) (opn f 1) (opn f 2)
      by_cases hlt : 1 < f.os.length
      · have hq := HP.out 1 hlt
        have e1 : (opn f 1 == 0) = false := by simp; omega
        have HX := Lib.hid (HT.out 1 hlt)
        have hle : 1 + 1 ≤ f.os.length := hlt
        clear hq hlt
        go_wp2_with (at_builtin; refine wpList_appendO ?_ (.tmp 13) (.tmp 15) ?_ w.heap.size A cap 1 (ivals (opI (f.os.take 1))) ?_ (owns_laterO OW.out (show Below wr.heap.size wr _ from (by repeat (first | exact Below.refl _ _ | assumption | (refine below_drewN ?_ _) | (refine Below.drew ?_) | (refine Below.alloc ?_ (by first | omega | (simp; omega) | simp) _) | (refine Below.setCell ?_ (by first | omega | (simp; omega) | simp) _) | (refine below_trans ?_ (by assumption) (by first | omega | (simp; omega) | simp)))))) (some ⟨wr.heap.size, 0, none⟩) 1 1 [.int .i64 (opn f 1)] ?_ rfl (fun _ => ⟨wr.heap.size, 0, rfl, fl_lies wr [.int .i64 (opn f 1)] _⟩) (by intro u hu; simp at hu; subst hu; rfl) (by omega) (by simp; omega) ?_; rfl; rfl; rfl; rfl; intro A7 cap7 w7 hown7 hg7 hb_w7 hat7; have hs7 := hb_w7.size)
        rw [HX.out] at hown7
        go_roundw
        case rel => exact ⟨1 + 1, A7, cap7, by go_num, hle, rfl, hown7, (by repeat (first | exact Below.refl _ _ | assumption | (refine below_drewN ?_ _) | (refine Below.drew ?_) | (refine Below.alloc ?_ (by first | omega | (simp; omega) | simp) _) | (refine Below.setCell ?_ (by first | omega | (simp; omega) | simp) _) | (refine below_trans ?_ (by assumption) (by first | omega | (simp; omega) | simp))))⟩
        case measure => simp [intOf]
      · have e1 : (opn f 1 == 0) = true := by simp [HZ.out 1 (by omega)]
        have hlen : f.os.length = 1 := by omega
        have HO := OW.out
        have HL := Lib.hid hlen
        rw [show f.os.take 1 = f.os from List.take_of_length_le (by omega)] at HO
        have HJ := Lib.hid HO
        clear HO hlen hlt hk hl
        go_wp2
        go_ret
        refine ⟨A, cap, by rw [HL.out]; rfl, HI.out _ A cap ?_, (by repeat (first | exact Below.refl _ _ | assumption | (refine below_drewN ?_ _) | (refine Below.drew ?_) | (refine Below.alloc ?_ (by first | omega | (simp; omega) | simp) _) | (refine Below.setCell ?_ (by first | omega | (simp; omega) | simp) _) | (refine below_trans ?_ (by assumption) (by first | omega | (simp; omega) | simp))))⟩
        rw [HL.out]
        exact HJ.out
    · have IX := fun W => ix2 W (opn f 0) (opn f 1) (opn f 2)
      by_cases hlt : 2 < f.os.length
      · have hq := HP.out 2 hlt
        have e1 : (opn f 2 == 0) = false := by simp; omega
        have HX := Lib.hid (HT.out 2 hlt)
        have hle : 2 + 1 ≤ f.os.length := hlt
        clear hq hlt
        go_wp2_with (at_builtin; refine wpList_appendO ?_ (.tmp 13) (.tmp 15) ?_ w.heap.size A cap 2 (ivals (opI (f.os.take 2))) ?_ (owns_laterO OW.out (show Below wr.heap.size wr _ from (by repeat (first | exact Below.refl _ _ | assumption | (refine below_drewN ?_ _) | (refine Below.drew ?_) | (refine Below.alloc ?_ (by first | omega | (simp; omega) | simp) _) | (refine Below.setCell ?_ (by first | omega | (simp; omega) | simp) _) | (refine below_trans ?_ (by assumption) (by first | omega | (simp; omega) | simp)))))) (some ⟨wr.heap.size, 0, none⟩) 1 1 [.int .i64 (opn f 2)] ?_ rfl (fun _ => ⟨wr.heap.size, 0, rfl, fl_lies wr [.int .i64 (opn f 2)] _⟩) (by intro u hu; simp at hu; subst hu; rfl) (by omega) (by simp; omega) ?_; rfl; rfl; rfl; rfl; intro A7 cap7 w7 hown7 hg7 hb_w7 hat7; have hs7 := hb_w7.size)
        rw [HX.out] at hown7
        go_roundw
        case rel => exact ⟨2 + 1, A7, cap7, by go_num, hle, rfl, hown7, (by repeat (first | exact Below.refl _ _ | assumption | (refine below_drewN ?_ _) | (refine Below.drew ?_) | (refine Below.alloc ?_ (by first | omega | (simp; omega) | simp) _) | (refine Below.setCell ?_ (by first | omega | (simp; omega) | simp) _) | (refine below_trans ?_ (by assumption) (by first | omega | (simp; omega) | simp))))⟩
        case measure => simp [intOf]
      · have e1 : (opn f 2 == 0) = true := by simp [HZ.out 2 (by omega)]
        have hlen : f.os.length = 2 := by omega
        have HO := OW.out
        have HL := Lib.hid hlen
        rw [show f.os.take 2 = f.os from List.take_of_length_le (by omega)] at HO
        have HJ := Lib.hid HO
        clear HO hlen hlt hk hl
        go_wp2
        go_ret
        refine ⟨A, cap, by rw [HL.out]; rfl, HI.out _ A cap ?_, (by repeat (first | exact Below.refl _ _ | assumption | (refine below_drewN ?_ _) | (refine Below.drew ?_) | (refine Below.alloc ?_ (by first | omega | (simp; omega) | simp) _) | (refine Below.setCell ?_ (by first | omega | (simp; omega) | simp) _) | (refine below_trans ?_ (by assumption) (by first | omega | (simp; omega) | simp))))⟩
        rw [HL.out]
        exact HJ.out
    · have hlen : f.os.length = 3 := by omega
      have HO := OW.out
      have HL := Lib.hid hlen
      rw [show f.os.take 3 = f.os from List.take_of_length_le (by omega)] at HO
      have HJ := Lib.hid HO
      clear HO hlen hk hl
      go_wp2
      go_ret
      refine ⟨A, cap, by rw [HL.out]; rfl, HI.out _ A cap ?_, (by repeat (first | exact Below.refl _ _ | assumption | (refine below_drewN ?_ _) | (refine Below.drew ?_) | (refine Below.alloc ?_ (by first | omega | (simp; omega) | simp) _) | (refine Below.setCell ?_ (by first | omega | (simp; omega) | simp) _) | (refine below_trans ?_ (by assumption) (by first | omega | (simp; omega) | simp))))⟩
      rw [HL.out]
      exact HJ.out
end
end Go.Proofs.YtggaijdbaplfiaaGreatDoor

/- Two instructions are one, or not. -/
namespace Go.Proofs.YtggaijdbaplfiaaGreatDoor
open Go.RowKit Go.Lib
set_option linter.unusedVariables false
set_option linter.unusedSimpArgs false
set_option maxRecDepth 100000
theorem eqShape (d : Nat) (W : World) (n m n' m' : Int) : (Op.equalIn (d + 2) 33 (.agg #[.int .i64 n, .int .u64 m]) (.agg #[.int .i64 n', .int .u64 m'])).run Tryz.prog W = .ok (decide (n = n' ∧ m = m')) W := by
  have hS2 : Tryz.prog.underlying 33 = some (.struct (Tryz.prog.fieldsOf 33)) := by kernel_rfl
  have hp2 : Tryz.prog.stoodInHeld 33 = false := by kernel_rfl
  have u0 := Tryz.underlying3
  have a0 := Tryz.isAgg3
  have z0 := Tryz.sizeOf3
  have u1 := Tryz.underlying31
  have a1 := Tryz.isAgg31
  have z1 := Tryz.sizeOf31
  rw [run_equalIn_agg W (d + 1) 33 _ _ hS2 hp2]
  simp only [Program.fieldsOf, Tryz.underlying33]
  go_simp
  by_cases h_n : n = n'
  case neg => simp [h_n]
  by_cases h_m : m = m'
  case neg => simp [h_n, h_m]
  simp [h_n, h_m]
theorem eqOp (d : Nat) (W : World) (op oa ob fd n m w op' oa' ob' fd' n' m' w' : Int) : (Op.equalIn (d + 3) 35 (.agg #[.int .u8 op, .int .i64 oa, .int .i64 ob, .int .i64 fd, .int .i64 n, .int .u64 m, .int .u64 w]) (.agg #[.int .u8 op', .int .i64 oa', .int .i64 ob', .int .i64 fd', .int .i64 n', .int .u64 m', .int .u64 w'])).run Tryz.prog W = .ok (decide (op = op' ∧ oa = oa' ∧ ob = ob' ∧ fd = fd' ∧ n = n' ∧ m = m' ∧ w = w')) W := by
  have hS2 : Tryz.prog.underlying 35 = some (.struct (Tryz.prog.fieldsOf 35)) := by kernel_rfl
  have hp2 : Tryz.prog.stoodInHeld 35 = false := by kernel_rfl
  have u0 := Tryz.underlying30
  have a0 := Tryz.isAgg30
  have z0 := Tryz.sizeOf30
  have u1 := Tryz.underlying3
  have a1 := Tryz.isAgg3
  have z1 := Tryz.sizeOf3
  have u2 := Tryz.underlying31
  have a2 := Tryz.isAgg31
  have z2 := Tryz.sizeOf31
  have a3 := Tryz.isAgg33
  have z3 := Tryz.sizeOf33
  have H3 := eqShape d
  rw [run_equalIn_agg W (d + 2) 35 _ _ hS2 hp2]
  simp only [Program.fieldsOf, Tryz.underlying35]
  go_simp
  by_cases h_op : op = op'
  case neg => simp [h_op]
  by_cases h_oa : oa = oa'
  case neg => simp [h_op, h_oa]
  by_cases h_ob : ob = ob'
  case neg => simp [h_op, h_oa, h_ob]
  by_cases h_fd : fd = fd'
  case neg => simp [h_op, h_oa, h_ob, h_fd]
  by_cases h_n : n = n'
  case neg => simp [h_op, h_oa, h_ob, h_fd, h_n]
  by_cases h_m : m = m'
  case neg => simp [h_op, h_oa, h_ob, h_fd, h_n, h_m]
  by_cases h_w : w = w'
  case neg => simp [h_op, h_oa, h_ob, h_fd, h_n, h_m, h_w]
  simp [h_op, h_oa, h_ob, h_fd, h_n, h_m, h_w]
theorem eqInstr (d : Nat) (W : World) (kd op oa ob fd n m w a b to kd' op' oa' ob' fd' n' m' w' a' b' to' : Int) : (Op.equalIn (d + 4) 37 (.agg #[.int .u8 kd, .int .u8 op, .int .i64 oa, .int .i64 ob, .int .i64 fd, .int .i64 n, .int .u64 m, .int .u64 w, .int .i64 a, .int .i64 b, .int .i64 to]) (.agg #[.int .u8 kd', .int .u8 op', .int .i64 oa', .int .i64 ob', .int .i64 fd', .int .i64 n', .int .u64 m', .int .u64 w', .int .i64 a', .int .i64 b', .int .i64 to'])).run Tryz.prog W = .ok (decide (kd = kd' ∧ op = op' ∧ oa = oa' ∧ ob = ob' ∧ fd = fd' ∧ n = n' ∧ m = m' ∧ w = w' ∧ a = a' ∧ b = b' ∧ to = to')) W := by
  have hS2 : Tryz.prog.underlying 37 = some (.struct (Tryz.prog.fieldsOf 37)) := by kernel_rfl
  have hp2 : Tryz.prog.stoodInHeld 37 = false := by kernel_rfl
  have u0 := Tryz.underlying29
  have a0 := Tryz.isAgg29
  have z0 := Tryz.sizeOf29
  have u1 := Tryz.underlying3
  have a1 := Tryz.isAgg3
  have z1 := Tryz.sizeOf3
  have a2 := Tryz.isAgg35
  have z2 := Tryz.sizeOf35
  have H2 := eqOp d
  rw [run_equalIn_agg W (d + 3) 37 _ _ hS2 hp2]
  simp only [Program.fieldsOf, Tryz.underlying37]
  go_simp
  by_cases h_kd : kd = kd'
  case neg => simp [h_kd]
  by_cases h_op : op = op'
  case neg => simp [h_kd, h_op]
  by_cases h_oa : oa = oa'
  case neg => simp [h_kd, h_op, h_oa]
  by_cases h_ob : ob = ob'
  case neg => simp [h_kd, h_op, h_oa, h_ob]
  by_cases h_fd : fd = fd'
  case neg => simp [h_kd, h_op, h_oa, h_ob, h_fd]
  by_cases h_n : n = n'
  case neg => simp [h_kd, h_op, h_oa, h_ob, h_fd, h_n]
  by_cases h_m : m = m'
  case neg => simp [h_kd, h_op, h_oa, h_ob, h_fd, h_n, h_m]
  by_cases h_w : w = w'
  case neg => simp [h_kd, h_op, h_oa, h_ob, h_fd, h_n, h_m, h_w]
  by_cases h_a : a = a'
  case neg => simp [h_kd, h_op, h_oa, h_ob, h_fd, h_n, h_m, h_w, h_a]
  by_cases h_b : b = b'
  case neg => simp [h_kd, h_op, h_oa, h_ob, h_fd, h_n, h_m, h_w, h_a, h_b]
  by_cases h_to : to = to'
  case neg => simp [h_kd, h_op, h_oa, h_ob, h_fd, h_n, h_m, h_w, h_a, h_b, h_to]
  simp [h_kd, h_op, h_oa, h_ob, h_fd, h_n, h_m, h_w, h_a, h_b, h_to]
theorem eqlI (x y : In) (W : World) (r : Bool) (hr : r = true ↔ x = y) : (binOp .eql 37 (inv x) (inv y)).run Tryz.prog W = .ok (.bool r) W := by
  unfold inv
  rw [run_eql_struct]
  have h := eqInstr 9996 W x.kd x.op x.oa x.ob x.fd x.n x.m x.w x.a x.b x.to y.kd y.op y.oa y.ob y.fd y.n y.m y.w y.a y.b y.to
  have e : decide (x.kd = y.kd ∧ x.op = y.op ∧ x.oa = y.oa ∧ x.ob = y.ob ∧ x.fd = y.fd ∧ x.n = y.n ∧ (x.m : Int) = y.m ∧ (x.w : Int) = y.w ∧ x.a = y.a ∧ x.b = y.b ∧ x.to = y.to) = r := by
    rw [In.ext_iff11] at hr
    have hm : ((x.m : Int) = y.m) ↔ x.m = y.m := by omega
    have hw : ((x.w : Int) = y.w) ↔ x.w = y.w := by omega
    simp only [hm, hw]
    cases r
    · simpa using hr
    · simpa using hr
  rw [e] at h
  simp only [Sem.run_bind, h]
  first | rfl | (simp [Sem.run_pure]; done) | (rw [h]; rfl)
theorem eq_guard : Tryz.prog.eqGuardType Tryz.prog.depth 37 = false := by kernel_rfl
end Go.Proofs.YtggaijdbaplfiaaGreatDoor

/- Contracts of package asm: valid, Check. -/
namespace Go.Proofs.YtggaijdbaplfiaaGreatDoor
open Go.RowKit
set_option linter.unusedVariables false
set_option linter.unusedSimpArgs false
/-- the numbers that an instruction can hold -/
structure InR (x : In) : Prop where
  oa : I63 x.oa
  ob : I63 x.ob
  fd : I63 x.fd
  n : I63 x.n
  m : x.m < 18446744073709551616
  w : x.w < 18446744073709551616
  a : I63 x.a
  b : I63 x.b
  to : I63 x.to
def gV (o : Nat) (x : In) : Int := if o = 5 ∨ o = 6 then getO o x else IntKind.u64.wrap (getO o x)
theorem wrap_u (v : Int) (h : I63 v) : IntKind.u64.wrap v = if 0 ≤ v then v else v + 18446744073709551616 := by
  unfold I63 at h
  unfold IntKind.wrap
  simp [IntKind.signed, IntKind.bits]
  omega
theorem gV_spec {x : In} (hx : InR x) (o : Nat) (ho1 : 1 ≤ o) (ho9 : o ≤ 9) (c : Int) (hc0 : 0 ≤ c) (hc1 : c ≤ 256) : (inO c x o ∧ gV o x = getO o x ∧ ¬ mostO o c < gV o x ∧ 0 ≤ gV o x ∧ ((o = 5 ∨ o = 6) ∨ gV o x < 9223372036854775808)) ∨ (¬ inO c x o ∧ mostO o c < gV o x) := by
  obtain ⟨h1, h2, h3, h4, h5, h6, h7, h8, h9⟩ := hx
  have hcs : o = 1 ∨ o = 2 ∨ o = 3 ∨ o = 4 ∨ o = 5 ∨ o = 6 ∨ o = 7 ∨ o = 8 ∨ o = 9 := by omega
  unfold inO gV
  rcases hcs with rfl | rfl | rfl | rfl | rfl | rfl | rfl | rfl | rfl
  case inr.inr.inr.inr.inl => left; simp [getO, mostO]; omega
  case inr.inr.inr.inr.inr.inl => left; simp [getO, mostO]; omega
  all_goals
    simp only [getO, mostO, Nat.reduceEqDiff, or_self, if_false, false_or]
    first | rw [wrap_u _ h1] | rw [wrap_u _ h2] | rw [wrap_u _ h3] | rw [wrap_u _ h4] | rw [wrap_u _ h7] | rw [wrap_u _ h8] | rw [wrap_u _ h9]
    unfold I63 at *
    split
    all_goals omega
theorem mkN_snoc (x : In) (os : List Nat) (o : Nat) (z : In) : mkN x (os ++ [o]) z = putO o (getO o x) (mkN x os z) := by simp [mkN]
theorem mkN_next (x : In) (os : List Nat) (k : Nat) (hk : k < os.length) (z : In) : mkN x (os.take (k + 1)) z = putO (os.getD k 0) (getO (os.getD k 0) x) (mkN x (os.take k) z) := by
  rw [List.take_add_one, List.getElem?_eq_getElem hk, Option.toList_some, mkN_snoc]
  simp [hk]
theorem ORow.set {w : World} {b off G : Nat} {os : List Nat} (h : ORow w (some ⟨b, off, none⟩) os) (hne : b ≠ G) (j : Nat) (v : Value) : ORow (w.setCell ⟨G, j, none⟩ v) (some ⟨b, off, none⟩) os :=
  ⟨h.in_, fun hl => by
    obtain ⟨b', off', e, hlt, hc⟩ := h.at_ hl
    simp only [Option.some.injEq, Addr.mk.injEq, and_true] at e
    obtain ⟨rfl, rfl⟩ := e
    exact ⟨b, off, rfl, by simpa using hlt, fun i hi => by
      rw [← hc i hi]
      simp [go_sem, hne]⟩⟩
section
variable {w : World}
theorem formOf_some {x : In} {f : Fm} (hL : Lw w) (h : formOf x = some f) : Calls Tryz.prog 50 #[.agg #[.int .u8 x.kd, .int .u8 x.op, .int .i64 x.oa, .int .i64 x.ob, .int .i64 x.fd, .int .i64 x.n, .int .u64 x.m, .int .u64 x.w, .int .i64 x.a, .int .i64 x.b, .int .i64 x.to]] w fun e w' => e = .returned (.tuple #[.agg #[.string (bs f.nm), .int .u8 f.kd, .int .u8 f.op, .int .i64 (opn f 0), .int .i64 (opn f 1), .int .i64 (opn f 2)], .bool true]) ∧ Below w.heap.size w w' := by
  have := formOf_any (w := w) x hL
  rw [h] at this
  exact this
theorem formOf_none {x : In} (hL : Lw w) (h : formOf x = none) : Calls Tryz.prog 50 #[.agg #[.int .u8 x.kd, .int .u8 x.op, .int .i64 x.oa, .int .i64 x.ob, .int .i64 x.fd, .int .i64 x.n, .int .u64 x.m, .int .u64 x.w, .int .i64 x.a, .int .i64 x.b, .int .i64 x.to]] w fun e w' => e = .returned (.tuple #[.agg #[.string (bs fm0.nm), .int .u8 fm0.kd, .int .u8 fm0.op, .int .i64 (opn fm0 0), .int .i64 (opn fm0 1), .int .i64 (opn fm0 2)], .bool false]) ∧ Below w.heap.size w w' := by
  have := formOf_any (w := w) x hL
  rw [h] at this
  exact this
theorem bare_agg (f : Fm) : Calls Tryz.prog 51 #[.agg #[.string (bs f.nm), .int .u8 f.kd, .int .u8 f.op, .int .i64 (opn f 0), .int .i64 (opn f 1), .int .i64 (opn f 2)]] w fun e w' => e = .returned (.agg #[.int .u8 (bare f).kd, .int .u8 (bare f).op, .int .i64 (bare f).oa, .int .i64 (bare f).ob, .int .i64 (bare f).fd, .int .i64 (bare f).n, .int .u64 (bare f).m, .int .u64 (bare f).w, .int .i64 (bare f).a, .int .i64 (bare f).b, .int .i64 (bare f).to]) ∧ Below w.heap.size w w' := bare_any f
theorem list_agg (f : Fm) (hf : WfF f) : Calls Tryz.prog 52 #[.agg #[.string (bs f.nm), .int .u8 f.kd, .int .u8 f.op, .int .i64 (opn f 0), .int .i64 (opn f 1), .int .i64 (opn f 2)]] w fun e w' => ∃ A cap, e = .returned (.slice A f.os.length cap) ∧ (ORow w' A f.os ∧ ∀ a, A = some a → w.heap.size ≤ a.block) ∧ Below w.heap.size w w' := list_any f hf
theorem get_agg (o : Nat) (h0 : 1 ≤ o) (h : o ≤ 9) (x : In) : Calls Tryz.prog 53 #[.int .i64 (o : Nat), .agg #[.int .u8 x.kd, .int .u8 x.op, .int .i64 x.oa, .int .i64 x.ob, .int .i64 x.fd, .int .i64 x.n, .int .u64 x.m, .int .u64 x.w, .int .i64 x.a, .int .i64 x.b, .int .i64 x.to]] w fun e w' => e = .returned (.int .u64 (gV o x)) ∧ Below w.heap.size w w' := get_any o h0 h x
set_option maxRecDepth 100000 in
set_option maxHeartbeats 8000000 in
theorem valid_any (x : In) (c : Int) (hc0 : 0 ≤ c) (hc1 : c ≤ 256) (hx : InR x) (hL : Lw w) (b : Bool) (hb : b = true ↔ OkI c x) : Calls Tryz.prog 30 #[.agg #[.int .u8 x.kd, .int .u8 x.op, .int .i64 x.oa, .int .i64 x.ob, .int .i64 x.fd, .int .i64 x.n, .int .u64 x.m, .int .u64 x.w, .int .i64 x.a, .int .i64 x.b, .int .i64 x.to], .int .i64 c] w fun e w' => e = .returned (.bool b) ∧ Below w.heap.size w w' := by
  have hX := Lib.hid (In11.new w x 37)
  cases hfo : formOf x with
  | none =>
    have HFO := Lib.hid fun (w : World) hL => formOf_none (w := w) (x := x) hL hfo
    obtain rfl : b = false := by
      cases b with
      | false => rfl
      | true =>
        obtain ⟨f, hf, _⟩ := hb.1 rfl
        rw [hfo] at hf
        cases hf
    clear hb
    go_enter Tryz.func30, Tryz.ntmps30
    go_wp2_with fail
    go_at_call 50
    refine (HFO.out _ (hL.later (by repeat (first | exact Below.refl _ _ | assumption | (refine below_drewN ?_ _) | (refine Below.drew ?_) | (refine Below.alloc ?_ (by first | omega | (simp; omega) | simp) _) | (refine Below.setCell ?_ (by first | omega | (simp; omega) | simp) _) | (refine below_trans ?_ (by assumption) (by first | omega | (simp; omega) | simp)))))).mono ?_
    rintro e w1 ⟨rfl, hb_w1⟩
    obtain ⟨hc_w1, hf_w1⟩ := bcell hb_w1; have hz_w1_w_0 : w.heap.size < w1.heap.size := (by have hzz := hb_w1.size; (try simp only [World.size_alloc, World.size_setCell, World.size_drew, World.heap_drewN] at hzz); omega); have hs_w1 := hb_w1.size; (try simp only [World.size_alloc, World.size_setCell, World.size_drew, World.heap_drewN] at hs_w1)
    go_wp2
    go_ret
    exact ⟨rfl, (by repeat (first | exact Below.refl _ _ | assumption | (refine below_drewN ?_ _) | (refine Below.drew ?_) | (refine Below.alloc ?_ (by first | omega | (simp; omega) | simp) _) | (refine Below.setCell ?_ (by first | omega | (simp; omega) | simp) _) | (refine below_trans ?_ (by assumption) (by first | omega | (simp; omega) | simp))))⟩
  | some f =>
    have HFO := Lib.hid fun (w : World) hL => formOf_some (w := w) (x := x) hL hfo
    have hwf : WfF f := by have := formOf_wf x; rw [hfo] at this; exact this
    have HWF := Lib.hid hwf
    have HB : Hid (b = true ↔ (∀ o ∈ f.os, inO c x o) ∧ mkI f x = x ∧ Sh x.n x.m) := Lib.hid (hb.trans ⟨fun ⟨f', h1, h2⟩ => by rw [hfo] at h1; injection h1 with h1; subst h1; exact h2, fun h => ⟨f, hfo, h⟩⟩)
    have HBA := Lib.hid fun (w : World) => bare_agg (w := w) f
    have HLI := Lib.hid fun (w : World) => list_agg (w := w) f hwf
    have HGE := Lib.hid fun (w : World) (o : Nat) h1 h9 => get_agg (w := w) o h1 h9 x
    have HGV := Lib.hid fun (o : Nat) h1 h9 => gV_spec hx o h1 h9 c hc0 hc1
    have hop : Hid (∀ k, k < f.os.length → 1 ≤ f.os.getD k 0 ∧ f.os.getD k 0 ≤ 9) := Lib.hid fun k hk => by
      rw [List.getD_eq_getElem?_getD, List.getElem?_eq_getElem hk]
      exact hwf.2 _ (List.getElem_mem hk)
    have hl3 := hwf.1
    have HQ := Lib.hid fun (z : In) (r : Bool) hr (W : World) => eqlI z x W r hr
    have hgd := eq_guard
    have hsm : x.m < W64 := hx.m
    have HSM := Lib.hid hsm
    clear hb hfo hwf hsm
    go_enter Tryz.func30, Tryz.ntmps30
    go_wp2_with fail
    go_at_call 50
    refine (HFO.out _ (hL.later (by repeat (first | exact Below.refl _ _ | assumption | (refine below_drewN ?_ _) | (refine Below.drew ?_) | (refine Below.alloc ?_ (by first | omega | (simp; omega) | simp) _) | (refine Below.setCell ?_ (by first | omega | (simp; omega) | simp) _) | (refine below_trans ?_ (by assumption) (by first | omega | (simp; omega) | simp)))))).mono ?_
    rintro e w1 ⟨rfl, hb_w1⟩
    obtain ⟨hc_w1, hf_w1⟩ := bcell hb_w1; have hz_w1_w_0 : w.heap.size < w1.heap.size := (by have hzz := hb_w1.size; (try simp only [World.size_alloc, World.size_setCell, World.size_drew, World.heap_drewN] at hzz); omega); have hs_w1 := hb_w1.size; (try simp only [World.size_alloc, World.size_setCell, World.size_drew, World.heap_drewN] at hs_w1)
    have hX1 := Lib.hid (hX.out.later hb_w1)
    have b1 : Below w.heap.size w w1 := (by repeat (first | exact Below.refl _ _ | assumption | (refine below_drewN ?_ _) | (refine Below.drew ?_) | (refine Below.alloc ?_ (by first | omega | (simp; omega) | simp) _) | (refine Below.setCell ?_ (by first | omega | (simp; omega) | simp) _) | (refine below_trans ?_ (by assumption) (by first | omega | (simp; omega) | simp))))
    have g1 : w.heap.size < w1.heap.size := hX1.out.lt
    go_wp2_with fail
    go_at_call 51
    refine (HBA.out _).mono ?_
    rintro e w2 ⟨rfl, hb_w2⟩
    obtain ⟨hc_w2, hf_w2⟩ := bcell hb_w2; have hz_w2_w1_0 : w1.heap.size < w2.heap.size := (by have hzz := hb_w2.size; (try simp only [World.size_alloc, World.size_setCell, World.size_drew, World.heap_drewN] at hzz); omega); have hs_w2 := hb_w2.size; (try simp only [World.size_alloc, World.size_setCell, World.size_drew, World.heap_drewN] at hs_w2)
    have b2 : Below w.heap.size w w2 := (by repeat (first | exact Below.refl _ _ | assumption | (refine below_drewN ?_ _) | (refine Below.drew ?_) | (refine Below.alloc ?_ (by first | omega | (simp; omega) | simp) _) | (refine Below.setCell ?_ (by first | omega | (simp; omega) | simp) _) | (refine below_trans ?_ (by assumption) (by first | omega | (simp; omega) | simp))))
    have hF2 : Hid (Fm6 w2 w1.heap.size f) := Lib.hid ((Fm6.new w1 f 99).later hb_w2)
    have hX2 := Lib.hid (hX1.out.later (show Below w1.heap.size w1 w2 from below_trans (Below.alloc (Below.refl _ _) (Nat.le_refl _) _) hb_w2 (by simp)))
    have g2 : w1.heap.size < w2.heap.size := hF2.out.lt
    obtain ⟨f0, f1, f2, f3, f4, f5⟩ := id hF2.out
    go_wp2_with fail
    go_at_call 52
    refine (HLI.out _).mono ?_
    rintro e w3 ⟨A, cap, rfl, ⟨hor, hab0⟩, hb_w3⟩
    obtain ⟨hc_w3, hf_w3⟩ := bcell hb_w3; have hz_w3_w2_0 : w2.heap.size < w3.heap.size := (by have hzz := hb_w3.size; (try simp only [World.size_alloc, World.size_setCell, World.size_drew, World.heap_drewN] at hzz); omega); have hs_w3 := hb_w3.size; (try simp only [World.size_alloc, World.size_setCell, World.size_drew, World.heap_drewN] at hs_w3)
    have b3 : Below w.heap.size w w3 := (by repeat (first | exact Below.refl _ _ | assumption | (refine below_drewN ?_ _) | (refine Below.drew ?_) | (refine Below.alloc ?_ (by first | omega | (simp; omega) | simp) _) | (refine Below.setCell ?_ (by first | omega | (simp; omega) | simp) _) | (refine below_trans ?_ (by assumption) (by first | omega | (simp; omega) | simp))))
    have hM3 : Hid (In11 w3 w2.heap.size 0 (bare f)) := Lib.hid ((In11.new w2 (bare f) 37).later hb_w3)
    have hZ3 : Hid (∀ o, w3.frozen? ⟨w2.heap.size, o, none⟩ = false) := Lib.hid (fz_later (fz_new w2 #[.int .u8 (bare f).kd, .int .u8 (bare f).op, .int .i64 (bare f).oa, .int .i64 (bare f).ob, .int .i64 (bare f).fd, .int .i64 (bare f).n, .int .u64 (bare f).m, .int .u64 (bare f).w, .int .i64 (bare f).a, .int .i64 (bare f).b, .int .i64 (bare f).to] 37) hb_w3 (by simp))
    have hX3 := Lib.hid (hX2.out.later (show Below w2.heap.size w2 w3 from below_trans (Below.alloc (Below.refl _ _) (Nat.le_refl _) _) hb_w3 (by simp)))
    have hor3 := Lib.hid hor
    have hab1 : Hid (∀ a, A = some a → w2.heap.size < a.block) := Lib.hid fun a ha => by have := hab0 a ha; simp only [World.size_alloc] at this; omega
    have g3 : w2.heap.size < w3.heap.size := hM3.out.lt
    clear hor hab0 f0 f1 f2 f3 f4 f5 hF2 hX1 hX2 hX hb_w1 hb_w2 hb_w3 hc_w1 hf_w1 hc_w2 hf_w2 hc_w3 hf_w3
    generalize hg2 : w2.heap.size = G at *
    have hG0 : w.heap.size < G := by omega
    clear hg2
    go_wp2_with fail
    go_loopw [23] (fun ii wr => ∃ k : Nat, ii = .int .i64 (k : Nat) ∧ k ≤ f.os.length ∧ Hid (∀ j, j < k → inO c x (f.os.getD j 0)) ∧ Hid (In11 wr G 0 (mkN x (f.os.take k) (bare f))) ∧ Hid (∀ o, wr.frozen? ⟨G, o, none⟩ = false) ∧ Hid (In11 wr w.heap.size 0 x) ∧ Hid (ORow wr A f.os) ∧ Below w.heap.size w wr) (fun ii _ => f.os.length - (intOf ii).toNat)
    case atStart => exact ⟨0, rfl, Nat.zero_le _, Lib.hid (fun j hj => by omega), hM3, hZ3, hX3, hor3, b3⟩
    case round =>
      clear hM3 hZ3 hX3 hor3
      have HAB := hab1
      obtain ⟨k, rfl, hk, HA, HM, HZ, HX, HO, hb_wr⟩ := hrel
      have hsr := hb_wr.size
      have hgr := HM.out.lt
      by_cases hlt : k < f.os.length
      · obtain ⟨ab, aoff, rfl, hab, hac⟩ := HO.out.at_ (by rw [opI_len]; omega)
        have hak := hac k (by rw [opI_len]; exact hlt)
        rw [opI_get f.os k hlt] at hak
        obtain ⟨p1, p9⟩ := hop.out k hlt
        have hk0 : (0 : Int) ≤ (k : Int) := by omega
        have hk1 : (k : Int) < (f.os.length : Int) := by omega
        have HN := Lib.hid (mkN_next x f.os k hlt (bare f))
        have hgv := HGV.out _ p1 p9
        clear hac
        generalize ho : f.os.getD k 0 = o at *
        obtain ⟨c0, c1, c2, c3, c4, c5, c6, c7, c8, c9, c10⟩ := id HX.out
        simp only [Nat.zero_add] at c0 c1 c2 c3 c4 c5 c6 c7 c8 c9 c10
        rcases hgv with ⟨q1, q2, q3, q4, q5⟩ | ⟨q1, q3⟩
        · have e1 : decide (mostO o c < gV o x) = false := decide_eq_false (by omega)
          have HQ2 := Lib.hid q2
          clear q2 q3
          have HA2 : Hid (∀ j, j < k + 1 → inO c x (f.os.getD j 0)) := Lib.hid fun j hj => by
            by_cases e : j = k
            · rw [e, ho]; exact q1
            · exact HA.out j (by omega)
          have HPV := Lib.hid fun (W : World) (s : In) h1 h2 => put_any (w := W) o p1 p9 (gV o x) q4 q5 G s h1 h2
          have HMP := Lib.hid fun (W : World) (s : In) (h : In11 W G 0 s) => h.put o p1 p9 (gV o x) q4
          have HMO := Lib.hid fun (W : World) => most_any (w := W) o p1 p9 c hc0 (by omega)
          have HGO := Lib.hid fun (W : World) => HGE.out W o p1 p9
          clear q1 q4 q5 ho
          go_wp2_with fail
          go_at_call 53
          refine (HGO.out _).mono ?_
          rintro e w4 ⟨rfl, hb_w4⟩
          obtain ⟨hc_w4, hf_w4⟩ := bcell hb_w4; have hs_w4 := hb_w4.size; (try simp only [World.size_alloc, World.size_setCell, World.size_drew, World.heap_drewN] at hs_w4)
          go_wp2_with fail
          go_at_call 54
          refine (HMO.out _).mono ?_
          rintro e w5 ⟨rfl, rfl⟩
          go_wp2_with fail
          go_at_call 55
          refine (HPV.out _ _ (HM.out.later hb_w4) (fz_later HZ.out hb_w4 hgr)).mono ?_
          rintro e w6 ⟨rfl, rfl⟩
          have HM5 := HMP.out _ _ (HM.out.later hb_w4)
          have HN2 := HN.out
          rw [← HQ2.out] at HN2
          rw [← HN2] at HM5
          clear HN2
          have b5 : Below wr.heap.size wr w5 := hb_w4
          have hM5 := Lib.hid HM5
          have hZ5 : Hid (∀ o', (w5.setCell ⟨G, jO o, none⟩ (vO o (gV o x))).frozen? ⟨G, o', none⟩ = false) := Lib.hid (fz_put (fz_later HZ.out hb_w4 hgr) _ _)
          have hnw : ¬ w.heap.size = G := by omega
          have hX5 : Hid (In11 (w5.setCell ⟨G, jO o, none⟩ (vO o (gV o x))) w.heap.size 0 x) := Lib.hid ((HX.out.later hb_w4).keep fun o' => by simp [go_sem, hnw])
          have hO5 : Hid (ORow (w5.setCell ⟨G, jO o, none⟩ (vO o (gV o x))) (some ⟨ab, aoff, none⟩) f.os) := Lib.hid ((HO.out.later hb_w4).set (by have := HAB.out _ rfl; simp only at this; omega) _ _)
          have hb5 : Below w.heap.size w (w5.setCell ⟨G, jO o, none⟩ (vO o (gV o x))) := below_put o _ (below_trans hb_wr hb_w4 hsr) (by omega)
          go_wp2
          go_roundw
          case rel => exact ⟨k + 1, by go_num, by omega, HA2, hM5, hZ5, hX5, hO5, hb5⟩
          case measure => simp [intOf]; omega
        · have e1 : decide (mostO o c < gV o x) = true := decide_eq_true q3
          obtain rfl : b = false := by
            cases b with
            | false => rfl
            | true =>
              exfalso
              apply q1
              rw [← ho]
              refine (HB.out.1 rfl).1 _ ?_
              rw [List.getD_eq_getElem?_getD, List.getElem?_eq_getElem hlt]
              exact List.getElem_mem hlt
          have HMO := Lib.hid fun (W : World) => most_any (w := W) o p1 p9 c hc0 (by omega)
          have HGO := Lib.hid fun (W : World) => HGE.out W o p1 p9
          clear q1 q3 ho
          go_wp2_with fail
          go_at_call 53
          refine (HGO.out _).mono ?_
          rintro e w4 ⟨rfl, hb_w4⟩
          obtain ⟨hc_w4, hf_w4⟩ := bcell hb_w4; have hs_w4 := hb_w4.size; (try simp only [World.size_alloc, World.size_setCell, World.size_drew, World.heap_drewN] at hs_w4)
          go_wp2_with fail
          go_at_call 54
          refine (HMO.out _).mono ?_
          rintro e w5 ⟨rfl, rfl⟩
          go_wp2
          go_ret
          exact ⟨rfl, (by repeat (first | exact Below.refl _ _ | assumption | (refine below_drewN ?_ _) | (refine Below.drew ?_) | (refine Below.alloc ?_ (by first | omega | (simp; omega) | simp) _) | (refine Below.setCell ?_ (by first | omega | (simp; omega) | simp) _) | (refine below_trans ?_ (by assumption) (by first | omega | (simp; omega) | simp))))⟩
      · obtain rfl : k = f.os.length := by omega
        have hal : ∀ o ∈ f.os, inO c x o := fun o ho => by
          obtain ⟨j, hj, rfl⟩ := List.getElem_of_mem ho
          have := HA.out j hj
          rwa [List.getD_eq_getElem?_getD, List.getElem?_eq_getElem hj] at this
        have hb2 := HB.out
        have HM2 := HM.out
        rw [List.take_length] at HM2
        have hmk : mkN x f.os (bare f) = mkI f x := rfl
        rw [hmk] at HM2
        clear HM hmk HA
        generalize mkI f x = z at *
        obtain ⟨c0, c1, c2, c3, c4, c5, c6, c7, c8, c9, c10⟩ := id HX.out
        simp only [Nat.zero_add] at c0 c1 c2 c3 c4 c5 c6 c7 c8 c9 c10
        obtain ⟨d0, d1, d2, d3, d4, d5, d6, d7, d8, d9, d10⟩ := id HM2
        simp only [Nat.zero_add] at d0 d1 d2 d3 d4 d5 d6 d7 d8 d9 d10
        by_cases hz : z = x
        · have hq := HQ.out z true ⟨fun _ => hz, fun _ => rfl⟩
          unfold inv at hq
          by_cases hs : Sh x.n x.m
          · obtain rfl : b = true := hb2.2 ⟨hal, hz, hs⟩
            have HS := Lib.hid fun (W : World) => hcheck_ok (w := W) hs
            clear hs hal hb2 hz HM2
            go_wp2_with fail
            go_at_call 56
            refine (HS.out _).mono ?_
            rintro e w4 ⟨rfl, hb_w4⟩
            obtain ⟨hc_w4, hf_w4⟩ := bcell hb_w4; have hs_w4 := hb_w4.size; (try simp only [World.size_alloc, World.size_setCell, World.size_drew, World.heap_drewN] at hs_w4)
            go_wp2
            go_ret
            exact ⟨rfl, (by repeat (first | exact Below.refl _ _ | assumption | (refine below_drewN ?_ _) | (refine Below.drew ?_) | (refine Below.alloc ?_ (by first | omega | (simp; omega) | simp) _) | (refine Below.setCell ?_ (by first | omega | (simp; omega) | simp) _) | (refine below_trans ?_ (by assumption) (by first | omega | (simp; omega) | simp))))⟩
          · obtain rfl : b = false := by
              cases b with
              | false => rfl
              | true => exact absurd (hb2.1 rfl).2.2 hs
            have HS := Lib.hid fun (W : World) => hcheck_bad (w := W) HSM.out hs
            clear hs hal hb2 hz HM2
            go_wp2_with fail
            go_at_call 56
            refine (HS.out _).mono ?_
            rintro e w4 ⟨rfl, hb_w4⟩
            obtain ⟨hc_w4, hf_w4⟩ := bcell hb_w4; have hs_w4 := hb_w4.size; (try simp only [World.size_alloc, World.size_setCell, World.size_drew, World.heap_drewN] at hs_w4)
            go_wp2
            go_ret
            exact ⟨rfl, (by repeat (first | exact Below.refl _ _ | assumption | (refine below_drewN ?_ _) | (refine Below.drew ?_) | (refine Below.alloc ?_ (by first | omega | (simp; omega) | simp) _) | (refine Below.setCell ?_ (by first | omega | (simp; omega) | simp) _) | (refine below_trans ?_ (by assumption) (by first | omega | (simp; omega) | simp))))⟩
        · have hq := HQ.out z false ⟨fun h => (by cases h), fun h => absurd h hz⟩
          unfold inv at hq
          obtain rfl : b = false := by
            cases b with
            | false => rfl
            | true => exact absurd (hb2.1 rfl).2.1 hz
          clear hal hb2 hz HM2
          go_wp2
          go_ret
          exact ⟨rfl, (by repeat (first | exact Below.refl _ _ | assumption | (refine below_drewN ?_ _) | (refine Below.drew ?_) | (refine Below.alloc ?_ (by first | omega | (simp; omega) | simp) _) | (refine Below.setCell ?_ (by first | omega | (simp; omega) | simp) _) | (refine below_trans ?_ (by assumption) (by first | omega | (simp; omega) | simp))))⟩
end
end Go.Proofs.YtggaijdbaplfiaaGreatDoor
