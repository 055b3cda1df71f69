/- A law of an append of however many words, none too; queues of which one has grown. -/
import Derived.Test.YtlaladhnidcoiaaG6
import Derived.Deep.AppendLies
namespace Go.Proofs.Ytlaladhnidcoiaa
open Go.RowKit
set_option linter.unusedVariables false
set_option linter.unusedSimpArgs false

theorem own_emptyU (w w' : World) (B : Nat) (hB : B ≤ w.heap.size) (h : w'.heap = (w.alloc (.cells #[] 30)).heap) : w'.ownsRow B 30 1 (.slice (some ⟨w.heap.size, 0, none⟩) 0 0) 0 [] :=
  ⟨rfl, .inr ⟨w.heap.size, 0, #[], rfl, hB, by rw [h]; exact heap_alloc_new _ _, Nat.le_refl _, Nat.zero_le _, rfl, rfl⟩⟩
theorem run_append_noneU {w : World} (ty : TypeId) (v : Value) (n c : Nat) (xs : List Value) (base : Nat) (hown : w.ownsRow base 30 1 v n xs) :
    (Builtin.append_ #[25, 25] ty #[v, .slice none 0 c]).run Try.prog w = .ok v w := by
  obtain ⟨i0, hi, hz0, hz1, hz2⟩ := info_parts info_u64
  obtain ⟨_, ⟨rfl, rfl⟩ | ⟨g, cap, cur, rfl, _, hg, hc, hm, _, _⟩⟩ := hown
  · simp [Builtin.append_, run_underlying Try.underlying25, sizeOf, typeInfo, hi, hz1, Builtin.lenOf, Builtin.firstCells, storeCells]
  · have h1 : ¬ (9223372036854775807 < (n : Int)) := by unfold maxLen at hm; omega
    have hl : ∀ (x : Addr), (loadCells x 0).run Try.prog w = .ok #[] w := fun x => by simpa using run_loadCells_list (P := Try.prog) w x [] (by simp)
    simp [Builtin.append_, run_underlying Try.underlying25, sizeOf, typeInfo, hi, hz1, Builtin.lenOf, Builtin.firstCells, storeCells, hc, hl, h1]
theorem wp_appendQ {w : World} {o : Oper} {a : Act} {K : Act → World → Prop} {Q : Exit → Act → World → Prop} (s x : Operand)
    (ho : o.op = .call { callee := .builtin .append, args := #[s, x], argTypes := #[25, 25] })
    (base : Nat) (A : Option Addr) (cap n : Nat) (xs : List Value) (hs : a.eval s = .slice A n cap) (hown : w.ownsRow base 30 1 (.slice A n cap) n xs)
    (Ao : Option Addr) (m c : Nat) (news : List Value) (hx : a.eval x = .slice Ao m c) (hl : news.length = m) (hpos : 0 < m → ∃ b off, Ao = some ⟨b, off, none⟩ ∧ ∀ j u, news[j]? = some u → w.cell? ⟨b, off + j, none⟩ = some u) (h1 : ∀ u ∈ news, u.oneCell' = true)
    (hsm : (n + m) * 8 ≤ 140737488355328) (hbase : base ≤ w.heap.size)
    (h : ∀ A' cap' w', w'.ownsRow base 30 1 (.slice A' (n + m) cap') (n + m) (xs ++ news) → w.grownBy w' (A.map fun a => a.block) → Below base w w' → (A' = A ∨ A' = some ⟨w.heap.size, 0, none⟩) → K (a.put o.dst (.slice A' (n + m) cap')) w') :
    Oper.wp Try.prog o a w K Q := by
  obtain ⟨i0, hi, hz0, hz1, hz2⟩ := info_parts info_u64
  have key : ∃ A' cap' w', (Builtin.append_ #[25, 25] o.type #[.slice A n cap, .slice Ao m c]).run Try.prog w = .ok (.slice A' (n + m) cap') w' ∧ w'.ownsRow base 30 1 (.slice A' (n + m) cap') (n + m) (xs ++ news) ∧ w.grownBy w' (A.map fun a => a.block) ∧ Below base w w' ∧ (A' = A ∨ A' = some ⟨w.heap.size, 0, none⟩) := by
    have hob : (Value.slice A n cap).ownBlock = A.map fun a => a.block := by cases A <;> rfl
    by_cases hm : 0 < m
    · obtain ⟨b, off, rfl, hc⟩ := hpos hm
      obtain ⟨g, cap', w', h2, h3, h4, h5, _⟩ := run_append_lies (P := Try.prog) w 25 o.type base 30 i0 _ 1 8 Try.underlying25 hi hz0 hz1 hz2 rfl (by omega) (.slice A n cap) n xs hown ⟨b, off, none⟩ m c news (by omega) (fun j u hj => by rw [add_form]; exact hc j u hj) h1 hm (by unfold maxLen; omega) (by omega) hbase _ rfl
      refine ⟨_, cap', w', h2, h3, by rw [← hob]; exact h4, (Below.refl _ _).grown h4 hbase (fun k hk => (hown.lt k hk).1), ?_⟩
      rcases h5 with h5 | h5
      · left
        obtain ⟨_, ⟨e1, _⟩ | ⟨g', _, _, e1, _⟩⟩ := hown
        · injection e1 with e1
          subst e1
          cases h5
        · injection e1 with e1
          subst e1
          injection h5 with h5
          have h5' : g' = g := h5
          rw [h5']
      · right
        rw [h5]
    · obtain rfl : m = 0 := by omega
      obtain rfl : news = [] := List.eq_nil_of_length_eq_zero (by omega)
      cases Ao with
      | none => exact ⟨A, cap, w, run_append_noneU _ _ n c xs base hown, by simpa using hown, ⟨rfl, rfl, rfl, Nat.le_refl _, fun _ _ _ => rfl⟩, Below.refl _ _, .inl rfl⟩
      | some ad =>
        have hl : ∀ (x : Addr), (loadCells x 0).run Try.prog w = .ok #[] w := fun x => by simpa using run_loadCells_list (P := Try.prog) w x [] (by simp)
        have h2 : (Builtin.append_ #[25, 25] o.type #[.slice A n cap, .slice (some ad) 0 c]).run Try.prog w = .ok (.slice A n cap) w := by
          obtain ⟨_, ⟨e1, rfl⟩ | ⟨g, cap', cur, e1, _, hg, hc, hm, _, _⟩⟩ := id hown
          · injection e1 with e1 _ e3
            subst e1 e3
            simp [Builtin.append_, run_underlying Try.underlying25, sizeOf, typeInfo, hi, hz1, Builtin.lenOf, Builtin.firstCells, storeCells, hl]
          · injection e1 with e1 _ e3
            subst e1 e3
            have h1 : ¬ (9223372036854775807 < (n : Int)) := by unfold maxLen at hm; omega
            simp [Builtin.append_, run_underlying Try.underlying25, sizeOf, typeInfo, hi, hz1, Builtin.lenOf, Builtin.firstCells, storeCells, hc, hl, h1]
        exact ⟨A, cap, w, h2, by simpa using hown, ⟨rfl, rfl, rfl, Nat.le_refl _, fun _ _ _ => rfl⟩, Below.refl _ _, .inl rfl⟩
  obtain ⟨A', cap', w', h2, h3, h5, h4, h6⟩ := key
  unfold Oper.wp execOp
  simp only [ho, resolve, invoke, builtin, Sem.run_bind, Sem.run_pure, Result.andThen_ok, List.map_toArray, List.map_cons, List.map_nil, hs, hx, h2]
  exact h A' cap' w' h3 h5 h4 h6
theorem step_appendQ {w : World} {ops : Array Oper} {o : Oper} {a : Act} {K : Act → World → Prop} {Q : Exit → Act → World → Prop} {E : Prop} (hgd : o.guard = none) (s x : Operand)
    (ho : o.op = .call { callee := .builtin .append, args := #[s, x], argTypes := #[25, 25] })
    (base : Nat) (A : Option Addr) (cap n : Nat) (xs : List Value) (hs : a.eval s = .slice A n cap) (hown : w.ownsRow base 30 1 (.slice A n cap) n xs)
    (Ao : Option Addr) (m c : Nat) (news : List Value) (hx : a.eval x = .slice Ao m c) (hl : news.length = m) (hpos : 0 < m → ∃ b off, Ao = some ⟨b, off, none⟩ ∧ ∀ j u, news[j]? = some u → w.cell? ⟨b, off + j, none⟩ = some u) (h1 : ∀ u ∈ news, u.oneCell' = true)
    (hsm : (n + m) * 8 ≤ 140737488355328) (hbase : base ≤ w.heap.size)
    (h : ∀ A' cap' w', w'.ownsRow base 30 1 (.slice A' (n + m) cap') (n + m) (xs ++ news) → w.grownBy w' (A.map fun a => a.block) → Below base w w' → (A' = A ∨ A' = some ⟨w.heap.size, 0, none⟩) → K (a.put o.dst (.slice A' (n + m) cap')) w') :
    if Region.wanted o (yielded ops a.tmps) = true then Oper.wp Try.prog o a w K Q else E := by
  rw [if_pos (by simp [Region.wanted, hgd])]
  exact wp_appendQ s x ho base A cap n xs hs hown Ao m c news hx hl hpos h1 hsm hbase h
theorem owns_kept {w w' : World} {B s n : Nat} {e : TypeId} {A : Option Addr} {cap : Nat} {xs : List Value} {row : Option Nat} (h : w.ownsRow B e s (.slice A n cap) n xs) (hg : w.grownBy w' row) (hne : ∀ g, A = some ⟨g, 0, none⟩ → row ≠ some g) : w'.ownsRow B e s (.slice A n cap) n xs := by
  refine World.ownsRow.kept h hg ?_
  obtain ⟨_, ⟨h1, _⟩ | ⟨g, c, cur, h1, _⟩⟩ := id h
  · injection h1 with h1
    subst h1
    exact .inl rfl
  · injection h1 with h1
    subst h1
    exact .inr (fun e => hne g rfl e.symm)
theorem OwnsN.kept {w w' : World} {B n cap : Nat} {A : Option Addr} {t : List Nat} {row : Option Nat} (h : OwnsN w B A n cap t) (hg : w.grownBy w' row) (hne : ∀ g, A = some ⟨g, 0, none⟩ → row ≠ some g) : OwnsN w' B A n cap t :=
  ⟨h.len, h.words, owns_kept h.row_ hg hne⟩
theorem GTwin.kept {w w' : World} {B cap M : Nat} {A : Option Addr} {vs : List Qv} (h : GTwin w B A cap vs) (hg : w.grownBy w' (some M)) (hM : M < B) : GTwin w' B A cap vs :=
  ⟨owns_kept h.hd hg (fun g e e2 => by
    injection e2 with e2
    have := (h.hd.lt g (by rw [e]; rfl)).1
    omega), fun i hi => (h.rows i hi).kept hg (fun g e e2 => by
    injection e2 with e2
    rcases (h.rows i hi).adr with h1 | ⟨g', h1, h2, _⟩
    · rw [h1] at e; cases e
    · rw [h1] at e
      injection e with e
      injection e with e
      omega), h.off, h.apart⟩
/-- copies of which one has been appended to -/
theorem gtwin_put {w w5 : World} {B c g k L' c' : Nat} {vs : List Qv} {q' : List Nat} {A' : Option Addr} (h : GTwin w B (some ⟨g, 0, none⟩) c vs) (hg : g < w.heap.size) (hk : k < vs.length) (hg5 : w.grownBy w5 ((vs[k]).A.map fun a => a.block)) (ho : OwnsN w5 B A' L' c' q') (hA : A' = (vs[k]).A ∨ A' = some ⟨w.heap.size, 0, none⟩) :
    GTwin (w5.setCell ⟨g, k, none⟩ (.slice A' L' c')) B (some ⟨g, 0, none⟩) c (vs.set k ⟨A', c', q'⟩) := by
  have hBg : B ≤ g := (h.hd.lt g rfl).1
  have hLq : q'.length = L' := ho.len
  have hrow : ∀ g2, some g2 = ((vs[k]).A.map fun a => a.block) → (vs[k]).A = some ⟨g2, 0, none⟩ := fun g2 e => by
    rcases (h.rows k hk).adr with h1 | ⟨g', h1, _⟩
    · rw [h1] at e; cases e
    · rw [h1] at e ⊢
      injection e with e
      have e : g2 = g' := e
      rw [e]
  have hA0 : A' ≠ some ⟨g, 0, none⟩ := fun e => by
    rcases hA with h1 | h1
    · exact h.off k hk g rfl (h1.symm.trans e)
    · rw [h1] at e
      injection e with e
      injection e with e
      omega
  have hset : ∀ {A2 : Option Addr} {n2 c2 : Nat} {t2 : List Nat}, OwnsN w5 B A2 n2 c2 t2 → A2 ≠ some ⟨g, 0, none⟩ → OwnsN (w5.setCell ⟨g, k, none⟩ (.slice A' L' c')) B A2 n2 c2 t2 := fun {A2 n2 c2 t2} hh hne => ⟨hh.len, hh.words, by
    obtain ⟨h0, h1 | ⟨g2, cc, cur, h1, h2, h3, h4⟩⟩ := hh.row_
    · exact ⟨h0, .inl h1⟩
    · refine ⟨h0, .inr ⟨g2, cc, cur, h1, h2, ?_, h4⟩⟩
      rw [Below.heap_setCell _ _ _ _ (fun e => hne (by injection h1 with h1; rw [h1]; have e : g2 = g := e; rw [e]))]
      exact h3⟩
  have hold : ∀ i (hi : i < vs.length), i ≠ k → ∀ g2, (vs[i]).A = some ⟨g2, 0, none⟩ → ((vs[k]).A.map fun a => a.block) ≠ some g2 := fun i hi hne g2 e e2 => h.apart i k hi hk hne g2 e (hrow g2 e2.symm)
  refine ⟨?_, fun i hi => ?_, fun i hi g2 e => ?_, fun i j hi hj hne g2 e => ?_⟩
  · rw [List.length_set]
    have h1 := owns_kept h.hd hg5 (fun g2 e e2 => by
      injection e with e
      injection e with e
      subst e
      exact h.off k hk g rfl (hrow g e2.symm))
    have h2 := (h1.stored k (.slice A' L' c')).1
    have e3 : qflat (vs.set k ⟨A', c', q'⟩) = (qflat vs).set k (.slice A' L' c') := by
      unfold qflat
      rw [List.map_set]
      unfold qval
      rw [hLq]
    rw [e3]
    exact h2
  · rw [List.length_set] at hi
    by_cases e : k = i
    · subst e
      simp only [List.getElem_set_self]
      rw [hLq]
      exact hset ho hA0
    · simp only [List.getElem_set_ne e]
      exact hset ((h.rows i hi).kept hg5 (fun g2 e2 => hold i hi (fun e3 => e e3.symm) g2 e2)) (h.off i hi g rfl)
  · rw [List.length_set] at hi
    injection e with e
    injection e with e
    subst e
    by_cases e : k = i
    · subst e
      simp only [List.getElem_set_self]
      exact hA0
    · simp only [List.getElem_set_ne e]
      exact h.off i hi g rfl
  · rw [List.length_set] at hi hj
    have hnew : ∀ i (hi : i < vs.length), i ≠ k → ∀ g2, (vs[i]).A = some ⟨g2, 0, none⟩ → A' ≠ some ⟨g2, 0, none⟩ := fun i hi hne g2 e e2 => by
      rcases hA with h1 | h1
      · exact h.apart i k hi hk hne g2 e (h1.symm.trans e2)
      · rw [h1] at e2
        injection e2 with e2
        injection e2 with e2
        rcases (h.rows i hi).adr with h3 | ⟨g', h3, _, h4⟩
        · rw [h3] at e; cases e
        · rw [h3] at e
          injection e with e
          injection e with e
          omega
    by_cases e1 : k = i
    · subst e1
      simp only [List.getElem_set_self] at e
      simp only [List.getElem_set_ne hne]
      intro e2
      exact hnew j hj (fun e3 => hne e3.symm) g2 e2 e
    · simp only [List.getElem_set_ne e1] at e
      by_cases e2 : k = j
      · subst e2
        simp only [List.getElem_set_self]
        exact hnew i hi (fun e3 => e1 e3.symm) g2 e
      · simp only [List.getElem_set_ne e2]
        exact h.apart i j hi hj hne g2 e
theorem qsOf_set (vs : List Qv) (k : Nat) (v : Qv) : qsOf (vs.set k v) = (qsOf vs).set k v.q := by
  unfold qsOf
  rw [List.map_set]
end Go.Proofs.Ytlaladhnidcoiaa
