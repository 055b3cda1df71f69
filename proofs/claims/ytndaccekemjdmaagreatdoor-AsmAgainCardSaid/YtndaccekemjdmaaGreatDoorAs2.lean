/- Instructions in memory, one behind the other; a row of them grows. -/
import Derived.Test.YtndaccekemjdmaaGreatDoorOwn
import Derived.Test.YtndaccekemjdmaaGreatDoorAs0
import Derived.Deep.RegionLaw
import Derived.Deep.RegionHeld3
import Derived.Deep.AppendLies
import Derived.Deep.AppendSrc
import Derived.Lib.AppendZerosOnto
import Derived.LoopTactic
namespace Go.Proofs.YtndaccekemjdmaaGreatDoor
open Go.RowKit
set_option linter.unusedVariables false
set_option linter.unusedSimpArgs false

def inv (e : In) : Value := .agg #[.int .u8 e.kd, .int .u8 e.op, .int .i64 e.oa, .int .i64 e.ob, .int .i64 e.fd, .int .i64 e.n, .int .u64 e.m, .int .u64 e.w, .int .i64 e.a, .int .i64 e.b, .int .i64 e.to]
def inc (e : In) : List Value := [.int .u8 e.kd, .int .u8 e.op, .int .i64 e.oa, .int .i64 e.ob, .int .i64 e.fd, .int .i64 e.n, .int .u64 e.m, .int .u64 e.w, .int .i64 e.a, .int .i64 e.b, .int .i64 e.to]
def flatI (l : List In) : List Value := l.flatMap inc
theorem flatI_cons (e : In) (l : List In) : flatI (e :: l) = .int .u8 e.kd :: .int .u8 e.op :: .int .i64 e.oa :: .int .i64 e.ob :: .int .i64 e.fd :: .int .i64 e.n :: .int .u64 e.m :: .int .u64 e.w :: .int .i64 e.a :: .int .i64 e.b :: .int .i64 e.to :: flatI l := rfl
theorem length_flatI (l : List In) : (flatI l).length = l.length * 11 := by
  induction l with
  | nil => rfl
  | cons s l ih =>
    rw [flatI_cons]
    simp only [List.length_cons, ih]
    omega
theorem flatI_append (l m : List In) : flatI (l ++ m) = flatI l ++ flatI m := by simp [flatI]
theorem flatI_one (l : List In) : ∀ v ∈ flatI l, v.oneCell' = true := by
  intro v hv
  simp only [flatI, List.mem_flatMap] at hv
  obtain ⟨s, _, hs⟩ := hv
  simp only [inc, List.mem_cons, List.not_mem_nil, or_false] at hs
  rcases hs with rfl | rfl | rfl | rfl | rfl | rfl | rfl | rfl | rfl | rfl | rfl <;> rfl
theorem flatI_at (l : List In) (i : Nat) (h : i < l.length) : (flatI l)[i * 11]? = some (.int .u8 (nthI l i).kd) ∧ (flatI l)[i * 11 + 1]? = some (.int .u8 (nthI l i).op) ∧ (flatI l)[i * 11 + 2]? = some (.int .i64 (nthI l i).oa) ∧ (flatI l)[i * 11 + 3]? = some (.int .i64 (nthI l i).ob) ∧ (flatI l)[i * 11 + 4]? = some (.int .i64 (nthI l i).fd) ∧ (flatI l)[i * 11 + 5]? = some (.int .i64 (nthI l i).n) ∧ (flatI l)[i * 11 + 6]? = some (.int .u64 (nthI l i).m) ∧ (flatI l)[i * 11 + 7]? = some (.int .u64 (nthI l i).w) ∧ (flatI l)[i * 11 + 8]? = some (.int .i64 (nthI l i).a) ∧ (flatI l)[i * 11 + 9]? = some (.int .i64 (nthI l i).b) ∧ (flatI l)[i * 11 + 10]? = some (.int .i64 (nthI l i).to) := by
  induction l generalizing i with
  | nil => simp at h
  | cons s l ih =>
    cases i with
    | zero => rw [flatI_cons]; exact ⟨rfl, rfl, rfl, rfl, rfl, rfl, rfl, rfl, rfl, rfl, rfl⟩
    | succ i =>
      have := ih i (by simp at h; omega)
      rw [flatI_cons, show (i + 1) * 11 = i * 11 + 1 + 1 + 1 + 1 + 1 + 1 + 1 + 1 + 1 + 1 + 1 by omega]
      exact this
theorem nthI_get (l : List In) (i : Nat) (hi : i < l.length) : nthI l i = l[i] := by
  unfold nthI
  rw [List.getD_eq_getElem?_getD, List.getElem?_eq_getElem hi]
  rfl
theorem nthI_mem (l : List In) (i : Nat) (h : i < l.length) : nthI l i ∈ l := by
  rw [nthI_get l i h]
  exact List.getElem_mem h
theorem take_nthI (l : List In) (i : Nat) (h : i < l.length) : l.take (i + 1) = l.take i ++ [nthI l i] := by
  unfold nthI
  rw [List.getD_eq_getElem?_getD, List.getElem?_eq_getElem h, List.take_add_one, List.getElem?_eq_getElem h]
  rfl
theorem eqI {l m : List In} (hl : l.length = m.length) (h : ∀ j, j < l.length → nthI l j = nthI m j) : l = m := by
  apply List.ext_getElem hl
  intro i h1 h2
  have := h i h1
  rwa [nthI_get l i h1, nthI_get m i h2] at this
/-- an instruction that lies in block g from o on -/
structure In11 (w : World) (g o : Nat) (s : In) : Prop where
  c0 : w.cell? ⟨g, o, none⟩ = some (.int .u8 s.kd)
  c1 : w.cell? ⟨g, o + 1, none⟩ = some (.int .u8 s.op)
  c2 : w.cell? ⟨g, o + 2, none⟩ = some (.int .i64 s.oa)
  c3 : w.cell? ⟨g, o + 3, none⟩ = some (.int .i64 s.ob)
  c4 : w.cell? ⟨g, o + 4, none⟩ = some (.int .i64 s.fd)
  c5 : w.cell? ⟨g, o + 5, none⟩ = some (.int .i64 s.n)
  c6 : w.cell? ⟨g, o + 6, none⟩ = some (.int .u64 s.m)
  c7 : w.cell? ⟨g, o + 7, none⟩ = some (.int .u64 s.w)
  c8 : w.cell? ⟨g, o + 8, none⟩ = some (.int .i64 s.a)
  c9 : w.cell? ⟨g, o + 9, none⟩ = some (.int .i64 s.b)
  c10 : w.cell? ⟨g, o + 10, none⟩ = some (.int .i64 s.to)
theorem In11.lt {w : World} {g o : Nat} {s : In} (h : In11 w g o s) : g < w.heap.size := World.block_lt_of_cell? w _ h.c0
theorem In11.keep {w w' : World} {g o : Nat} {s : In} (h : In11 w g o s) (hk : ∀ o, w'.cell? ⟨g, o, none⟩ = w.cell? ⟨g, o, none⟩) : In11 w' g o s :=
  ⟨(hk _).trans h.c0, (hk _).trans h.c1, (hk _).trans h.c2, (hk _).trans h.c3, (hk _).trans h.c4, (hk _).trans h.c5, (hk _).trans h.c6, (hk _).trans h.c7, (hk _).trans h.c8, (hk _).trans h.c9, (hk _).trans h.c10⟩
theorem In11.below {w w' : World} {B g o : Nat} {s : In} (h : In11 w g o s) (hb : Below B w w') (hg : g < B) : In11 w' g o s := h.keep fun o => (bcell hb).1 _ _ hg
theorem In11.later {w w' : World} {g o : Nat} {s : In} (h : In11 w g o s) (hb : Below w.heap.size w w') : In11 w' g o s := h.below hb h.lt
theorem In11.new (w : World) (s : In) (t : TypeId) : In11 (w.alloc (.cells #[.int .u8 s.kd, .int .u8 s.op, .int .i64 s.oa, .int .i64 s.ob, .int .i64 s.fd, .int .i64 s.n, .int .u64 s.m, .int .u64 s.w, .int .i64 s.a, .int .i64 s.b, .int .i64 s.to] t)) w.heap.size 0 s := by
  constructor <;> simp [go_sem]
/-- the slice at A holds the events l, ahead of block B -/
structure PRow (w : World) (B : Nat) (A : Option Addr) (l : List In) : Prop where
  at_ : 0 < l.length → ∃ b off, A = some ⟨b, off, none⟩ ∧ b < B ∧ ∀ i, i < l.length → In11 w b (off + i * 11) (nthI l i)
theorem PRow.keep {w w' : World} {B : Nat} {A : Option Addr} {l : List In} (h : PRow w B A l) (hk : ∀ b o, b < B → w'.cell? ⟨b, o, none⟩ = w.cell? ⟨b, o, none⟩) : PRow w' B A l :=
  ⟨fun hl => by
    obtain ⟨b, off, e, hb, hc⟩ := h.at_ hl
    exact ⟨b, off, e, hb, fun i hi => (hc i hi).keep fun o => hk b o hb⟩⟩
theorem PRow.more {w : World} {B B' : Nat} {A : Option Addr} {l : List In} (h : PRow w B A l) (hB : B ≤ B') : PRow w B' A l :=
  ⟨fun hl => by
    obtain ⟨b, off, e, hb, hc⟩ := h.at_ hl
    exact ⟨b, off, e, by omega, hc⟩⟩
theorem PRow.below {w w' : World} {B : Nat} {A : Option Addr} {l : List In} (h : PRow w B A l) (hb : Below B w w') : PRow w' B A l := h.keep fun b o hlt => hb.cell (p := ⟨b, o, none⟩) hlt
theorem PRow.later {w w' : World} {A : Option Addr} {l : List In} (h : PRow w w.heap.size A l) (hb : Below w.heap.size w w') : PRow w' w'.heap.size A l := (h.below hb).more hb.size
theorem PRow.nil (w : World) (B : Nat) (A : Option Addr) : PRow w B A [] := ⟨fun h => by simp at h⟩
theorem info_in : (Tryz.prog.info? 37).map (fun i => (i.zero, i.size, i.bytes)) = some (some (.agg #[.int .u8 0, .int .u8 0, .int .i64 0, .int .i64 0, .int .i64 0, .int .i64 0, .int .u64 0, .int .u64 0, .int .i64 0, .int .i64 0, .int .i64 0]), 11, 88) := by kernel_rfl
abbrev OwnsI (w : World) (B : Nat) (v : Value) (l : List In) : Prop := w.ownsRow B 37 11 v l.length (flatI l)
theorem PRow.of_owns {w : World} {B cap : Nat} {A : Option Addr} {l : List In} (h : OwnsI w B (.slice A l.length cap) l) : PRow w w.heap.size A l :=
  ⟨fun hl => by
    obtain ⟨_, ⟨h1, h2⟩ | ⟨g, cap', cur, e, hB, hg, hc, _, hs, ht⟩⟩ := id h
    · omega
    · injection e with e1 e2 e3
      subst e1 e3
      have hlt : g < w.heap.size := heap_lt hg
      refine ⟨g, 0, rfl, hlt, fun i hi => ?_⟩
      obtain ⟨f0, f1, f2, f3, f4, f5, f6, f7, f8, f9, f10⟩ := flatI_at l i hi
      have hat : ∀ j v, (flatI l)[j]? = some v → j < l.length * 11 → w.cell? ⟨g, j, none⟩ = some v := fun j v hv hj => by
        rw [cell_of_row w g j cur _ _ hg, ← hv, ← ht, List.getElem?_take_of_lt hj, Array.getElem?_toList]
      rw [Nat.zero_add]
      exact ⟨hat _ _ f0 (by omega), hat _ _ f1 (by omega), hat _ _ f2 (by omega), hat _ _ f3 (by omega), hat _ _ f4 (by omega), hat _ _ f5 (by omega), hat _ _ f6 (by omega), hat _ _ f7 (by omega), hat _ _ f8 (by omega), hat _ _ f9 (by omega), hat _ _ f10 (by omega)⟩⟩
theorem OwnsI.later {w w' : World} {B : Nat} {v : Value} {l : List In} (h : OwnsI w B v l) (hb : Below w.heap.size w w') : OwnsI w' B v l := by
  refine World.ownsRow.kept (row := none) h ⟨hb.os, hb.tape, hb.output, hb.size, fun k hk _ => hb.block k hk⟩ ?_
  cases hv : v.ownBlock
  · exact .inl rfl
  · exact .inr (by simp)
theorem owns_laterI {w w' : World} {B n : Nat} {v : Value} {xs : List Value} (h : w.ownsRow B 37 11 v n xs) (hb : Below w.heap.size w w') : w'.ownsRow B 37 11 v n xs := by
  refine World.ownsRow.kept (row := none) h ⟨hb.os, hb.tape, hb.output, hb.size, fun k hk _ => hb.block k hk⟩ ?_
  cases hv : v.ownBlock
  · exact .inl rfl
  · exact .inr (by simp)
theorem own_nilI (w : World) (B c : Nat) : OwnsI w B (.slice none 0 0) [] := ⟨rfl, .inl ⟨rfl, rfl⟩⟩
theorem inc_one (e : In) : ∀ u ∈ inc e, u.oneCell' = true := by
  have := flatI_one [e]
  simpa [flatI] using this
set_option maxRecDepth 100000
theorem run_append_noneI {w : World} (ty : TypeId) (v : Value) (n c : Nat) (xs : List Value) (base : Nat) (hown : w.ownsRow base 37 11 v n xs) :
    (Builtin.append_ #[22, 22] ty #[v, .slice none 0 c]).run Tryz.prog w = .ok v w := by
  obtain ⟨i0, hi, hz0, hz1, hz2⟩ := info_parts info_in
  obtain ⟨_, ⟨rfl, rfl⟩ | ⟨g, cap, cur, rfl, _, hg, hc, hm, _, _⟩⟩ := hown
  · simp [Builtin.append_, run_underlying Tryz.underlying22, sizeOf, typeInfo, hi, hz1, Builtin.lenOf, Builtin.firstCells, storeCells]
  · have h1 : ¬ (9223372036854775807 < (n : Int)) := by unfold maxLen at hm; omega
    have hl : ∀ (x : Addr), (loadCells x 0).run Tryz.prog w = .ok #[] w := fun x => by simpa using run_loadCells_list (P := Tryz.prog) w x [] (by simp)
    simp [Builtin.append_, run_underlying Tryz.underlying22, sizeOf, typeInfo, hi, hz1, Builtin.lenOf, Builtin.firstCells, storeCells, hc, hl, h1]
theorem wp_appendI {w : World} {o : Oper} {a : Act} {K : Act → World → Prop} {Q : Exit → Act → World → Prop} (s x : Operand)
    (ho : o.op = .call { callee := .builtin .append, args := #[s, x], argTypes := #[22, 22] })
    (base : Nat) (A : Option Addr) (cap n : Nat) (xs : List Value) (hs : a.eval s = .slice A n cap) (hown : w.ownsRow base 37 11 (.slice A n cap) n xs)
    (Ao : Option Addr) (m c : Nat) (news : List Value) (hx : a.eval x = .slice Ao m c) (hl : news.length = m * 11) (hpos : 0 < m → ∃ b off, Ao = some ⟨b, off, none⟩ ∧ ∀ j u, news[j]? = some u → w.cell? ⟨b, off + j, none⟩ = some u) (h1 : ∀ u ∈ news, u.oneCell' = true)
    (hsm : n + m ≤ 100000) (hbase : base ≤ w.heap.size)
    (h : ∀ A' cap' w', w'.ownsRow base 37 11 (.slice A' (n + m) cap') (n + m) (xs ++ news) → w.grownBy w' (A.map fun a => a.block) → Below base w w' → (A' = A ∨ A' = some ⟨w.heap.size, 0, none⟩) → K (a.put o.dst (.slice A' (n + m) cap')) w') :
    Oper.wp Tryz.prog o a w K Q := by
  obtain ⟨i0, hi, hz0, hz1, hz2⟩ := info_parts info_in
  have key : ∃ A' cap' w', (Builtin.append_ #[22, 22] o.type #[.slice A n cap, .slice Ao m c]).run Tryz.prog w = .ok (.slice A' (n + m) cap') w' ∧ w'.ownsRow base 37 11 (.slice A' (n + m) cap') (n + m) (xs ++ news) ∧ w.grownBy w' (A.map fun a => a.block) ∧ Below base w w' ∧ (A' = A ∨ A' = some ⟨w.heap.size, 0, none⟩) := by
    have hob : (Value.slice A n cap).ownBlock = A.map fun a => a.block := by cases A <;> rfl
    by_cases hm : 0 < m
    · obtain ⟨b, off, rfl, hc⟩ := hpos hm
      obtain ⟨g, cap', w', h2, h3, h4, h5, _⟩ := run_append_lies (P := Tryz.prog) w 22 o.type base 37 i0 _ 11 88 Tryz.underlying22 hi hz0 hz1 hz2 rfl (by omega) (.slice A n cap) n xs hown ⟨b, off, none⟩ m c news hl (fun j u hj => by rw [add_form]; exact hc j u hj) h1 hm (by unfold maxLen; omega) (by omega) hbase _ rfl
      refine ⟨_, cap', w', h2, h3, by rw [← hob]; exact h4, (Below.refl _ _).grown h4 hbase (fun k hk => (hown.lt k hk).1), ?_⟩
      rcases h5 with h5 | h5
      · left
        obtain ⟨_, ⟨e1, _⟩ | ⟨g', _, _, e1, _⟩⟩ := hown
        · injection e1 with e1
          subst e1
          cases h5
        · injection e1 with e1
          subst e1
          injection h5 with h5
          have h5' : g' = g := h5
          rw [h5']
      · right
        rw [h5]
    · obtain rfl : m = 0 := by omega
      obtain rfl : news = [] := List.eq_nil_of_length_eq_zero (by omega)
      cases Ao with
      | none => exact ⟨A, cap, w, run_append_noneI _ _ n c xs base hown, by simpa using hown, ⟨rfl, rfl, rfl, Nat.le_refl _, fun _ _ _ => rfl⟩, Below.refl _ _, .inl rfl⟩
      | some ad =>
        have hl : ∀ (x : Addr), (loadCells x 0).run Tryz.prog w = .ok #[] w := fun x => by simpa using run_loadCells_list (P := Tryz.prog) w x [] (by simp)
        have h2 : (Builtin.append_ #[22, 22] o.type #[.slice A n cap, .slice (some ad) 0 c]).run Tryz.prog w = .ok (.slice A n cap) w := by
          obtain ⟨_, ⟨e1, rfl⟩ | ⟨g, cap', cur, e1, _, hg, hc, hm, _, _⟩⟩ := id hown
          · injection e1 with e1 _ e3
            subst e1 e3
            simp [Builtin.append_, run_underlying Tryz.underlying22, sizeOf, typeInfo, hi, hz1, Builtin.lenOf, Builtin.firstCells, storeCells, hl]
          · injection e1 with e1 _ e3
            subst e1 e3
            have h1 : ¬ (9223372036854775807 < (n : Int)) := by unfold maxLen at hm; omega
            simp [Builtin.append_, run_underlying Tryz.underlying22, sizeOf, typeInfo, hi, hz1, Builtin.lenOf, Builtin.firstCells, storeCells, hc, hl, h1]
        exact ⟨A, cap, w, h2, by simpa using hown, ⟨rfl, rfl, rfl, Nat.le_refl _, fun _ _ _ => rfl⟩, Below.refl _ _, .inl rfl⟩
  obtain ⟨A', cap', w', h2, h3, h5, h4, h6⟩ := key
  unfold Oper.wp execOp
  simp only [ho, resolve, invoke, builtin, Sem.run_bind, Sem.run_pure, Result.andThen_ok, List.map_toArray, List.map_cons, List.map_nil, hs, hx, h2]
  exact h A' cap' w' h3 h5 h4 h6
theorem wpList_appendI {w : World} {ops : Array Oper} {rest : List Oper} {o : Oper} {a : Act} {Q : Exit → Act → World → Prop} (hgd : o.guard = none) (s x : Operand)
    (ho : o.op = .call { callee := .builtin .append, args := #[s, x], argTypes := #[22, 22] })
    (base : Nat) (A : Option Addr) (cap n : Nat) (xs : List Value) (hs : a.eval s = .slice A n cap) (hown : w.ownsRow base 37 11 (.slice A n cap) n xs)
    (Ao : Option Addr) (m c : Nat) (news : List Value) (hx : a.eval x = .slice Ao m c) (hl : news.length = m * 11) (hpos : 0 < m → ∃ b off, Ao = some ⟨b, off, none⟩ ∧ ∀ j u, news[j]? = some u → w.cell? ⟨b, off + j, none⟩ = some u) (h1 : ∀ u ∈ news, u.oneCell' = true)
    (hsm : n + m ≤ 100000) (hbase : base ≤ w.heap.size)
    (h : ∀ A' cap' w', w'.ownsRow base 37 11 (.slice A' (n + m) cap') (n + m) (xs ++ news) → w.grownBy w' (A.map fun a => a.block) → Below base w w' → (A' = A ∨ A' = some ⟨w.heap.size, 0, none⟩) → wpList Tryz.prog ops Q rest (a.put o.dst (.slice A' (n + m) cap')) w') : wpList Tryz.prog ops Q (o :: rest) a w :=
  wpList_plain hgd fun _ hK => wp_appendI s x ho base A cap n xs hs hown Ao m c news hx hl hpos h1 hsm hbase fun A' cap' w' h2 h3 h4 h5 => hK _ _ (h A' cap' w' h2 h3 h4 h5)
end Go.Proofs.YtndaccekemjdmaaGreatDoor
