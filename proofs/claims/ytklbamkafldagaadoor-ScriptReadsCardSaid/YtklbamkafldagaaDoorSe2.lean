/- Events in memory, one behind the other; a row of them grows. -/
import Derived.Test.YtklbamkafldagaaDoorOwn
import Derived.Test.YtklbamkafldagaaDoorSe1
import Derived.Deep.RegionLaw
import Derived.Deep.RegionHeld3
import Derived.Deep.AppendLies
import Derived.Deep.AppendSrc
import Derived.Lib.AppendZerosOnto
import Derived.LoopTactic
namespace Go.Proofs.YtklbamkafldagaaDoor
open Go.RowKit
set_option linter.unusedVariables false
set_option linter.unusedSimpArgs false

def evv (e : Ev) : Value := .agg #[.bool e.th, .int .i64 e.who, .int .u8 e.k, .int .i64 e.tw, .int .i64 e.n]
def evc (e : Ev) : List Value := [.bool e.th, .int .i64 e.who, .int .u8 e.k, .int .i64 e.tw, .int .i64 e.n]
def flatE (l : List Ev) : List Value := l.flatMap evc
def nthE (l : List Ev) (i : Nat) : Ev := l.getD i ev0
theorem flatE_cons (e : Ev) (l : List Ev) : flatE (e :: l) = .bool e.th :: .int .i64 e.who :: .int .u8 e.k :: .int .i64 e.tw :: .int .i64 e.n :: flatE l := rfl
theorem length_flatE (l : List Ev) : (flatE l).length = l.length * 5 := by
  induction l with
  | nil => rfl
  | cons s l ih =>
    rw [flatE_cons]
    simp only [List.length_cons, ih]
    omega
theorem flatE_append (l m : List Ev) : flatE (l ++ m) = flatE l ++ flatE m := by simp [flatE]
theorem flatE_one (l : List Ev) : ∀ v ∈ flatE l, v.oneCell' = true := by
  intro v hv
  simp only [flatE, List.mem_flatMap] at hv
  obtain ⟨s, _, hs⟩ := hv
  simp only [evc, List.mem_cons, List.not_mem_nil, or_false] at hs
  rcases hs with rfl | rfl | rfl | rfl | rfl <;> rfl
theorem flatE_at (l : List Ev) (i : Nat) (h : i < l.length) : (flatE l)[i * 5]? = some (.bool (nthE l i).th) ∧ (flatE l)[i * 5 + 1]? = some (.int .i64 (nthE l i).who) ∧ (flatE l)[i * 5 + 2]? = some (.int .u8 (nthE l i).k) ∧ (flatE l)[i * 5 + 3]? = some (.int .i64 (nthE l i).tw) ∧ (flatE l)[i * 5 + 4]? = some (.int .i64 (nthE l i).n) := by
  induction l generalizing i with
  | nil => simp at h
  | cons s l ih =>
    cases i with
    | zero => rw [flatE_cons]; exact ⟨rfl, rfl, rfl, rfl, rfl⟩
    | succ i =>
      have := ih i (by simp at h; omega)
      rw [flatE_cons, show (i + 1) * 5 = i * 5 + 1 + 1 + 1 + 1 + 1 by omega]
      exact this
theorem nthE_get (l : List Ev) (i : Nat) (hi : i < l.length) : nthE l i = l[i] := by
  unfold nthE
  rw [List.getD_eq_getElem?_getD, List.getElem?_eq_getElem hi]
  rfl
theorem nthE_mem (l : List Ev) (i : Nat) (h : i < l.length) : nthE l i ∈ l := by
  rw [nthE_get l i h]
  exact List.getElem_mem h
theorem take_nthE (l : List Ev) (i : Nat) (h : i < l.length) : l.take (i + 1) = l.take i ++ [nthE l i] := by
  unfold nthE
  rw [List.getD_eq_getElem?_getD, List.getElem?_eq_getElem h, List.take_add_one, List.getElem?_eq_getElem h]
  rfl
theorem eqE {l m : List Ev} (hl : l.length = m.length) (h : ∀ j, j < l.length → nthE l j = nthE m j) : l = m := by
  apply List.ext_getElem hl
  intro i h1 h2
  have := h i h1
  rwa [nthE_get l i h1, nthE_get m i h2] at this
/-- an event that lies in block g from o on -/
structure Ev5 (w : World) (g o : Nat) (s : Ev) : Prop where
  c0 : w.cell? ⟨g, o, none⟩ = some (.bool s.th)
  c1 : w.cell? ⟨g, o + 1, none⟩ = some (.int .i64 s.who)
  c2 : w.cell? ⟨g, o + 2, none⟩ = some (.int .u8 s.k)
  c3 : w.cell? ⟨g, o + 3, none⟩ = some (.int .i64 s.tw)
  c4 : w.cell? ⟨g, o + 4, none⟩ = some (.int .i64 s.n)
theorem Ev5.lt {w : World} {g o : Nat} {s : Ev} (h : Ev5 w g o s) : g < w.heap.size := World.block_lt_of_cell? w _ h.c0
theorem Ev5.keep {w w' : World} {g o : Nat} {s : Ev} (h : Ev5 w g o s) (hk : ∀ o, w'.cell? ⟨g, o, none⟩ = w.cell? ⟨g, o, none⟩) : Ev5 w' g o s :=
  ⟨(hk _).trans h.c0, (hk _).trans h.c1, (hk _).trans h.c2, (hk _).trans h.c3, (hk _).trans h.c4⟩
theorem Ev5.below {w w' : World} {B g o : Nat} {s : Ev} (h : Ev5 w g o s) (hb : Below B w w') (hg : g < B) : Ev5 w' g o s := h.keep fun o => (bcell hb).1 _ _ hg
theorem Ev5.later {w w' : World} {g o : Nat} {s : Ev} (h : Ev5 w g o s) (hb : Below w.heap.size w w') : Ev5 w' g o s := h.below hb h.lt
theorem Ev5.new (w : World) (s : Ev) (t : TypeId) : Ev5 (w.alloc (.cells #[.bool s.th, .int .i64 s.who, .int .u8 s.k, .int .i64 s.tw, .int .i64 s.n] t)) w.heap.size 0 s := by
  constructor <;> simp [go_sem]
/-- the slice at A holds the events l, ahead of block B -/
structure ERow (w : World) (B : Nat) (A : Option Addr) (l : List Ev) : Prop where
  at_ : 0 < l.length → ∃ b off, A = some ⟨b, off, none⟩ ∧ b < B ∧ ∀ i, i < l.length → Ev5 w b (off + i * 5) (nthE l i)
theorem ERow.keep {w w' : World} {B : Nat} {A : Option Addr} {l : List Ev} (h : ERow w B A l) (hk : ∀ b o, b < B → w'.cell? ⟨b, o, none⟩ = w.cell? ⟨b, o, none⟩) : ERow w' B A l :=
  ⟨fun hl => by
    obtain ⟨b, off, e, hb, hc⟩ := h.at_ hl
    exact ⟨b, off, e, hb, fun i hi => (hc i hi).keep fun o => hk b o hb⟩⟩
theorem ERow.more {w : World} {B B' : Nat} {A : Option Addr} {l : List Ev} (h : ERow w B A l) (hB : B ≤ B') : ERow w B' A l :=
  ⟨fun hl => by
    obtain ⟨b, off, e, hb, hc⟩ := h.at_ hl
    exact ⟨b, off, e, by omega, hc⟩⟩
theorem ERow.below {w w' : World} {B : Nat} {A : Option Addr} {l : List Ev} (h : ERow w B A l) (hb : Below B w w') : ERow w' B A l := h.keep fun b o hlt => hb.cell (p := ⟨b, o, none⟩) hlt
theorem ERow.later {w w' : World} {A : Option Addr} {l : List Ev} (h : ERow w w.heap.size A l) (hb : Below w.heap.size w w') : ERow w' w'.heap.size A l := (h.below hb).more hb.size
theorem ERow.nil (w : World) (B : Nat) (A : Option Addr) : ERow w B A [] := ⟨fun h => by simp at h⟩
theorem info_ev : (Tryd.prog.info? 41).map (fun i => (i.zero, i.size, i.bytes)) = some (some (.agg #[.bool false, .int .i64 0, .int .u8 0, .int .i64 0, .int .i64 0]), 5, 40) := by kernel_rfl
abbrev OwnsE (w : World) (B : Nat) (v : Value) (l : List Ev) : Prop := w.ownsRow B 41 5 v l.length (flatE l)
theorem ERow.of_owns {w : World} {B cap : Nat} {A : Option Addr} {l : List Ev} (h : OwnsE w B (.slice A l.length cap) l) : ERow w w.heap.size A l :=
  ⟨fun hl => by
    obtain ⟨_, ⟨h1, h2⟩ | ⟨g, cap', cur, e, hB, hg, hc, _, hs, ht⟩⟩ := id h
    · omega
    · injection e with e1 e2 e3
      subst e1 e3
      have hlt : g < w.heap.size := heap_lt hg
      refine ⟨g, 0, rfl, hlt, fun i hi => ?_⟩
      obtain ⟨f0, f1, f2, f3, f4⟩ := flatE_at l i hi
      have hat : ∀ j v, (flatE l)[j]? = some v → j < l.length * 5 → w.cell? ⟨g, j, none⟩ = some v := fun j v hv hj => by
        rw [cell_of_row w g j cur _ _ hg, ← hv, ← ht, List.getElem?_take_of_lt hj, Array.getElem?_toList]
      rw [Nat.zero_add]
      exact ⟨hat _ _ f0 (by omega), hat _ _ f1 (by omega), hat _ _ f2 (by omega), hat _ _ f3 (by omega), hat _ _ f4 (by omega)⟩⟩
theorem OwnsE.later {w w' : World} {B : Nat} {v : Value} {l : List Ev} (h : OwnsE w B v l) (hb : Below w.heap.size w w') : OwnsE w' B v l := by
  refine World.ownsRow.kept (row := none) h ⟨hb.os, hb.tape, hb.output, hb.size, fun k hk _ => hb.block k hk⟩ ?_
  cases hv : v.ownBlock
  · exact .inl rfl
  · exact .inr (by simp)
theorem owns_laterE {w w' : World} {B n : Nat} {v : Value} {xs : List Value} (h : w.ownsRow B 41 5 v n xs) (hb : Below w.heap.size w w') : w'.ownsRow B 41 5 v n xs := by
  refine World.ownsRow.kept (row := none) h ⟨hb.os, hb.tape, hb.output, hb.size, fun k hk _ => hb.block k hk⟩ ?_
  cases hv : v.ownBlock
  · exact .inl rfl
  · exact .inr (by simp)
theorem own_nilE (w : World) (B c : Nat) : OwnsE w B (.slice none 0 0) [] := ⟨rfl, .inl ⟨rfl, rfl⟩⟩
theorem ev_lies (w : World) (e : Ev) (t : TypeId) : ∀ j u, (evc e)[j]? = some u → (w.alloc (.cells #[.bool e.th, .int .i64 e.who, .int .u8 e.k, .int .i64 e.tw, .int .i64 e.n] t)).cell? ⟨w.heap.size, 0 + j, none⟩ = some u := by
  intro j u hj
  obtain ⟨h0, h1, h2, h3, h4⟩ := Ev5.new w e t
  match j, hj with
  | 0, hj => simp [evc] at hj; subst hj; exact h0
  | 1, hj => simp [evc] at hj; subst hj; exact h1
  | 2, hj => simp [evc] at hj; subst hj; exact h2
  | 3, hj => simp [evc] at hj; subst hj; exact h3
  | 4, hj => simp [evc] at hj; subst hj; exact h4
  | j + 5, hj => simp [evc] at hj
theorem evc_one (e : Ev) : ∀ u ∈ evc e, u.oneCell' = true := by
  have := flatE_one [e]
  simpa [flatE] using this
set_option maxRecDepth 100000
theorem run_append_noneE {w : World} (ty : TypeId) (v : Value) (n c : Nat) (xs : List Value) (base : Nat) (hown : w.ownsRow base 41 5 v n xs) :
    (Builtin.append_ #[22, 22] ty #[v, .slice none 0 c]).run Tryd.prog w = .ok v w := by
  obtain ⟨i0, hi, hz0, hz1, hz2⟩ := info_parts info_ev
  obtain ⟨_, ⟨rfl, rfl⟩ | ⟨g, cap, cur, rfl, _, hg, hc, hm, _, _⟩⟩ := hown
  · simp [Builtin.append_, run_underlying Tryd.underlying22, sizeOf, typeInfo, hi, hz1, Builtin.lenOf, Builtin.firstCells, storeCells]
  · have h1 : ¬ (9223372036854775807 < (n : Int)) := by unfold maxLen at hm; omega
    have hl : ∀ (x : Addr), (loadCells x 0).run Tryd.prog w = .ok #[] w := fun x => by simpa using run_loadCells_list (P := Tryd.prog) w x [] (by simp)
    simp [Builtin.append_, run_underlying Tryd.underlying22, sizeOf, typeInfo, hi, hz1, Builtin.lenOf, Builtin.firstCells, storeCells, hc, hl, h1]
theorem wp_appendE {w : World} {o : Oper} {a : Act} {K : Act → World → Prop} {Q : Exit → Act → World → Prop} (s x : Operand)
    (ho : o.op = .call { callee := .builtin .append, args := #[s, x], argTypes := #[22, 22] })
    (base : Nat) (A : Option Addr) (cap n : Nat) (xs : List Value) (hs : a.eval s = .slice A n cap) (hown : w.ownsRow base 41 5 (.slice A n cap) n xs)
    (Ao : Option Addr) (m c : Nat) (news : List Value) (hx : a.eval x = .slice Ao m c) (hl : news.length = m * 5) (hpos : 0 < m → ∃ b off, Ao = some ⟨b, off, none⟩ ∧ ∀ j u, news[j]? = some u → w.cell? ⟨b, off + j, none⟩ = some u) (h1 : ∀ u ∈ news, u.oneCell' = true)
    (hsm : n + m ≤ 100000) (hbase : base ≤ w.heap.size)
    (h : ∀ A' cap' w', w'.ownsRow base 41 5 (.slice A' (n + m) cap') (n + m) (xs ++ news) → w.grownBy w' (A.map fun a => a.block) → Below base w w' → (A' = A ∨ A' = some ⟨w.heap.size, 0, none⟩) → K (a.put o.dst (.slice A' (n + m) cap')) w') :
    Oper.wp Tryd.prog o a w K Q := by
  obtain ⟨i0, hi, hz0, hz1, hz2⟩ := info_parts info_ev
  have key : ∃ A' cap' w', (Builtin.append_ #[22, 22] o.type #[.slice A n cap, .slice Ao m c]).run Tryd.prog w = .ok (.slice A' (n + m) cap') w' ∧ w'.ownsRow base 41 5 (.slice A' (n + m) cap') (n + m) (xs ++ news) ∧ w.grownBy w' (A.map fun a => a.block) ∧ Below base w w' ∧ (A' = A ∨ A' = some ⟨w.heap.size, 0, none⟩) := by
    have hob : (Value.slice A n cap).ownBlock = A.map fun a => a.block := by cases A <;> rfl
    by_cases hm : 0 < m
    · obtain ⟨b, off, rfl, hc⟩ := hpos hm
      obtain ⟨g, cap', w', h2, h3, h4, h5, _⟩ := run_append_lies (P := Tryd.prog) w 22 o.type base 41 i0 _ 5 40 Tryd.underlying22 hi hz0 hz1 hz2 rfl (by omega) (.slice A n cap) n xs hown ⟨b, off, none⟩ m c news hl (fun j u hj => by rw [add_form]; exact hc j u hj) h1 hm (by unfold maxLen; omega) (by omega) hbase _ rfl
      refine ⟨_, cap', w', h2, h3, by rw [← hob]; exact h4, (Below.refl _ _).grown h4 hbase (fun k hk => (hown.lt k hk).1), ?_⟩
      rcases h5 with h5 | h5
      · left
        obtain ⟨_, ⟨e1, _⟩ | ⟨g', _, _, e1, _⟩⟩ := hown
        · injection e1 with e1
          subst e1
          cases h5
        · injection e1 with e1
          subst e1
          injection h5 with h5
          have h5' : g' = g := h5
          rw [h5']
      · right
        rw [h5]
    · obtain rfl : m = 0 := by omega
      obtain rfl : news = [] := List.eq_nil_of_length_eq_zero (by omega)
      cases Ao with
      | none => exact ⟨A, cap, w, run_append_noneE _ _ n c xs base hown, by simpa using hown, ⟨rfl, rfl, rfl, Nat.le_refl _, fun _ _ _ => rfl⟩, Below.refl _ _, .inl rfl⟩
      | some ad =>
        have hl : ∀ (x : Addr), (loadCells x 0).run Tryd.prog w = .ok #[] w := fun x => by simpa using run_loadCells_list (P := Tryd.prog) w x [] (by simp)
        have h2 : (Builtin.append_ #[22, 22] o.type #[.slice A n cap, .slice (some ad) 0 c]).run Tryd.prog w = .ok (.slice A n cap) w := by
          obtain ⟨_, ⟨e1, rfl⟩ | ⟨g, cap', cur, e1, _, hg, hc, hm, _, _⟩⟩ := id hown
          · injection e1 with e1 _ e3
            subst e1 e3
            simp [Builtin.append_, run_underlying Tryd.underlying22, sizeOf, typeInfo, hi, hz1, Builtin.lenOf, Builtin.firstCells, storeCells, hl]
          · injection e1 with e1 _ e3
            subst e1 e3
            have h1 : ¬ (9223372036854775807 < (n : Int)) := by unfold maxLen at hm; omega
            simp [Builtin.append_, run_underlying Tryd.underlying22, sizeOf, typeInfo, hi, hz1, Builtin.lenOf, Builtin.firstCells, storeCells, hc, hl, h1]
        exact ⟨A, cap, w, h2, by simpa using hown, ⟨rfl, rfl, rfl, Nat.le_refl _, fun _ _ _ => rfl⟩, Below.refl _ _, .inl rfl⟩
  obtain ⟨A', cap', w', h2, h3, h5, h4, h6⟩ := key
  unfold Oper.wp execOp
  simp only [ho, resolve, invoke, builtin, Sem.run_bind, Sem.run_pure, Result.andThen_ok, List.map_toArray, List.map_cons, List.map_nil, hs, hx, h2]
  exact h A' cap' w' h3 h5 h4 h6
theorem wpList_appendE {w : World} {ops : Array Oper} {rest : List Oper} {o : Oper} {a : Act} {Q : Exit → Act → World → Prop} (hgd : o.guard = none) (s x : Operand)
    (ho : o.op = .call { callee := .builtin .append, args := #[s, x], argTypes := #[22, 22] })
    (base : Nat) (A : Option Addr) (cap n : Nat) (xs : List Value) (hs : a.eval s = .slice A n cap) (hown : w.ownsRow base 41 5 (.slice A n cap) n xs)
    (Ao : Option Addr) (m c : Nat) (news : List Value) (hx : a.eval x = .slice Ao m c) (hl : news.length = m * 5) (hpos : 0 < m → ∃ b off, Ao = some ⟨b, off, none⟩ ∧ ∀ j u, news[j]? = some u → w.cell? ⟨b, off + j, none⟩ = some u) (h1 : ∀ u ∈ news, u.oneCell' = true)
    (hsm : n + m ≤ 100000) (hbase : base ≤ w.heap.size)
    (h : ∀ A' cap' w', w'.ownsRow base 41 5 (.slice A' (n + m) cap') (n + m) (xs ++ news) → w.grownBy w' (A.map fun a => a.block) → Below base w w' → (A' = A ∨ A' = some ⟨w.heap.size, 0, none⟩) → wpList Tryd.prog ops Q rest (a.put o.dst (.slice A' (n + m) cap')) w') : wpList Tryd.prog ops Q (o :: rest) a w :=
  wpList_plain hgd fun _ hK => wp_appendE s x ho base A cap n xs hs hown Ao m c news hx hl hpos h1 hsm hbase fun A' cap' w' h2 h3 h4 h5 => hK _ _ (h A' cap' w' h2 h3 h4 h5)
end Go.Proofs.YtklbamkafldagaaDoor
