/- Five rows that grow side by side: programs, labels, what they want, places, lines. -/
import Derived.Test.YtggaijdbaplfiaaGreatDoorAs49
import Derived.Test.YtggaijdbaplfiaaGreatDoorAs24
namespace Go.Proofs.YtggaijdbaplfiaaGreatDoor
open Go.RowKit
set_option linter.unusedVariables false
set_option linter.unusedSimpArgs false
set_option maxRecDepth 100000
theorem info_Z : (Tryz.prog.info? 3).map (fun i => (i.zero, i.size, i.bytes)) = some (some (.int .i64 0), 1, 8) := by kernel_rfl
theorem owns_laterZ {w w' : World} {B n : Nat} {v : Value} {xs : List Value} (h : w.ownsRow B 3 1 v n xs) (hb : Below w.heap.size w w') : w'.ownsRow B 3 1 v n xs := by
  refine World.ownsRow.kept (row := none) h ⟨hb.os, hb.tape, hb.output, hb.size, fun k hk _ => hb.block k hk⟩ ?_
  cases hv : v.ownBlock
  · exact .inl rfl
  · exact .inr (by simp)
theorem run_append_noneZ {w : World} (ty : TypeId) (v : Value) (n c : Nat) (xs : List Value) (base : Nat) (hown : w.ownsRow base 3 1 v n xs) :
    (Builtin.append_ #[56, 56] ty #[v, .slice none 0 c]).run Tryz.prog w = .ok v w := by
  obtain ⟨i0, hi, hz0, hz1, hz2⟩ := info_parts info_Z
  obtain ⟨_, ⟨rfl, rfl⟩ | ⟨g, cap, cur, rfl, _, hg, hc, hm, _, _⟩⟩ := hown
  · simp [Builtin.append_, run_underlying Tryz.underlying56, sizeOf, typeInfo, hi, hz1, Builtin.lenOf, Builtin.firstCells, storeCells]
  · have h1 : ¬ (9223372036854775807 < (n : Int)) := by unfold maxLen at hm; omega
    have hl : ∀ (x : Addr), (loadCells x 0).run Tryz.prog w = .ok #[] w := fun x => by simpa using run_loadCells_list (P := Tryz.prog) w x [] (by simp)
    simp [Builtin.append_, run_underlying Tryz.underlying56, sizeOf, typeInfo, hi, hz1, Builtin.lenOf, Builtin.firstCells, storeCells, hc, hl, h1]
theorem wp_appendZ {w : World} {o : Oper} {a : Act} {K : Act → World → Prop} {Q : Exit → Act → World → Prop} (s x : Operand)
    (ho : o.op = .call { callee := .builtin .append, args := #[s, x], argTypes := #[56, 56] })
    (base : Nat) (A : Option Addr) (cap n : Nat) (xs : List Value) (hs : a.eval s = .slice A n cap) (hown : w.ownsRow base 3 1 (.slice A n cap) n xs)
    (Ao : Option Addr) (m c : Nat) (news : List Value) (hx : a.eval x = .slice Ao m c) (hl : news.length = m * 1) (hpos : 0 < m → ∃ b off, Ao = some ⟨b, off, none⟩ ∧ ∀ j u, news[j]? = some u → w.cell? ⟨b, off + j, none⟩ = some u) (h1 : ∀ u ∈ news, u.oneCell' = true)
    (hsm : n + m ≤ 100000) (hbase : base ≤ w.heap.size)
    (h : ∀ A' cap' w', w'.ownsRow base 3 1 (.slice A' (n + m) cap') (n + m) (xs ++ news) → w.grownBy w' (A.map fun a => a.block) → Below base w w' → (A' = A ∨ A' = some ⟨w.heap.size, 0, none⟩) → K (a.put o.dst (.slice A' (n + m) cap')) w') :
    Oper.wp Tryz.prog o a w K Q := by
  obtain ⟨i0, hi, hz0, hz1, hz2⟩ := info_parts info_Z
  have key : ∃ A' cap' w', (Builtin.append_ #[56, 56] o.type #[.slice A n cap, .slice Ao m c]).run Tryz.prog w = .ok (.slice A' (n + m) cap') w' ∧ w'.ownsRow base 3 1 (.slice A' (n + m) cap') (n + m) (xs ++ news) ∧ w.grownBy w' (A.map fun a => a.block) ∧ Below base w w' ∧ (A' = A ∨ A' = some ⟨w.heap.size, 0, none⟩) := by
    have hob : (Value.slice A n cap).ownBlock = A.map fun a => a.block := by cases A <;> rfl
    by_cases hm : 0 < m
    · obtain ⟨b, off, rfl, hc⟩ := hpos hm
      obtain ⟨g, cap', w', h2, h3, h4, h5, _⟩ := run_append_lies (P := Tryz.prog) w 56 o.type base 3 i0 _ 1 8 Tryz.underlying56 hi hz0 hz1 hz2 rfl (by omega) (.slice A n cap) n xs hown ⟨b, off, none⟩ m c news hl (fun j u hj => by rw [add_form]; exact hc j u hj) h1 hm (by unfold maxLen; omega) (by omega) hbase _ rfl
      refine ⟨_, cap', w', h2, h3, by rw [← hob]; exact h4, (Below.refl _ _).grown h4 hbase (fun k hk => (hown.lt k hk).1), ?_⟩
      rcases h5 with h5 | h5
      · left
        obtain ⟨_, ⟨e1, _⟩ | ⟨g', _, _, e1, _⟩⟩ := hown
        · injection e1 with e1
          subst e1
          cases h5
        · injection e1 with e1
          subst e1
          injection h5 with h5
          have h5' : g' = g := h5
          rw [h5']
      · right
        rw [h5]
    · obtain rfl : m = 0 := by omega
      obtain rfl : news = [] := List.eq_nil_of_length_eq_zero (by omega)
      cases Ao with
      | none => exact ⟨A, cap, w, run_append_noneZ _ _ n c xs base hown, by simpa using hown, ⟨rfl, rfl, rfl, Nat.le_refl _, fun _ _ _ => rfl⟩, Below.refl _ _, .inl rfl⟩
      | some ad =>
        have hl : ∀ (x : Addr), (loadCells x 0).run Tryz.prog w = .ok #[] w := fun x => by simpa using run_loadCells_list (P := Tryz.prog) w x [] (by simp)
        have h2 : (Builtin.append_ #[56, 56] o.type #[.slice A n cap, .slice (some ad) 0 c]).run Tryz.prog w = .ok (.slice A n cap) w := by
          obtain ⟨_, ⟨e1, rfl⟩ | ⟨g, cap', cur, e1, _, hg, hc, hm, _, _⟩⟩ := id hown
          · injection e1 with e1 _ e3
            subst e1 e3
            simp [Builtin.append_, run_underlying Tryz.underlying56, sizeOf, typeInfo, hi, hz1, Builtin.lenOf, Builtin.firstCells, storeCells, hl]
          · injection e1 with e1 _ e3
            subst e1 e3
            have h1 : ¬ (9223372036854775807 < (n : Int)) := by unfold maxLen at hm; omega
            simp [Builtin.append_, run_underlying Tryz.underlying56, sizeOf, typeInfo, hi, hz1, Builtin.lenOf, Builtin.firstCells, storeCells, hc, hl, h1]
        exact ⟨A, cap, w, h2, by simpa using hown, ⟨rfl, rfl, rfl, Nat.le_refl _, fun _ _ _ => rfl⟩, Below.refl _ _, .inl rfl⟩
  obtain ⟨A', cap', w', h2, h3, h5, h4, h6⟩ := key
  unfold Oper.wp execOp
  simp only [ho, resolve, invoke, builtin, Sem.run_bind, Sem.run_pure, Result.andThen_ok, List.map_toArray, List.map_cons, List.map_nil, hs, hx, h2]
  exact h A' cap' w' h3 h5 h4 h6
theorem wpList_appendZ {w : World} {ops : Array Oper} {rest : List Oper} {o : Oper} {a : Act} {Q : Exit → Act → World → Prop} (hgd : o.guard = none) (s x : Operand)
    (ho : o.op = .call { callee := .builtin .append, args := #[s, x], argTypes := #[56, 56] })
    (base : Nat) (A : Option Addr) (cap n : Nat) (xs : List Value) (hs : a.eval s = .slice A n cap) (hown : w.ownsRow base 3 1 (.slice A n cap) n xs)
    (Ao : Option Addr) (m c : Nat) (news : List Value) (hx : a.eval x = .slice Ao m c) (hl : news.length = m * 1) (hpos : 0 < m → ∃ b off, Ao = some ⟨b, off, none⟩ ∧ ∀ j u, news[j]? = some u → w.cell? ⟨b, off + j, none⟩ = some u) (h1 : ∀ u ∈ news, u.oneCell' = true)
    (hsm : n + m ≤ 100000) (hbase : base ≤ w.heap.size)
    (h : ∀ A' cap' w', w'.ownsRow base 3 1 (.slice A' (n + m) cap') (n + m) (xs ++ news) → w.grownBy w' (A.map fun a => a.block) → Below base w w' → (A' = A ∨ A' = some ⟨w.heap.size, 0, none⟩) → wpList Tryz.prog ops Q rest (a.put o.dst (.slice A' (n + m) cap')) w') : wpList Tryz.prog ops Q (o :: rest) a w :=
  wpList_plain hgd fun _ hK => wp_appendZ s x ho base A cap n xs hs hown Ao m c news hx hl hpos h1 hsm hbase fun A' cap' w' h2 h3 h4 h5 => hK _ _ (h A' cap' w' h2 h3 h4 h5)

/-- no block in common -/
def Ap (a c : Option Addr) : Prop := ∀ x y, a = some x → c = some y → x.block ≠ y.block
theorem Ap.symm {a c : Option Addr} (h : Ap a c) : Ap c a := fun x y hx hy e => h y x hy hx e.symm
theorem Ap.none (a : Option Addr) : Ap none a := fun x y h => by cases h
theorem ap_next {a a' c : Option Addr} {N : Nat} (h : Ap a c) (hc : ∀ y, c = some y → y.block < N) (ha : a' = a ∨ a' = some ⟨N, 0, none⟩) : Ap a' c := by
  rcases ha with rfl | rfl
  · exact h
  · intro x y hx hy e
    injection hx with hx
    subst hx
    have := hc y hy
    simp only at e
    omega
def ivN (l : List Nat) : List Value := l.map fun (n : Nat) => Value.int .i64 (n : Int)
theorem row_kept {w w' : World} {B n cap s : Nat} {e : TypeId} {A C : Option Addr} {xs : List Value} (h : w.ownsRow B e s (.slice C n cap) n xs) (hg : w.grownBy w' (A.map fun a => a.block)) (ha : Ap A C) : w'.ownsRow B e s (.slice C n cap) n xs := by
  refine World.ownsRow.kept h hg ?_
  cases C with
  | none => exact .inl rfl
  | some c =>
    right
    intro e
    cases A with
    | none => cases e
    | some a =>
      injection e with e
      exact ha a c rfl rfl e.symm
theorem row_later {w w' : World} {B n cap s : Nat} {e : TypeId} {C : Option Addr} {xs : List Value} (h : w.ownsRow B e s (.slice C n cap) n xs) (hb : Below w.heap.size w w') : w'.ownsRow B e s (.slice C n cap) n xs := by
  refine World.ownsRow.kept (row := none) h ⟨hb.os, hb.tape, hb.output, hb.size, fun k hk _ => hb.block k hk⟩ ?_
  cases C with
  | none => exact .inl rfl
  | some c => exact .inr (by simp [Value.ownBlock])
theorem row_lt {w : World} {B n cap s : Nat} {e : TypeId} {C : Option Addr} {xs : List Value} (h : w.ownsRow B e s (.slice C n cap) n xs) : ∀ y, C = some y → y.block < w.heap.size := by
  intro y hy
  subst hy
  exact (h.lt y.block rfl).2
theorem row_cell {w : World} {B n cap : Nat} {e : TypeId} {C : Option Addr} {xs : List Value} (h : w.ownsRow B e 1 (.slice C n cap) n xs) (k : Nat) (hk : k < n) : ∃ g, C = some ⟨g, 0, none⟩ ∧ g < w.heap.size ∧ B ≤ g ∧ w.cell? ⟨g, k, none⟩ = xs[k]? := by
  obtain ⟨_, ⟨h1, h2⟩ | ⟨g, cap', cur, e, hB, hg, hc, _, hs, ht⟩⟩ := id h
  · omega
  · injection e with e1 e2 e3
    subst e1
    exact ⟨g, rfl, heap_lt hg, hB, h.cellAt k (by omega)⟩
/-- the five rows -/
structure PQ (w : World) (B : Nat) (O N W P L : Option Addr) (oc nc wc pc lc : Nat) (xs : List In) (ns ws : List (List UInt8)) (ps ls : List Nat) : Prop where
  o : w.ownsRow B 37 11 (.slice O xs.length oc) xs.length (flatI xs)
  n : w.ownsRow B 9 1 (.slice N ns.length nc) ns.length (ns.map sv)
  x : w.ownsRow B 9 1 (.slice W ws.length wc) ws.length (ws.map sv)
  p : w.ownsRow B 3 1 (.slice P ps.length pc) ps.length (ivN ps)
  l : w.ownsRow B 3 1 (.slice L ls.length lc) ls.length (ivN ls)
  on : Ap O N
  ox : Ap O W
  op : Ap O P
  ol : Ap O L
  nx : Ap N W
  np : Ap N P
  nl : Ap N L
  xp : Ap W P
  xl : Ap W L
  pl : Ap P L
theorem PQ.nil (w : World) (B : Nat) : PQ w B none none none none none 0 0 0 0 0 [] [] [] [] [] :=
  ⟨World.ownsRow_nil _ _ _ _, World.ownsRow_nil _ _ _ _, World.ownsRow_nil _ _ _ _, World.ownsRow_nil _ _ _ _, World.ownsRow_nil _ _ _ _, Ap.none _, Ap.none _, Ap.none _, Ap.none _, Ap.none _, Ap.none _, Ap.none _, Ap.none _, Ap.none _, Ap.none _⟩
theorem PQ.later {w w' : World} {B : Nat} {O N W P L : Option Addr} {oc nc wc pc lc : Nat} {xs : List In} {ns ws : List (List UInt8)} {ps ls : List Nat} (h : PQ w B O N W P L oc nc wc pc lc xs ns ws ps ls) (hb : Below w.heap.size w w') : PQ w' B O N W P L oc nc wc pc lc xs ns ws ps ls :=
  ⟨row_later h.o hb, row_later h.n hb, row_later h.x hb, row_later h.p hb, row_later h.l hb, h.on, h.ox, h.op, h.ol, h.nx, h.np, h.nl, h.xp, h.xl, h.pl⟩
theorem PQ.grow_o {w w' : World} {B : Nat} {O N W P L : Option Addr} {oc nc wc pc lc : Nat} {xs : List In} {ns ws : List (List UInt8)} {ps ls : List Nat} (h : PQ w B O N W P L oc nc wc pc lc xs ns ws ps ls) (x : In) {A' : Option Addr} {c' : Nat} (hr0 : w'.ownsRow B 37 11 (.slice A' (xs.length + 1) c') (xs.length + 1) (flatI (xs ++ [x]))) (hg : w.grownBy w' (O.map fun a => a.block)) (ha : A' = O ∨ A' = some ⟨w.heap.size, 0, none⟩) : PQ w' B A' N W P L c' nc wc pc lc (xs ++ [x]) ns ws ps ls := by
  have hn : (xs ++ [x]).length = xs.length + 1 := by simp
  have hr : w'.ownsRow B 37 11 (.slice A' (xs ++ [x]).length c') (xs ++ [x]).length (flatI (xs ++ [x])) := by rw [hn]; exact hr0
  exact ⟨hr, row_kept h.n hg (h.on), row_kept h.x hg (h.ox), row_kept h.p hg (h.op), row_kept h.l hg (h.ol), ap_next h.on (fun y hy => row_lt h.n y hy) ha, ap_next h.ox (fun y hy => row_lt h.x y hy) ha, ap_next h.op (fun y hy => row_lt h.p y hy) ha, ap_next h.ol (fun y hy => row_lt h.l y hy) ha, h.nx, h.np, h.nl, h.xp, h.xl, h.pl⟩
theorem PQ.grow_n {w w' : World} {B : Nat} {O N W P L : Option Addr} {oc nc wc pc lc : Nat} {xs : List In} {ns ws : List (List UInt8)} {ps ls : List Nat} (h : PQ w B O N W P L oc nc wc pc lc xs ns ws ps ls) (s : List UInt8) {A' : Option Addr} {c' : Nat} (hr0 : w'.ownsRow B 9 1 (.slice A' (ns.length + 1) c') (ns.length + 1) ((ns ++ [s]).map sv)) (hg : w.grownBy w' (N.map fun a => a.block)) (ha : A' = N ∨ A' = some ⟨w.heap.size, 0, none⟩) : PQ w' B O A' W P L oc c' wc pc lc xs (ns ++ [s]) ws ps ls := by
  have hn : (ns ++ [s]).length = ns.length + 1 := by simp
  have hr : w'.ownsRow B 9 1 (.slice A' (ns ++ [s]).length c') (ns ++ [s]).length ((ns ++ [s]).map sv) := by rw [hn]; exact hr0
  exact ⟨row_kept h.o hg (h.on.symm), hr, row_kept h.x hg (h.nx), row_kept h.p hg (h.np), row_kept h.l hg (h.nl), (ap_next h.on.symm (fun y hy => row_lt h.o y hy) ha).symm, h.ox, h.op, h.ol, ap_next h.nx (fun y hy => row_lt h.x y hy) ha, ap_next h.np (fun y hy => row_lt h.p y hy) ha, ap_next h.nl (fun y hy => row_lt h.l y hy) ha, h.xp, h.xl, h.pl⟩
theorem PQ.grow_x {w w' : World} {B : Nat} {O N W P L : Option Addr} {oc nc wc pc lc : Nat} {xs : List In} {ns ws : List (List UInt8)} {ps ls : List Nat} (h : PQ w B O N W P L oc nc wc pc lc xs ns ws ps ls) (s : List UInt8) {A' : Option Addr} {c' : Nat} (hr0 : w'.ownsRow B 9 1 (.slice A' (ws.length + 1) c') (ws.length + 1) ((ws ++ [s]).map sv)) (hg : w.grownBy w' (W.map fun a => a.block)) (ha : A' = W ∨ A' = some ⟨w.heap.size, 0, none⟩) : PQ w' B O N A' P L oc nc c' pc lc xs ns (ws ++ [s]) ps ls := by
  have hn : (ws ++ [s]).length = ws.length + 1 := by simp
  have hr : w'.ownsRow B 9 1 (.slice A' (ws ++ [s]).length c') (ws ++ [s]).length ((ws ++ [s]).map sv) := by rw [hn]; exact hr0
  exact ⟨row_kept h.o hg (h.ox.symm), row_kept h.n hg (h.nx.symm), hr, row_kept h.p hg (h.xp), row_kept h.l hg (h.xl), h.on, (ap_next h.ox.symm (fun y hy => row_lt h.o y hy) ha).symm, h.op, h.ol, (ap_next h.nx.symm (fun y hy => row_lt h.n y hy) ha).symm, h.np, h.nl, ap_next h.xp (fun y hy => row_lt h.p y hy) ha, ap_next h.xl (fun y hy => row_lt h.l y hy) ha, h.pl⟩
theorem PQ.grow_p {w w' : World} {B : Nat} {O N W P L : Option Addr} {oc nc wc pc lc : Nat} {xs : List In} {ns ws : List (List UInt8)} {ps ls : List Nat} (h : PQ w B O N W P L oc nc wc pc lc xs ns ws ps ls) (m : Nat) {A' : Option Addr} {c' : Nat} (hr0 : w'.ownsRow B 3 1 (.slice A' (ps.length + 1) c') (ps.length + 1) (ivN (ps ++ [m]))) (hg : w.grownBy w' (P.map fun a => a.block)) (ha : A' = P ∨ A' = some ⟨w.heap.size, 0, none⟩) : PQ w' B O N W A' L oc nc wc c' lc xs ns ws (ps ++ [m]) ls := by
  have hn : (ps ++ [m]).length = ps.length + 1 := by simp
  have hr : w'.ownsRow B 3 1 (.slice A' (ps ++ [m]).length c') (ps ++ [m]).length (ivN (ps ++ [m])) := by rw [hn]; exact hr0
  exact ⟨row_kept h.o hg (h.op.symm), row_kept h.n hg (h.np.symm), row_kept h.x hg (h.xp.symm), hr, row_kept h.l hg (h.pl), h.on, h.ox, (ap_next h.op.symm (fun y hy => row_lt h.o y hy) ha).symm, h.ol, h.nx, (ap_next h.np.symm (fun y hy => row_lt h.n y hy) ha).symm, h.nl, (ap_next h.xp.symm (fun y hy => row_lt h.x y hy) ha).symm, h.xl, ap_next h.pl (fun y hy => row_lt h.l y hy) ha⟩
theorem PQ.grow_l {w w' : World} {B : Nat} {O N W P L : Option Addr} {oc nc wc pc lc : Nat} {xs : List In} {ns ws : List (List UInt8)} {ps ls : List Nat} (h : PQ w B O N W P L oc nc wc pc lc xs ns ws ps ls) (m : Nat) {A' : Option Addr} {c' : Nat} (hr0 : w'.ownsRow B 3 1 (.slice A' (ls.length + 1) c') (ls.length + 1) (ivN (ls ++ [m]))) (hg : w.grownBy w' (L.map fun a => a.block)) (ha : A' = L ∨ A' = some ⟨w.heap.size, 0, none⟩) : PQ w' B O N W P A' oc nc wc pc c' xs ns ws ps (ls ++ [m]) := by
  have hn : (ls ++ [m]).length = ls.length + 1 := by simp
  have hr : w'.ownsRow B 3 1 (.slice A' (ls ++ [m]).length c') (ls ++ [m]).length (ivN (ls ++ [m])) := by rw [hn]; exact hr0
  exact ⟨row_kept h.o hg (h.ol.symm), row_kept h.n hg (h.nl.symm), row_kept h.x hg (h.xl.symm), row_kept h.p hg (h.pl.symm), hr, h.on, h.ox, h.op, (ap_next h.ol.symm (fun y hy => row_lt h.o y hy) ha).symm, h.nx, h.np, (ap_next h.nl.symm (fun y hy => row_lt h.n y hy) ha).symm, h.xp, (ap_next h.xl.symm (fun y hy => row_lt h.x y hy) ha).symm, (ap_next h.pl.symm (fun y hy => row_lt h.p y hy) ha).symm⟩
theorem flatI_to (acc : List In) (x : In) (r : List In) (p : Int) : (flatI (acc ++ x :: r)).set (acc.length * 11 + 10) (.int .i64 p) = flatI (acc ++ putO 9 p x :: r) := by
  rw [flatI_append, flatI_append, List.set_append_right _ _ (by rw [length_flatI]; omega), length_flatI, show acc.length * 11 + 10 - acc.length * 11 = 10 by omega, flatI_cons, flatI_cons]
  rfl
theorem PQ.put_to {w : World} {B g : Nat} {N W P L : Option Addr} {oc nc wc pc lc : Nat} {acc r : List In} {x : In} {ns ws : List (List UInt8)} {ps ls : List Nat} (h : PQ w B (some ⟨g, 0, none⟩) N W P L oc nc wc pc lc (acc ++ x :: r) ns ws ps ls) (p : Int) (k : Nat) (hk : acc.length = k) : PQ (w.setCell ⟨g, k * 11 + 10, none⟩ (.int .i64 p)) B (some ⟨g, 0, none⟩) N W P L oc nc wc pc lc (acc ++ putO 9 p x :: r) ns ws ps ls := by
  subst hk
  have hs := (h.o.stored (acc.length * 11 + 10) (.int .i64 p)).1
  rw [flatI_to] at hs
  have hl : (acc ++ x :: r).length = (acc ++ putO 9 p x :: r).length := by simp
  have hg : w.grownBy (w.setCell ⟨g, acc.length * 11 + 10, none⟩ (.int .i64 p)) ((some (⟨g, 0, none⟩ : Addr)).map fun a => a.block) := grown_set w g _ _
  exact ⟨by rw [← hl]; exact hs, row_kept h.n hg h.on, row_kept h.x hg h.ox, row_kept h.p hg h.op, row_kept h.l hg h.ol, h.on, h.ox, h.op, h.ol, h.nx, h.np, h.nl, h.xp, h.xl, h.pl⟩
theorem wd_of {w : World} {B : Nat} {A : Option Addr} {cap : Nat} {lb : Lbs} (h : w.ownsRow B 9 1 (.slice A (lb.map (·.1)).length cap) (lb.map (·.1)).length ((lb.map (·.1)).map sv)) : WdRow w w.heap.size A (lb.map (·.1)) := WdRow.of_owns h
theorem sv_at (l : List (List UInt8)) (k : Nat) (hk : k < l.length) : (l.map sv)[k]? = some (.string (bs l[k])) := by
  rw [List.getElem?_map, List.getElem?_eq_getElem hk]
  rfl
theorem iv_at (l : List Nat) (k : Nat) (hk : k < l.length) : (ivN l)[k]? = some (.int .i64 (l[k] : Nat)) := by
  unfold ivN
  rw [List.getElem?_map, List.getElem?_eq_getElem hk]
  rfl
end Go.Proofs.YtggaijdbaplfiaaGreatDoor
