/- Laws of a copy of elements of several cells; slices.Insert of one special. -/
import Derived.Test.YtamnfgpoelbgcaaV8
import Derived.Deep.AppendSrc
import Derived.Lib.AppendZerosOnto
import Derived.Lib.Overlaps
import Derived.Laws.Externs
import Derived.Laws.CopyOwn
namespace Go.Proofs.Ytamnfgpoelbgcaa
open Go.RowKit
set_option linter.unusedVariables false
set_option linter.unusedSimpArgs false

section
variable {P : Program}
theorem run_copy_rowk (w : World) (dT sT ty elem : TypeId) (k g o dLen dCap : Nat) (a : Addr) (sLen sCap : Nat) (cur : Array Value) (t : TypeId) (m : Nat) (cs : List Value)
    (hu : P.underlying dT = some (.slice elem)) (hs : (P.info? elem).map (·.size) = some k)
    (hg : w.heap[g]? = some (.cells cur t (0, 0))) (hm : m = Nat.min sLen dLen) (hn : cs.length = m * k)
    (hsrc : ∀ j v, cs[j]? = some v → w.cell? (a.add j) = some v) (hfit : o + cs.length ≤ cur.size) (h1 : ∀ v ∈ cs, v.oneCell' = true) :
    (Builtin.copy_ #[dT, sT] ty #[.slice (some ⟨g, o, none⟩) dLen dCap, .slice (some a) sLen sCap]).run P w =
      .ok (goInt m) (w.setRow g (cur.toList.take o ++ cs ++ cur.toList.drop (o + cs.length)).toArray) := by
  have hl := run_loadCells_list (P := P) w a cs hsrc
  have hst := run_storeCells_at P g o t cs 0 cur w hg (by simpa using hfit) h1
  cases hq : P.info? elem with
  | none => simp [hq] at hs
  | some i =>
    have hi : i.size = k := by simpa [hq] using hs
    simp [Builtin.copy_, run_underlying hu, Builtin.lenOf, Builtin.firstCells, sizeOf, typeInfo, hq, hi, ← hm, ← hn, hl, hst]
theorem wp_copyk {w : World} {o : Oper} {a : Act} {K : Act → World → Prop} {Q : Exit → Act → World → Prop} (d s : Operand) (dT sT : TypeId)
    (ho : o.op = .call { callee := .builtin .copy, args := #[d, s], argTypes := #[dT, sT] }) (elem : TypeId) (hu : P.underlying dT = some (.slice elem)) (k : Nat) (hsz : (P.info? elem).map (·.size) = some k)
    (g off off' dLen dCap sb soff soff' sLen sCap : Nat) (hd : a.eval d = .slice (some ⟨g, off', none⟩) dLen dCap) (hs : a.eval s = .slice (some ⟨sb, soff', none⟩) sLen sCap) (ho1 : off' = off) (ho2 : soff' = soff)
    (cur : List Value) (t : TypeId) (hg : w.heap[g]? = some (.cells cur.toArray t (0, 0))) (m : Nat) (hm : m = Nat.min sLen dLen) (cs : List Value) (hn : cs.length = m * k)
    (hsrc : ∀ j v, cs[j]? = some v → w.cell? ⟨sb, soff + j, none⟩ = some v) (hfit : off + cs.length ≤ cur.length) (h1 : ∀ v ∈ cs, v.oneCell' = true)
    (h : ∀ w', Hid (w'.heap[g]? = some (.cells (splice cur off cs).toArray t (0, 0))) → w.grownBy w' (some g) → K (a.put o.dst (goInt m)) w') : o.wp P a w K Q := by
  subst ho1 ho2
  have hrun := run_copy_rowk (P := P) w dT sT o.type elem k g off' dLen dCap ⟨sb, soff', none⟩ sLen sCap cur.toArray t m cs hu hsz hg hm hn (fun j v hv => by rw [add_form]; exact hsrc j v hv) (by simpa using hfit) h1
  unfold Oper.wp
  simp [execOp, ho, resolve, invoke, builtin, hd, hs, hrun, Result.andThen]
  refine h _ (show _ = _ by simpa [splice] using setRow_heap w g _ _ t _ hg) ⟨rfl, rfl, rfl, by simp [World.setRow], fun b hb hne => setRow_other w g b _ (fun e => hne (by rw [e]))⟩
theorem wpList_copyk {w : World} {ops : Array Oper} {rest : List Oper} {o : Oper} {a : Act} {Q : Exit → Act → World → Prop} (hgd : o.guard = none) (d s : Operand) (dT sT : TypeId)
    (ho : o.op = .call { callee := .builtin .copy, args := #[d, s], argTypes := #[dT, sT] }) (elem : TypeId) (hu : P.underlying dT = some (.slice elem)) (k : Nat) (hsz : (P.info? elem).map (·.size) = some k)
    (g off off' dLen dCap sb soff soff' sLen sCap : Nat) (hd : a.eval d = .slice (some ⟨g, off', none⟩) dLen dCap) (hs : a.eval s = .slice (some ⟨sb, soff', none⟩) sLen sCap) (ho1 : off' = off) (ho2 : soff' = soff)
    (cur : List Value) (t : TypeId) (hg : w.heap[g]? = some (.cells cur.toArray t (0, 0))) (m : Nat) (hm : m = Nat.min sLen dLen) (cs : List Value) (hn : cs.length = m * k)
    (hsrc : ∀ j v, cs[j]? = some v → w.cell? ⟨sb, soff + j, none⟩ = some v) (hfit : off + cs.length ≤ cur.length) (h1 : ∀ v ∈ cs, v.oneCell' = true)
    (h : ∀ w', Hid (w'.heap[g]? = some (.cells (splice cur off cs).toArray t (0, 0))) → w.grownBy w' (some g) → wpList P ops Q rest (a.put o.dst (goInt m)) w') : wpList P ops Q (o :: rest) a w :=
  wpList_plain hgd fun _ hK => wp_copyk d s dT sT ho elem hu k hsz g off off' dLen dCap sb soff soff' sLen sCap hd hs ho1 ho2 cur t hg m hm cs hn hsrc hfit h1 fun w' h2 h3 => hK _ _ (h w' h2 h3)
theorem step_copyk {w : World} {ops : Array Oper} {o : Oper} {a : Act} {K : Act → World → Prop} {Q : Exit → Act → World → Prop} {E : Prop} (hgd : o.guard = none) (d s : Operand) (dT sT : TypeId)
    (ho : o.op = .call { callee := .builtin .copy, args := #[d, s], argTypes := #[dT, sT] }) (elem : TypeId) (hu : P.underlying dT = some (.slice elem)) (k : Nat) (hsz : (P.info? elem).map (·.size) = some k)
    (g off off' dLen dCap sb soff soff' sLen sCap : Nat) (hd : a.eval d = .slice (some ⟨g, off', none⟩) dLen dCap) (hs : a.eval s = .slice (some ⟨sb, soff', none⟩) sLen sCap) (ho1 : off' = off) (ho2 : soff' = soff)
    (cur : List Value) (t : TypeId) (hg : w.heap[g]? = some (.cells cur.toArray t (0, 0))) (m : Nat) (hm : m = Nat.min sLen dLen) (cs : List Value) (hn : cs.length = m * k)
    (hsrc : ∀ j v, cs[j]? = some v → w.cell? ⟨sb, soff + j, none⟩ = some v) (hfit : off + cs.length ≤ cur.length) (h1 : ∀ v ∈ cs, v.oneCell' = true)
    (h : ∀ w', Hid (w'.heap[g]? = some (.cells (splice cur off cs).toArray t (0, 0))) → w.grownBy w' (some g) → K (a.put o.dst (goInt m)) w') :
    if Region.wanted o (yielded ops a.tmps) = true then Oper.wp P o a w K Q else E := by
  have hw : Region.wanted o (yielded ops a.tmps) = true := by simp [Region.wanted, hgd]
  rw [if_pos hw]
  exact wp_copyk d s dT sT ho elem hu k hsz g off off' dLen dCap sb soff soff' sLen sCap hd hs ho1 ho2 cur t hg m hm cs hn hsrc hfit h1 h
end
/-- two copies that put X into a row: Q is shifted by X's length, then X is laid where Q began -/
theorem splice_ins (cur X Q : List Value) (a : Nat) (h : a + X.length + Q.length ≤ cur.length) : (splice (splice cur (a + X.length) Q) a X).take (a + X.length + Q.length) = cur.take a ++ (X ++ Q) ∧ (splice (splice cur (a + X.length) Q) a X).length = cur.length := by
  have h1 : (splice cur (a + X.length) Q).take a = cur.take a := by
    unfold splice
    rw [List.take_append_of_le_length (by rw [List.length_take]; omega), List.take_take, Nat.min_eq_left (by omega)]
  have h2 : (splice cur (a + X.length) Q).drop (a + X.length) = Q ++ cur.drop (a + X.length + Q.length) := by
    unfold splice
    rw [List.drop_append_of_le_length (by rw [List.length_take]; omega), List.drop_eq_nil_of_le (by rw [List.length_take]; omega), List.nil_append]
  have h3 : splice (splice cur (a + X.length) Q) a X = cur.take a ++ (X ++ (Q ++ cur.drop (a + X.length + Q.length))) := by
    show (splice cur (a + X.length) Q).take a ++ (X ++ (splice cur (a + X.length) Q).drop (a + X.length)) = _
    rw [h1, h2]
  rw [h3]
  constructor
  · have e : cur.take a ++ (X ++ (Q ++ cur.drop (a + X.length + Q.length))) = (cur.take a ++ (X ++ Q)) ++ cur.drop (a + X.length + Q.length) := by simp
    rw [e]
    exact List.take_left' (by simp only [List.length_append, List.length_take]; omega)
  · simp only [List.length_append, List.length_take, List.length_drop]
    omega
theorem splice_mid (P X Q Z : List Value) (h : X.length + Q.length ≤ Z.length) : (splice (splice (P ++ Z) P.length X) (P.length + X.length) Q).take (P.length + X.length + Q.length) = P ++ (X ++ Q) ∧ (splice (splice (P ++ Z) P.length X) (P.length + X.length) Q).length = P.length + Z.length := by
  have h1 : splice (P ++ Z) P.length X = P ++ (X ++ Z.drop X.length) := by
    unfold splice
    rw [List.take_left, List.drop_append]
    simp
  have h2 : splice (P ++ (X ++ Z.drop X.length)) (P.length + X.length) Q = P ++ (X ++ (Q ++ (Z.drop X.length).drop Q.length)) := by
    have e : P ++ (X ++ Z.drop X.length) = (P ++ X) ++ Z.drop X.length := by simp
    have e2 : P.length + X.length = (P ++ X).length := by simp
    rw [e, e2]
    unfold splice
    rw [List.take_left, List.drop_append]
    simp
  rw [h1, h2]
  constructor
  · have e : P ++ (X ++ (Q ++ (Z.drop X.length).drop Q.length)) = (P ++ (X ++ Q)) ++ (Z.drop X.length).drop Q.length := by simp
    rw [e]
    exact List.take_left' (by simp only [List.length_append]; omega)
  · simp only [List.length_append, List.length_drop]
    omega
theorem flat_ins (l : List Sc) (s : Sc) (i : Nat) : flat (l.take i ++ s :: l.drop i) = flat (l.take i) ++ (scc s ++ flat (l.drop i)) := by
  rw [flat_append]
  rfl
end Go.Proofs.Ytamnfgpoelbgcaa
