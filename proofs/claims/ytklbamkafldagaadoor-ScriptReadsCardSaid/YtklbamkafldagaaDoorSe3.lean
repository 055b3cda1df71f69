/- Maps from names to events, and sets of events: what they read as. -/
import Derived.Test.YtklbamkafldagaaDoorSe2
import Derived.Maps.Views
import Derived.Maps.OwnSet
namespace Go.Proofs.YtklbamkafldagaaDoor
open Go.RowKit
set_option linter.unusedVariables false
set_option linter.unusedSimpArgs false

/-- how an event reads in a map -/
def evD (e : Ev) : DataW Unit := .agg [.lit (.bool e.th), .lit (.int .i64 e.who), .lit (.int .u8 e.k), .lit (.int .i64 e.tw), .lit (.int .i64 e.n)]
def evElem : Value → Option (DataW Unit × List MemPlace)
  | .agg cs => match cs.toList with
    | [.bool b, .int .i64 a, .int .u8 k, .int .i64 t, .int .i64 n] => some (evD ⟨b, a, k, t, n⟩, [])
    | _ => none
  | _ => none
theorem evElem_mk (e : Ev) : evElem (evv e) = some (evD e, []) := rfl
theorem evD_inj {x y : Ev} (h : evD x = evD y) : x = y := by
  unfold evD at h
  simp only [DataW.agg.injEq, List.cons.injEq, DataW.lit.injEq, Lit.bool.injEq, Lit.int.injEq, true_and, and_true] at h
  exact (Ev.ext_iff5 x y).2 ⟨h.1, h.2.1, h.2.2.1, h.2.2.2.1, h.2.2.2.2⟩
theorem evElem_inv {v : Value} {e : Ev} {ps : List MemPlace} (h : evElem v = some (evD e, ps)) : v = evv e := by
  unfold evElem at h
  split at h
  · rename_i cs
    obtain ⟨cs⟩ := cs
    split at h
    · rename_i b a k t n hcs
      simp only [Option.some.injEq, Prod.mk.injEq] at h
      have := evD_inj h.1
      subst this
      simp only at hcs
      subst hcs
      rfl
    · cases h
  · cases h
/-- the map of some events' names -/
def namesD (l : List Ev) : DataW Unit := l.foldl (fun D e => D.put (.string (nmE e)) (evD e)) (.map [])
theorem namesD_snoc (l : List Ev) (e : Ev) : namesD (l ++ [e]) = (namesD l).put (.string (nmE e)) (evD e) := by
  unfold namesD
  rw [List.foldl_append]
  rfl
theorem namesD_isMap (l : List Ev) : Maps.IsMap (namesD l) := by
  refine snoc_rec (p := fun l => Maps.IsMap (namesD l)) ⟨[], rfl⟩ (fun a x ih => ?_) l
  rw [namesD_snoc]
  exact ih.put _ _
theorem namesD_at (l : List Ev) (s : List UInt8) (z : DataW Unit) : Maps.has (namesD l) (.string s) = (l.reverse.find? fun e => nmE e == s).isSome ∧ (namesD l).atKey (.string s) z = (match l.reverse.find? fun e => nmE e == s with | some e => evD e | none => z) := by
  refine snoc_rec (p := fun l => Maps.has (namesD l) (.string s) = (l.reverse.find? fun e => nmE e == s).isSome ∧ (namesD l).atKey (.string s) z = (match l.reverse.find? fun e => nmE e == s with | some e => evD e | none => z)) ⟨rfl, rfl⟩ (fun a x ih => ?_) l
  rw [namesD_snoc, List.reverse_append, List.reverse_singleton, List.singleton_append, List.find?_cons]
  by_cases h : nmE x = s
  · subst h
    simp only [beq_self_eq_true]
    exact ⟨Maps.has_put_same (namesD_isMap a) (k := .string (nmE x)) trivial _, Maps.atKey_put_same (namesD_isMap a) (k := .string (nmE x)) trivial _ _⟩
  · have h1 : (nmE x == s) = false := by simpa using h
    have h2 : (Lit.string s) ≠ .string (nmE x) := fun e => by injection e with e; exact h e.symm
    rw [h1]
    simp only
    rw [Maps.has_put_other h2, Maps.atKey_put_other h2]
    exact ih
theorem names_look (s : List UInt8) (z : DataW Unit) : Maps.has (namesD sgl) (.string s) = (look s).isSome ∧ (namesD sgl).atKey (.string s) z = (match look s with | some e => evD e | none => z) := namesD_at sgl s z
theorem skey : Maps.Keyed Tryd.prog 9 := Maps.string_keyed Tryd.underlying9
theorem skeyOf {s : ByteArray} (hs : s.size ≤ maxLen) : keyOf Tryd.prog 9 (.string s) = some (.string s.data.toList) := by
  simp [keyOf, Tryd.underlying9, mapKey, hs]
/-- a map of names in block M -/
def NamesM (w : World) (M : Nat) (l : List Ev) : Prop := w.ownsMap Tryd.prog 9 evElem M l.length (namesD l)
theorem NamesM.later {w w' : World} {M : Nat} {l : List Ev} (h : NamesM w M l) (hb : Below w.heap.size w w') : NamesM w' M l :=
  World.ownsMap.kept (row := none) h ⟨hb.os, hb.tape, hb.output, hb.size, fun k hk _ => hb.block k hk⟩ (by simp)
theorem NamesM.lt {w : World} {M : Nat} {l : List Ev} (h : NamesM w M l) : M < w.heap.size := World.ownsMap.lt h
theorem names_ty : Tryd.prog.underlying 45 = some (.map 9 41) := Tryd.underlying45
theorem zeroE (w : World) : (zeroValue 41).run Tryd.prog w = .ok (evv ev0) w := by kernel_rfl
/-- what a name is looked up as -/
theorem NamesM.look {w : World} {M : Nat} {l : List Ev} (h : NamesM w M l) {s : ByteArray} (hs : s.size ≤ maxLen) :
    (Instr.lookup 45 (.map (some M)) (.string s) true).run Tryd.prog w = .ok (.tuple #[evv ((l.reverse.find? fun e => nmE e == s.data.toList).getD ev0), .bool (l.reverse.find? fun e => nmE e == s.data.toList).isSome]) w := by
  obtain ⟨v, ps, h1, h2⟩ := World.ownsMap.look_ok h skey names_ty (zeroE w) (evElem_mk ev0) (skeyOf hs)
  obtain ⟨h3, h4⟩ := namesD_at l s.data.toList (evD ev0)
  rw [h3] at h1
  rw [h4] at h2
  have hv : v = evv ((l.reverse.find? fun e => nmE e == s.data.toList).getD ev0) := by
    cases hf : l.reverse.find? fun e => nmE e == s.data.toList with
    | none => rw [hf] at h2; exact evElem_inv h2
    | some e => rw [hf] at h2; exact evElem_inv h2
  rw [h1, hv]
end Go.Proofs.YtklbamkafldagaaDoor
