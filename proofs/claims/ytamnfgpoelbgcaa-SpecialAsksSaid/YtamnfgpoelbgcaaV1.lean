/- Plain facts of specials; specials in memory one behind the other. -/
import Derived.Test.YtamnfgpoelbgcaaOwn
import Derived.Deep.RegionLaw
import Derived.Deep.RegionHeld3
import Derived.Deep.AppendLies
import Derived.LoopTactic
namespace Go.Proofs.Ytamnfgpoelbgcaa
open Go.RowKit
set_option linter.unusedVariables false
set_option linter.unusedSimpArgs false

structure Sc where
  a : Int
  k : Int
  t : Int
theorem Sc.ext_iff3 (x y : Sc) : x = y ↔ x.a = y.a ∧ x.k = y.k ∧ x.t = y.t := by
  constructor
  · rintro rfl; exact ⟨rfl, rfl, rfl⟩
  · obtain ⟨a, k, t⟩ := x
    obtain ⟨a', k', t'⟩ := y
    rintro ⟨h1, h2, h3⟩
    simp only at h1 h2 h3
    subst h1 h2 h3
    rfl
def sc0 : Sc := ⟨0, 0, 0⟩
def scv (s : Sc) : Value := .agg #[.int .u64 s.a, .int .u8 s.k, .int .u64 s.t]
def scc (s : Sc) : List Value := [.int .u64 s.a, .int .u8 s.k, .int .u64 s.t]
def flat (l : List Sc) : List Value := l.flatMap scc
def nthC (l : List Sc) (i : Nat) : Sc := l.getD i sc0
theorem length_flat (l : List Sc) : (flat l).length = l.length * 3 := by
  induction l with
  | nil => rfl
  | cons s l ih =>
    show (scc s ++ flat l).length = _
    rw [List.length_append, ih]
    simp [scc]
    omega
theorem flat_append (l m : List Sc) : flat (l ++ m) = flat l ++ flat m := by simp [flat]
theorem flat_one (l : List Sc) : ∀ v ∈ flat l, v.oneCell' = true := by
  intro v hv
  simp only [flat, List.mem_flatMap] at hv
  obtain ⟨s, _, hs⟩ := hv
  simp only [scc, List.mem_cons, List.not_mem_nil, or_false] at hs
  rcases hs with rfl | rfl | rfl <;> rfl
theorem flat_at (l : List Sc) (i : Nat) (h : i < l.length) : (flat l)[i * 3]? = some (.int .u64 (nthC l i).a) ∧ (flat l)[i * 3 + 1]? = some (.int .u8 (nthC l i).k) ∧ (flat l)[i * 3 + 2]? = some (.int .u64 (nthC l i).t) := by
  induction l generalizing i with
  | nil => simp at h
  | cons s l ih =>
    have e : flat (s :: l) = .int .u64 s.a :: .int .u8 s.k :: .int .u64 s.t :: flat l := rfl
    cases i with
    | zero => rw [e]; exact ⟨rfl, rfl, rfl⟩
    | succ i =>
      have := ih i (by simp at h; omega)
      rw [e, show (i + 1) * 3 = i * 3 + 1 + 1 + 1 by omega]
      exact this
theorem flat_take (l : List Sc) (i : Nat) : (flat l).take (i * 3) = flat (l.take i) := by
  induction l generalizing i with
  | nil => simp [flat]
  | cons s l ih =>
    cases i with
    | zero => simp [flat]
    | succ i =>
      have e : flat (s :: l) = .int .u64 s.a :: .int .u8 s.k :: .int .u64 s.t :: flat l := rfl
      rw [e, show (i + 1) * 3 = i * 3 + 1 + 1 + 1 by omega, List.take_succ_cons, List.take_succ_cons, List.take_succ_cons, ih]
      rfl
theorem flat_drop (l : List Sc) (i : Nat) : (flat l).drop (i * 3) = flat (l.drop i) := by
  induction l generalizing i with
  | nil => simp [flat]
  | cons s l ih =>
    cases i with
    | zero => simp
    | succ i =>
      have e : flat (s :: l) = .int .u64 s.a :: .int .u8 s.k :: .int .u64 s.t :: flat l := rfl
      rw [e, show (i + 1) * 3 = i * 3 + 1 + 1 + 1 by omega, List.drop_succ_cons, List.drop_succ_cons, List.drop_succ_cons, ih]
      rfl
theorem nthC_take (l : List Sc) (i j : Nat) (h : j < i) : nthC (l.take i) j = nthC l j := by
  unfold nthC
  simp only [List.getD_eq_getElem?_getD]
  rw [List.getElem?_take_of_lt h]
theorem nthC_drop (l : List Sc) (i j : Nat) : nthC (l.drop i) j = nthC l (i + j) := by
  unfold nthC
  simp only [List.getD_eq_getElem?_getD, List.getElem?_drop]
theorem nthC_mem (l : List Sc) (i : Nat) (h : i < l.length) : nthC l i ∈ l := by
  unfold nthC
  rw [List.getD_eq_getElem?_getD, List.getElem?_eq_getElem h]
  exact List.getElem_mem h
theorem take_nthC (l : List Sc) (i : Nat) (h : i < l.length) : l.take (i + 1) = l.take i ++ [nthC l i] := by
  unfold nthC
  rw [List.getD_eq_getElem?_getD, List.getElem?_eq_getElem h, List.take_add_one, List.getElem?_eq_getElem h]
  rfl
/-- a special that lies in block g from o on -/
structure Sp3 (w : World) (g o : Nat) (s : Sc) : Prop where
  c0 : w.cell? ⟨g, o, none⟩ = some (.int .u64 s.a)
  c1 : w.cell? ⟨g, o + 1, none⟩ = some (.int .u8 s.k)
  c2 : w.cell? ⟨g, o + 2, none⟩ = some (.int .u64 s.t)
theorem Sp3.lt {w : World} {g o : Nat} {s : Sc} (h : Sp3 w g o s) : g < w.heap.size := World.block_lt_of_cell? w _ h.c0
theorem Sp3.keep {w w' : World} {g o : Nat} {s : Sc} (h : Sp3 w g o s) (hk : ∀ o, w'.cell? ⟨g, o, none⟩ = w.cell? ⟨g, o, none⟩) : Sp3 w' g o s :=
  ⟨(hk _).trans h.c0, (hk _).trans h.c1, (hk _).trans h.c2⟩
theorem Sp3.below {w w' : World} {B g o : Nat} {s : Sc} (h : Sp3 w g o s) (hb : Below B w w') (hg : g < B) : Sp3 w' g o s := h.keep fun o => (bcell hb).1 _ _ hg
theorem Sp3.later {w w' : World} {g o : Nat} {s : Sc} (h : Sp3 w g o s) (hb : Below w.heap.size w w') : Sp3 w' g o s := h.below hb h.lt
theorem Sp3.new (w : World) (s : Sc) (t : TypeId) : Sp3 (w.alloc (.cells #[.int .u64 s.a, .int .u8 s.k, .int .u64 s.t] t)) w.heap.size 0 s := by
  constructor <;> simp [go_sem]
/-- the slice at A holds the specials l, ahead of block B -/
structure CRow (w : World) (B : Nat) (A : Option Addr) (l : List Sc) : Prop where
  at_ : 0 < l.length → ∃ b off, A = some ⟨b, off, none⟩ ∧ b < B ∧ ∀ i, i < l.length → Sp3 w b (off + i * 3) (nthC l i)
theorem CRow.keep {w w' : World} {B : Nat} {A : Option Addr} {l : List Sc} (h : CRow w B A l) (hk : ∀ b o, b < B → w'.cell? ⟨b, o, none⟩ = w.cell? ⟨b, o, none⟩) : CRow w' B A l :=
  ⟨fun hl => by
    obtain ⟨b, off, e, hb, hc⟩ := h.at_ hl
    exact ⟨b, off, e, hb, fun i hi => (hc i hi).keep fun o => hk b o hb⟩⟩
theorem CRow.more {w : World} {B B' : Nat} {A : Option Addr} {l : List Sc} (h : CRow w B A l) (hB : B ≤ B') : CRow w B' A l :=
  ⟨fun hl => by
    obtain ⟨b, off, e, hb, hc⟩ := h.at_ hl
    exact ⟨b, off, e, by omega, hc⟩⟩
theorem CRow.below {w w' : World} {B : Nat} {A : Option Addr} {l : List Sc} (h : CRow w B A l) (hb : Below B w w') : CRow w' B A l := h.keep fun b o hlt => hb.cell (p := ⟨b, o, none⟩) hlt
theorem CRow.later {w w' : World} {A : Option Addr} {l : List Sc} (h : CRow w w.heap.size A l) (hb : Below w.heap.size w w') : CRow w' w'.heap.size A l := (h.below hb).more hb.size
theorem CRow.nil (w : World) (B : Nat) (A : Option Addr) : CRow w B A [] := ⟨fun h => by simp at h⟩
theorem CRow.take {w : World} {B : Nat} {A : Option Addr} {l : List Sc} (h : CRow w B A l) (i : Nat) : CRow w B A (l.take i) :=
  ⟨fun hl => by
    rw [List.length_take] at hl
    obtain ⟨b, off, e, hb, hc⟩ := h.at_ (by omega)
    refine ⟨b, off, e, hb, fun j hj => ?_⟩
    rw [List.length_take] at hj
    rw [nthC_take l i j (by omega)]
    exact hc j (by omega)⟩
theorem CRow.src {w : World} {B b off : Nat} {l : List Sc} (h : CRow w B (some ⟨b, off, none⟩) l) (j : Nat) (v : Value) (hv : (flat l)[j]? = some v) : w.cell? ((⟨b, off, none⟩ : Addr).add j) = some v := by
  have hj : j < l.length * 3 := by
    have := (List.getElem?_eq_some_iff.1 hv).1
    rwa [length_flat] at this
  obtain ⟨b', off', e, _, hc⟩ := h.at_ (by omega)
  injection e with e
  injection e with e1 e2
  subst e1 e2
  obtain ⟨c0, c1, c2⟩ := hc (j / 3) (by omega)
  obtain ⟨f0, f1, f2⟩ := flat_at l (j / 3) (by omega)
  rw [add_form]
  have h3 : j = j / 3 * 3 ∨ j = j / 3 * 3 + 1 ∨ j = j / 3 * 3 + 2 := by omega
  rcases h3 with h3 | h3 | h3
  · rw [← h3] at c0 f0; rw [c0, ← hv, f0]
  · rw [← h3] at f1; rw [Nat.add_assoc, ← h3] at c1; rw [c1, ← hv, f1]
  · rw [← h3] at f2; rw [Nat.add_assoc, ← h3] at c2; rw [c2, ← hv, f2]
theorem info_sc : (Try.prog.info? 41).map (fun i => (i.zero, i.size, i.bytes)) = some (some (.agg #[.int .u64 0, .int .u8 0, .int .u64 0]), 3, 24) := by kernel_rfl
abbrev OwnsC (w : World) (B : Nat) (v : Value) (l : List Sc) : Prop := w.ownsRow B 41 3 v l.length (flat l)
theorem CRow.of_owns {w : World} {B cap : Nat} {A : Option Addr} {l : List Sc} (h : OwnsC w B (.slice A l.length cap) l) : CRow w w.heap.size A l :=
  ⟨fun hl => by
    obtain ⟨_, ⟨h1, h2⟩ | ⟨g, cap', cur, e, hB, hg, hc, _, hs, ht⟩⟩ := id h
    · omega
    · injection e with e1 e2 e3
      subst e1 e3
      have hlt : g < w.heap.size := heap_lt hg
      refine ⟨g, 0, rfl, hlt, fun i hi => ?_⟩
      obtain ⟨f0, f1, f2⟩ := flat_at l i hi
      have hat : ∀ j v, (flat l)[j]? = some v → j < l.length * 3 → w.cell? ⟨g, j, none⟩ = some v := fun j v hv hj => by
        rw [cell_of_row w g j cur _ _ hg, ← hv, ← ht, List.getElem?_take_of_lt hj, Array.getElem?_toList]
      rw [Nat.zero_add]
      exact ⟨hat _ _ f0 (by omega), hat _ _ f1 (by omega), hat _ _ f2 (by omega)⟩⟩
theorem OwnsC.later {w w' : World} {B : Nat} {v : Value} {l : List Sc} (h : OwnsC w B v l) (hb : Below w.heap.size w w') : OwnsC w' B v l := by
  refine World.ownsRow.kept (row := none) h ⟨hb.os, hb.tape, hb.output, hb.size, fun k hk _ => hb.block k hk⟩ ?_
  cases hv : v.ownBlock
  · exact .inl rfl
  · exact .inr (by simp)
theorem owns_laterC {w w' : World} {B n : Nat} {v : Value} {xs : List Value} (h : w.ownsRow B 41 3 v n xs) (hb : Below w.heap.size w w') : w'.ownsRow B 41 3 v n xs := by
  refine World.ownsRow.kept (row := none) h ⟨hb.os, hb.tape, hb.output, hb.size, fun k hk _ => hb.block k hk⟩ ?_
  cases hv : v.ownBlock
  · exact .inl rfl
  · exact .inr (by simp)
theorem owns_monoC {w : World} {B B' s n : Nat} {e : TypeId} {v : Value} {xs : List Value} (h : w.ownsRow B e s v n xs) (hB : B' ≤ B) : w.ownsRow B' e s v n xs := by
  obtain ⟨h0, h1 | ⟨g, c, cur, h1, h2, h3⟩⟩ := h
  · exact ⟨h0, .inl h1⟩
  · exact ⟨h0, .inr ⟨g, c, cur, h1, Nat.le_trans hB h2, h3⟩⟩
end Go.Proofs.Ytamnfgpoelbgcaa
