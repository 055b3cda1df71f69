/- Slots in memory, one behind the other. -/
import Derived.Test.YtdeopodfpeeenaaDoorW3
import Derived.Test.YtdeopodfpeeenaaDoorY0
import Derived.Deep.RegionLaw
import Derived.Deep.RegionHeld3
import Derived.Deep.AppendLies
import Derived.LoopTactic
namespace Go.Proofs.YtdeopodfpeeenaaDoor
open Go.RowKit
set_option linter.unusedVariables false
set_option linter.unusedSimpArgs false

def ecv (s : Es) : Value := .agg #[.int .u8 (s.s : Nat), .int .u64 (s.k : Nat), .int .u64 (s.v : Nat)]
def ecc (s : Es) : List Value := [.int .u8 (s.s : Nat), .int .u64 (s.k : Nat), .int .u64 (s.v : Nat)]
def eflat (l : List Es) : List Value := l.flatMap ecc
def EW (s : Es) : Prop := s.s < 256 ∧ s.k < W64 ∧ s.v < W64
theorem ew0 : EW es0 := by unfold EW W64; exact ⟨by decide, by decide, by decide⟩
theorem length_eflat (l : List Es) : (eflat l).length = l.length * 3 := by
  induction l with
  | nil => rfl
  | cons s l ih =>
    show (ecc s ++ eflat l).length = _
    rw [List.length_append, ih]
    simp [ecc]
    omega
theorem eflat_append (l m : List Es) : eflat (l ++ m) = eflat l ++ eflat m := by simp [eflat]
theorem eflat_one (l : List Es) : ∀ v ∈ eflat l, v.oneCell' = true := by
  intro v hv
  simp only [eflat, List.mem_flatMap] at hv
  obtain ⟨s, _, hs⟩ := hv
  simp only [ecc, List.mem_cons, List.not_mem_nil, or_false] at hs
  rcases hs with rfl | rfl | rfl <;> rfl
theorem eflat_at (l : List Es) (i : Nat) (h : i < l.length) : (eflat l)[i * 3]? = some (.int .u8 ((nthE l i).s : Nat)) ∧ (eflat l)[i * 3 + 1]? = some (.int .u64 ((nthE l i).k : Nat)) ∧ (eflat l)[i * 3 + 2]? = some (.int .u64 ((nthE l i).v : Nat)) := by
  induction l generalizing i with
  | nil => simp at h
  | cons s l ih =>
    have e : eflat (s :: l) = .int .u8 (s.s : Nat) :: .int .u64 (s.k : Nat) :: .int .u64 (s.v : Nat) :: eflat l := rfl
    cases i with
    | zero => rw [e]; exact ⟨rfl, rfl, rfl⟩
    | succ i =>
      have := ih i (by simp at h; omega)
      rw [e, show (i + 1) * 3 = i * 3 + 1 + 1 + 1 by omega]
      exact this
/-- a slot that lies in block g from o on -/
structure Ep3 (w : World) (g o : Nat) (s : Es) : Prop where
  c0 : w.cell? ⟨g, o, none⟩ = some (.int .u8 (s.s : Nat))
  c1 : w.cell? ⟨g, o + 1, none⟩ = some (.int .u64 (s.k : Nat))
  c2 : w.cell? ⟨g, o + 2, none⟩ = some (.int .u64 (s.v : Nat))
theorem Ep3.lt {w : World} {g o : Nat} {s : Es} (h : Ep3 w g o s) : g < w.heap.size := World.block_lt_of_cell? w _ h.c0
theorem Ep3.keep {w w' : World} {g o : Nat} {s : Es} (h : Ep3 w g o s) (hk : ∀ o, w'.cell? ⟨g, o, none⟩ = w.cell? ⟨g, o, none⟩) : Ep3 w' g o s :=
  ⟨(hk _).trans h.c0, (hk _).trans h.c1, (hk _).trans h.c2⟩
theorem Ep3.below {w w' : World} {B g o : Nat} {s : Es} (h : Ep3 w g o s) (hb : Below B w w') (hg : g < B) : Ep3 w' g o s := h.keep fun o => (bcell hb).1 _ _ hg
theorem Ep3.later {w w' : World} {g o : Nat} {s : Es} (h : Ep3 w g o s) (hb : Below w.heap.size w w') : Ep3 w' g o s := h.below hb h.lt
/-- the slice at A holds the slots l, ahead of block B -/
structure ERow (w : World) (B : Nat) (A : Option Addr) (l : List Es) : Prop where
  wd : ∀ s ∈ l, EW s
  at_ : 0 < l.length → ∃ b off, A = some ⟨b, off, none⟩ ∧ b < B ∧ ∀ i, i < l.length → Ep3 w b (off + i * 3) (nthE l i)
theorem ERow.keep {w w' : World} {B : Nat} {A : Option Addr} {l : List Es} (h : ERow w B A l) (hk : ∀ b o, b < B → w'.cell? ⟨b, o, none⟩ = w.cell? ⟨b, o, none⟩) : ERow w' B A l :=
  ⟨h.wd, fun hl => by
    obtain ⟨b, off, e, hb, hc⟩ := h.at_ hl
    exact ⟨b, off, e, hb, fun i hi => (hc i hi).keep fun o => hk b o hb⟩⟩
theorem ERow.more {w : World} {B B' : Nat} {A : Option Addr} {l : List Es} (h : ERow w B A l) (hB : B ≤ B') : ERow w B' A l :=
  ⟨h.wd, fun hl => by
    obtain ⟨b, off, e, hb, hc⟩ := h.at_ hl
    exact ⟨b, off, e, by omega, hc⟩⟩
theorem ERow.below {w w' : World} {B : Nat} {A : Option Addr} {l : List Es} (h : ERow w B A l) (hb : Below B w w') : ERow w' B A l := h.keep fun b o hlt => hb.cell (p := ⟨b, o, none⟩) hlt
theorem ERow.later {w w' : World} {A : Option Addr} {l : List Es} (h : ERow w w.heap.size A l) (hb : Below w.heap.size w w') : ERow w' w'.heap.size A l := (h.below hb).more hb.size
theorem ERow.nil (w : World) (B : Nat) (A : Option Addr) : ERow w B A [] := ⟨fun s hs => by simp at hs, fun h => by simp at h⟩
theorem ERow.nthW {w : World} {B : Nat} {A : Option Addr} {l : List Es} (h : ERow w B A l) (i : Nat) : EW (nthE l i) := by
  by_cases hi : i < l.length
  · exact h.wd _ (nthE_mem l i hi)
  · have : nthE l i = es0 := by
      unfold nthE
      rw [List.getD_eq_getElem?_getD, List.getElem?_eq_none (by omega)]
      rfl
    rw [this]; exact ew0
theorem ERow.src {w : World} {B b off : Nat} {l : List Es} (h : ERow w B (some ⟨b, off, none⟩) l) (j : Nat) (v : Value) (hv : (eflat l)[j]? = some v) : w.cell? ((⟨b, off, none⟩ : Addr).add j) = some v := by
  have hj : j < l.length * 3 := by
    have := (List.getElem?_eq_some_iff.1 hv).1
    rwa [length_eflat] at this
  obtain ⟨b', off', e, _, hc⟩ := h.at_ (by omega)
  injection e with e
  injection e with e1 e2
  subst e1 e2
  obtain ⟨c0, c1, c2⟩ := hc (j / 3) (by omega)
  obtain ⟨f0, f1, f2⟩ := eflat_at l (j / 3) (by omega)
  rw [add_form]
  have h3 : j = j / 3 * 3 ∨ j = j / 3 * 3 + 1 ∨ j = j / 3 * 3 + 2 := by omega
  rcases h3 with h3 | h3 | h3
  · rw [← h3] at c0 f0; rw [c0, ← hv, f0]
  · rw [← h3] at f1; rw [Nat.add_assoc, ← h3] at c1; rw [c1, ← hv, f1]
  · rw [← h3] at f2; rw [Nat.add_assoc, ← h3] at c2; rw [c2, ← hv, f2]
theorem info_es : (Tryd.prog.info? 58).map (fun i => (i.zero, i.size, i.bytes)) = some (some (.agg #[.int .u8 0, .int .u64 0, .int .u64 0]), 3, 24) := by kernel_rfl
/-- slots of a call's own, in a block from B on -/
structure EOwn (w : World) (B : Nat) (A : Option Addr) (l : List Es) : Prop where
  wd : ∀ s ∈ l, EW s
  at_ : 0 < l.length → ∃ g, A = some ⟨g, 0, none⟩ ∧ B ≤ g ∧ g < w.heap.size ∧ (∀ i, i < l.length → Ep3 w g (i * 3) (nthE l i)) ∧ ∀ j, w.frozen? ⟨g, j, none⟩ = false
theorem EOwn.row {w : World} {B : Nat} {A : Option Addr} {l : List Es} (h : EOwn w B A l) : ERow w w.heap.size A l :=
  ⟨h.wd, fun hl => by
    obtain ⟨g, e, _, hg, hc, _⟩ := h.at_ hl
    exact ⟨g, 0, e, hg, fun i hi => by rw [Nat.zero_add]; exact hc i hi⟩⟩
theorem EOwn.nil (w : World) (B : Nat) (A : Option Addr) : EOwn w B A [] := ⟨fun x hx => by simp at hx, fun h => by simp at h⟩
theorem EOwn.later {w w' : World} {B : Nat} {A : Option Addr} {l : List Es} (h : EOwn w B A l) (hb : Below w.heap.size w w') : EOwn w' B A l :=
  ⟨h.wd, fun hl => by
    obtain ⟨g, e, h1, hg, hc, hf⟩ := h.at_ hl
    exact ⟨g, e, h1, Nat.lt_of_lt_of_le hg hb.size, fun i hi => (hc i hi).later hb, fun j => ((bcell hb).2 _ _ hg).trans (hf j)⟩⟩
theorem EOwn.mono {w : World} {B B' : Nat} {A : Option Addr} {l : List Es} (h : EOwn w B A l) (hB : B' ≤ B) : EOwn w B' A l :=
  ⟨h.wd, fun hl => by
    obtain ⟨g, e, h1, hg, hc⟩ := h.at_ hl
    exact ⟨g, e, by omega, hg, hc⟩⟩
theorem EOwn.off {w : World} {B g : Nat} {A : Option Addr} {l : List Es} (h : EOwn w B A l) (hA : A = some ⟨g, 0, none⟩) {p : Addr} (hp : p.block ≠ g) (u : Value) : EOwn (w.setCell p u) B A l :=
  ⟨h.wd, fun hl => by
    obtain ⟨g', e, h1, hg, hc, hf⟩ := h.at_ hl
    rw [hA] at e
    injection e with e
    injection e with e
    subst e
    refine ⟨g, hA, h1, by simpa using hg, fun i hi => ?_, fun j => ?_⟩
    · exact (hc i hi).keep fun o => World.cell?_setCell_other _ _ _ _ (by rintro rfl; exact hp rfl)
    · rw [World.frozen?_setCell]
      exact hf j⟩
theorem ep3_set_other {w : World} {g o : Nat} {s : Es} (h : Ep3 w g o s) (q : Nat) (u : Value) (hq : q ≠ o ∧ q ≠ o + 1 ∧ q ≠ o + 2) : Ep3 (w.setCell ⟨g, q, none⟩ u) g o s :=
  ⟨(World.cell?_setCell_other _ _ _ _ (by intro e; injection e; omega)).trans h.c0, (World.cell?_setCell_other _ _ _ _ (by intro e; injection e; omega)).trans h.c1, (World.cell?_setCell_other _ _ _ _ (by intro e; injection e; omega)).trans h.c2⟩
theorem EOwn.setV {w : World} {B g a x : Nat} {A : Option Addr} {l : List Es} (h : EOwn w B A l) (hA : A = some ⟨g, 0, none⟩) (ha : a < l.length) (hx : x < W64) :
    EOwn (w.setCell ⟨g, a * 3 + 2, none⟩ (.int .u64 (x : Nat))) B A (l.set a ⟨(nthE l a).s, (nthE l a).k, x⟩) :=
  ⟨fun s hs => by
    rcases List.mem_or_eq_of_mem_set hs with hs | rfl
    · exact h.wd s hs
    · obtain ⟨h1, h2, _⟩ := h.wd _ (nthE_mem l a ha)
      exact ⟨h1, h2, hx⟩, fun hl => by
    obtain ⟨g', e, h1, hg, hc, hf⟩ := h.at_ (by omega)
    rw [hA] at e
    injection e with e
    injection e with e
    subst e
    refine ⟨g, hA, h1, by simpa using hg, fun i hi => ?_, fun j => by rw [World.frozen?_setCell]; exact hf j⟩
    rw [List.length_set] at hi
    rw [nthE_set _ _ _ _ ha]
    by_cases e : i = a
    · subst e
      rw [if_pos rfl]
      obtain ⟨c0, c1, c2⟩ := hc i hi
      exact ⟨(World.cell?_setCell_other _ _ _ _ (by intro e; injection e; omega)).trans c0, (World.cell?_setCell_other _ _ _ _ (by intro e; injection e; omega)).trans c1, World.cell?_setCell_same _ _ _ c2⟩
    · rw [if_neg e]
      exact ep3_set_other (hc i hi) _ _ (by omega)⟩
theorem EOwn.set {w : World} {B g a : Nat} {A : Option Addr} {l : List Es} (h : EOwn w B A l) (hA : A = some ⟨g, 0, none⟩) (ha : a < l.length) (u : Es) (hu : EW u) :
    EOwn (((w.setCell ⟨g, a * 3, none⟩ (.int .u8 (u.s : Nat))).setCell ⟨g, a * 3 + 1, none⟩ (.int .u64 (u.k : Nat))).setCell ⟨g, a * 3 + 2, none⟩ (.int .u64 (u.v : Nat))) B A (l.set a u) :=
  ⟨fun s hs => by
    rcases List.mem_or_eq_of_mem_set hs with hs | rfl
    · exact h.wd s hs
    · exact hu, fun hl => by
    obtain ⟨g', e, h1, hg, hc, hf⟩ := h.at_ (by omega)
    rw [hA] at e
    injection e with e
    injection e with e
    subst e
    refine ⟨g, hA, h1, by simpa using hg, fun i hi => ?_, fun j => by rw [World.frozen?_setCell, World.frozen?_setCell, World.frozen?_setCell]; exact hf j⟩
    rw [List.length_set] at hi
    rw [nthE_set _ _ _ _ ha]
    by_cases e : i = a
    · subst e
      rw [if_pos rfl]
      obtain ⟨c0, c1, c2⟩ := hc i hi
      refine ⟨?_, ?_, ?_⟩
      · rw [World.cell?_setCell_other _ _ _ _ (by intro e; injection e; omega), World.cell?_setCell_other _ _ _ _ (by intro e; injection e; omega)]
        exact World.cell?_setCell_same _ _ _ c0
      · rw [World.cell?_setCell_other _ _ _ _ (by intro e; injection e; omega)]
        refine World.cell?_setCell_same _ _ _ ((World.cell?_setCell_other _ _ _ _ (by intro e; injection e; omega)).trans c1)
      · refine World.cell?_setCell_same _ _ _ ((World.cell?_setCell_other _ _ _ _ (by intro e; injection e; omega)).trans ((World.cell?_setCell_other _ _ _ _ (by intro e; injection e; omega)).trans c2))
    · rw [if_neg e]
      exact ep3_set_other (ep3_set_other (ep3_set_other (hc i hi) _ _ (by omega)) _ _ (by omega)) _ _ (by omega)⟩
/-- slots that can be appended to -/
abbrev OwnsE (w : World) (B : Nat) (v : Value) (l : List Es) : Prop := w.ownsRow B 58 3 v l.length (eflat l)
theorem EOwn.of_owns {w : World} {B cap : Nat} {A : Option Addr} {l : List Es} (h : OwnsE w B (.slice A l.length cap) l) (hw : ∀ s ∈ l, EW s) : EOwn w B A l :=
  ⟨hw, fun hl => by
    have hf := fun (g : Nat) (e : A = some ⟨g, 0, none⟩) j => World.ownsRow.frozenAt (g := g) (by rw [← e]; exact h) j
    obtain ⟨_, ⟨h1, h2⟩ | ⟨g, cap', cur, e, hB, hg, hc, _, hs, ht⟩⟩ := id h
    · omega
    · injection e with e1 e2 e3
      subst e1 e3
      have hlt : g < w.heap.size := heap_lt hg
      refine ⟨g, rfl, hB, hlt, fun i hi => ?_, hf g rfl⟩
      obtain ⟨f0, f1, f2⟩ := eflat_at l i hi
      have hat : ∀ j v, (eflat l)[j]? = some v → j < l.length * 3 → w.cell? ⟨g, j, none⟩ = some v := fun j v hv hj => by
        rw [cell_of_row w g j cur _ _ hg, ← hv, ← ht, List.getElem?_take_of_lt hj, Array.getElem?_toList]
      exact ⟨hat _ _ f0 (by omega), hat _ _ f1 (by omega), hat _ _ f2 (by omega)⟩⟩
/-- a table's value; a working one's -/
def eph (A : Option Addr) (n cap : Nat) : Value := .agg #[.slice A n cap]
def wrk (A : Option Addr) (n cap : Nat) : Value := .agg #[.slice A n cap]
end Go.Proofs.YtdeopodfpeeenaaDoor
