/- Words that a call has made for itself; what 'make' gives. -/
import Derived.Test.YtklbamkafldagaaDoorView
import Derived.Test.YtklbamkafldagaaDoorRef
namespace Go.Proofs.YtklbamkafldagaaDoor
open Go.RowKit
set_option linter.unusedVariables false
set_option linter.unusedSimpArgs false

def vals (ws : List Nat) : List Value := ws.map fun (x : Nat) => Value.int .u64 ((x : Nat) : Int)
theorem length_vals (ws : List Nat) : (vals ws).length = ws.length := by simp [vals]
theorem vals_at (ws : List Nat) (i : Nat) (h : i < ws.length) : (vals ws)[i]? = some (.int .u64 (ws.getD i 0 : Nat)) := by
  simp [vals, h]
theorem vals_one (ws : List Nat) : ∀ v ∈ vals ws, v.oneCell' = true := by
  intro v hv
  simp only [vals, List.mem_map] at hv
  obtain ⟨x, _, rfl⟩ := hv
  rfl

theorem Row.src {w : World} {B : Nat} {A : Option Addr} {ws : List Nat} (h : Row w B A ws) (hl : 0 < (vals ws).length) : ∃ ad, A = some ad ∧ ∀ (j : Nat) (v : Value), (vals ws)[j]? = some v → w.cell? (ad.add j) = some v := by
  rw [length_vals] at hl
  obtain ⟨b, off, e, _, hc⟩ := h.at_ hl
  refine ⟨_, e, fun j v hv => ?_⟩
  have hj : j < ws.length := by
    have := (List.getElem?_eq_some_iff.1 hv).1
    rwa [length_vals] at this
  rw [vals_at ws j hj] at hv
  injection hv with hv
  subst hv
  rw [← hc j hj]
  congr 1
  unfold Addr.add
  by_cases e0 : j = 0 <;> simp [e0]
theorem add_form (b off j : Nat) : (⟨b, off, none⟩ : Addr).add j = ⟨b, off + j, none⟩ := by
  unfold Addr.add
  by_cases e0 : j = 0 <;> simp [e0]
theorem Row.src2 {w w' : World} {b off : Nat} {ws : List Nat} (h : Row w w.heap.size (some ⟨b, off, none⟩) ws) (hb : Below w.heap.size w w') (j : Nat) (v : Value) (hv : (vals ws)[j]? = some v) : w'.cell? ((⟨b, off, none⟩ : Addr).add j) = some v := by
  have hj : j < ws.length := by
    have := (List.getElem?_eq_some_iff.1 hv).1
    rwa [length_vals] at this
  obtain ⟨b', off', e, _, hc⟩ := (h.later hb).at_ (by omega)
  injection e with e
  injection e with e1 e2
  subst e1 e2
  rw [vals_at ws j hj] at hv
  injection hv with hv
  subst hv
  rw [add_form]
  exact hc j hj
theorem splice_all {α : Type} (L cs : List α) (h : L.length = cs.length) : splice L 0 cs = cs := by
  simp [splice, h]
/-- the slice at A holds ws, in a block of its own from block B on, and may be written -/
structure Own (w : World) (B : Nat) (A : Option Addr) (ws : List Nat) : Prop where
  words : Words ws
  at_ : 0 < ws.length → ∃ g, A = some ⟨g, 0, none⟩ ∧ B ≤ g ∧ g < w.heap.size ∧ ∀ i, i < ws.length → w.cell? ⟨g, i, none⟩ = some (.int .u64 (ws.getD i 0 : Nat)) ∧ w.frozen? ⟨g, i, none⟩ = false

theorem Own.row {w : World} {B : Nat} {A : Option Addr} {ws : List Nat} (h : Own w B A ws) : Row w w.heap.size A ws :=
  ⟨h.words, fun hl => by
    obtain ⟨g, e, _, hg, hc⟩ := h.at_ hl
    exact ⟨g, 0, e, hg, fun i hi => by rw [Nat.zero_add]; exact (hc i hi).1⟩⟩
theorem Own.nil (w : World) (B : Nat) : Own w B none [] := ⟨fun x hx => by simp at hx, fun h => by simp at h⟩
theorem Own.later {w w' : World} {B : Nat} {A : Option Addr} {ws : List Nat} (h : Own w B A ws) (hb : Below w.heap.size w w') : Own w' B A ws :=
  ⟨h.words, fun hl => by
    obtain ⟨g, e, h1, hg, hc⟩ := h.at_ hl
    exact ⟨g, e, h1, Nat.lt_of_lt_of_le hg hb.size, fun i hi => ⟨((bcell hb).1 _ _ hg).trans (hc i hi).1, ((bcell hb).2 _ _ hg).trans (hc i hi).2⟩⟩⟩
theorem Own.mono {w : World} {B B' : Nat} {A : Option Addr} {ws : List Nat} (h : Own w B A ws) (hB : B' ≤ B) : Own w B' A ws :=
  ⟨h.words, fun hl => by
    obtain ⟨g, e, h1, hg, hc⟩ := h.at_ hl
    exact ⟨g, e, by omega, hg, hc⟩⟩
/-- a store elsewhere -/
theorem Own.far {w : World} {B : Nat} {A : Option Addr} {ws : List Nat} (h : Own w B A ws) {p : Addr} (hp : p.block < B ∨ w.heap.size ≤ p.block) (u : Value) : Own (w.setCell p u) B A ws :=
  ⟨h.words, fun hl => by
    obtain ⟨g, e, h1, hg, hc⟩ := h.at_ hl
    refine ⟨g, e, h1, by simpa using hg, fun i hi => ⟨?_, ?_⟩⟩
    · rw [World.cell?_setCell_other]
      · exact (hc i hi).1
      · rintro rfl
        have : (Addr.block ⟨g, i, none⟩) = g := rfl
        omega
    · rw [World.frozen?_setCell]
      exact (hc i hi).2⟩
theorem Own.off {w : World} {B g : Nat} {A : Option Addr} {ws : List Nat} (h : Own w B A ws) (hA : A = some ⟨g, 0, none⟩) {p : Addr} (hp : p.block ≠ g) (u : Value) : Own (w.setCell p u) B A ws :=
  ⟨h.words, fun hl => by
    obtain ⟨g', e, h1, hg, hc⟩ := h.at_ hl
    rw [hA] at e
    injection e with e
    injection e with e
    subst e
    refine ⟨g, hA, h1, by simpa using hg, fun i hi => ⟨?_, ?_⟩⟩
    · rw [World.cell?_setCell_other]
      · exact (hc i hi).1
      · rintro rfl
        exact hp rfl
    · rw [World.frozen?_setCell]
      exact (hc i hi).2⟩
theorem Own.set_ {w : World} {B : Nat} {A : Option Addr} {ws : List Nat} (h : Own w B A ws) {g i x : Nat} (hA : A = some ⟨g, 0, none⟩) (hi : i < ws.length) (hx : x < W64) : Own (w.setCell ⟨g, i, none⟩ (.int .u64 (x : Nat))) B A (ws.set i x) :=
  ⟨fun y hy => by
    rcases List.mem_or_eq_of_mem_set hy with hy | rfl
    · exact h.words y hy
    · exact hx, fun hl => by
    obtain ⟨g', e, h1, hg, hc⟩ := h.at_ (by omega)
    rw [hA] at e
    injection e with e
    injection e with e
    subst e
    refine ⟨g, hA, h1, by simpa using hg, fun j hj => ⟨?_, ?_⟩⟩
    · rw [List.length_set] at hj
      by_cases e : j = i
      · subst e
        rw [World.cell?_setCell_same _ _ _ (hc j hj).1]
        simp [hj]
      · rw [World.cell?_setCell_other _ _ _ _ (by intro he; injection he with _ he; exact e he.symm), (hc j hj).1]
        simp [Ne.symm e]
    · rw [World.frozen?_setCell]
      rw [List.length_set] at hj
      exact (hc j hj).2⟩
theorem heap_lt {w : World} {g : Nat} {o : Obj} (h : w.heap[g]? = some o) : g < w.heap.size := by
  rcases Nat.lt_or_ge g w.heap.size with hlt | hge
  · exact hlt
  · rw [Array.getElem?_eq_none hge] at h; cases h
theorem Own.of_block {w : World} {B g : Nat} {ws : List Nat} (h : w.heap[g]? = some (.cells (vals ws).toArray 77 (0, 0))) (hB : B ≤ g) (hw : Words ws) : Own w B (some ⟨g, 0, none⟩) ws :=
  ⟨hw, fun _ => ⟨g, rfl, hB, heap_lt h, fun i hi => ⟨by
      rw [cell_of_row w g i _ _ (0, 0) h, List.getElem?_toArray, vals_at ws i hi], by simp [World.frozen?, h]⟩⟩⟩

theorem info_u64 : (Tryd.prog.info? 77).map (fun i => (i.zero, i.size, i.bytes)) = some (some (.int .u64 0), 1, 8) := by kernel_rfl

theorem made_vals (n : Nat) : madeCells #[Value.int .u64 0] n = (vals (List.replicate n 0)).toArray := by
  apply Array.ext'
  rw [toList_madeCells_one]
  simp [vals]

theorem block2 (w : World) (o o' : Obj) : ((w.alloc o).alloc o').heap[w.heap.size + 1]? = some o' := by
  have h := heap_alloc_new (w.alloc o) o'
  rwa [World.size_alloc] at h
theorem block3 (w : World) (o o' o'' : Obj) : (((w.alloc o).alloc o').alloc o'').heap[w.heap.size + 2]? = some o'' := by
  have h := block2 (w.alloc o) o' o''
  rwa [World.size_alloc] at h
theorem own_empty (w w' : World) (o o' : Obj) (h : w'.heap = (((w.alloc o).alloc o').alloc (.cells #[] 77)).heap) : w'.ownsRow (w.heap.size + 2) 77 1 (.slice (some ⟨w.heap.size + 1 + 1, 0, none⟩) 0 0) 0 [] :=
  ⟨rfl, .inr ⟨w.heap.size + 1 + 1, 0, #[], rfl, Nat.le_refl _, by rw [h]; exact block3 _ _ _ _, Nat.le_refl _, Nat.zero_le _, rfl, rfl⟩⟩
theorem Own.of_owns {w : World} {B g cap : Nat} {ws : List Nat} (h : w.ownsRow B 77 1 (.slice (some ⟨g, 0, none⟩) ws.length cap) ws.length (vals ws)) (hw : Words ws) : Own w B (some ⟨g, 0, none⟩) ws :=
  ⟨hw, fun hl => ⟨g, rfl, (h.lt g rfl).1, (h.lt g rfl).2, fun i hi => ⟨by rw [h.cellAt i (by omega), vals_at ws i hi], h.frozenAt i⟩⟩⟩
/-- bits of a call's own, and an error's number -/
def Fresh (w : World) (n : Int) (ws : List Nat) (why : Int) (e : Ending) (w' : World) : Prop :=
  ∃ A cap, e = .returned (.tuple #[.agg #[.int .i64 n, .slice A ws.length cap], .int .i64 why]) ∧ Own w' w.heap.size A ws ∧ Below w.heap.size w w'
end Go.Proofs.YtklbamkafldagaaDoor
