/- A block of integers that may be written. -/
import Derived.Test.YthikpamjeckfcaaDoorIRow
namespace Go.Proofs.YthikpamjeckfcaaDoor
open Go.RowKit
set_option linter.unusedVariables false
set_option linter.unusedSimpArgs false

theorem made_ints (n : Nat) : madeCells #[Value.int .i64 0] n = (ivals (List.replicate n 0)).toArray := by
  apply Array.ext'
  rw [toList_madeCells_one]
  simp [ivals]
theorem run_make_ints (n : Nat) (hn : n ≤ 16384) (W : World) :
    (Instr.makeSlice 22 (.int .i64 (n : Int)) (.int .i64 (n : Int))).run Tryd.prog W = .ok (.slice (some ⟨W.heap.size, 0, none⟩) n n) (W.alloc (.cells (ivals (List.replicate n 0)).toArray 3)) := by
  obtain ⟨i0, hi, hz0, hz1, hz2⟩ := info_parts info_int
  have h := run_make (P := Tryd.prog) W 22 3 i0 _ Tryd.underlying22 hi hz0 .i64 .i64 (n : Int) (n : Int) (by omega) (by omega) (by rw [hz2]; omega) (by omega)
  rw [h, hz1, Nat.mul_one, Int.toNat_natCast]
  show _ = Result.ok _ (World.alloc W (.cells (ivals (List.replicate n 0)).toArray 3))
  rw [← made_ints]
  rfl
structure Ints (w : World) (g : Nat) (ys : List Int) : Prop where
  lt : g < w.heap.size
  at_ : ∀ i, i < ys.length → w.cell? ⟨g, i, none⟩ = some (.int .i64 (ys.getD i 0)) ∧ w.frozen? ⟨g, i, none⟩ = false
theorem Ints.of_block {w : World} {g : Nat} {ys : List Int} (h : w.heap[g]? = some (.cells (ivals ys).toArray 3 (0, 0))) : Ints w g ys :=
  ⟨heap_lt h, fun i hi => ⟨by rw [cell_of_row w g i _ _ (0, 0) h, List.getElem?_toArray, ivals_at ys i hi], by simp [World.frozen?, h]⟩⟩
theorem Ints.below {w w' : World} {B g : Nat} {ys : List Int} (h : Ints w g ys) (hb : Below B w w') (hg : g < B) : Ints w' g ys :=
  ⟨Nat.lt_of_lt_of_le h.lt hb.size, fun i hi => ⟨((bcell hb).1 _ _ hg).trans (h.at_ i hi).1, ((bcell hb).2 _ _ hg).trans (h.at_ i hi).2⟩⟩
theorem Ints.later {w w' : World} {g : Nat} {ys : List Int} (h : Ints w g ys) (hb : Below w.heap.size w w') : Ints w' g ys := h.below hb h.lt
theorem Ints.far {w : World} {g : Nat} {ys : List Int} (h : Ints w g ys) {p : Addr} (hp : p.block ≠ g) (u : Value) : Ints (w.setCell p u) g ys :=
  ⟨by simpa using h.lt, fun i hi => ⟨by
      rw [World.cell?_setCell_other]
      · exact (h.at_ i hi).1
      · rintro rfl; exact hp rfl, by rw [World.frozen?_setCell]; exact (h.at_ i hi).2⟩⟩
theorem Ints.set_ {w : World} {g : Nat} {ys : List Int} (h : Ints w g ys) (i : Nat) (x : Int) (hi : i < ys.length) : Ints (w.setCell ⟨g, i, none⟩ (.int .i64 x)) g (ys.set i x) :=
  ⟨by simpa using h.lt, fun j hj => ⟨by
      rw [List.length_set] at hj
      by_cases e : j = i
      · subst e
        rw [World.cell?_setCell_same _ _ _ (h.at_ j hj).1]
        simp [hj]
      · rw [World.cell?_setCell_other _ _ _ _ (by intro he; injection he with _ he; exact e he.symm), (h.at_ j hj).1]
        simp [Ne.symm e], by
      rw [List.length_set] at hj
      rw [World.frozen?_setCell]; exact (h.at_ j hj).2⟩⟩
theorem getD_set (ys : List Int) (i j : Nat) (x : Int) (hi : i < ys.length) : (ys.set i x).getD j 0 = if j = i then x else ys.getD j 0 := by
  by_cases e : j = i
  · subst e; rw [if_pos rfl, List.getD_eq_getElem?_getD, List.getElem?_set_self hi]; rfl
  · rw [if_neg e, List.getD_eq_getElem?_getD, List.getElem?_set_ne (Ne.symm e), List.getD_eq_getElem?_getD]
end Go.Proofs.YthikpamjeckfcaaDoor
