/- What an argument of a law reads as: words and steps that came in. -/
import Derived.Test.YtkfcnjdjcnfmfaaW3
import Derived.ProofKit
import Derived.OpenShut
import Derived.ShutString
import Derived.ChangeOld
import Derived.SizedLaws
import Derived.Lib.SmallJoins
import Derived.Deep.Slices
namespace Go.Proofs.Ytkfcnjdjcnfmfaa
open Go.ChangeShapes Go.WideShapes Go.ChangeAt Go.RowKit Go.Joins
set_option linter.unusedVariables false
set_option linter.unusedSimpArgs false

theorem own : ownKnob Try.prog.godebug = none := by kernel_rfl
theorem laidOut : laidOutB Try.prog = true := by kernel_rfl
theorem cells_u64 : Try.prog.cellsOf 23 = 1 := by kernel_rfl
theorem bytes_u64 : Try.prog.bytesOf 23 = 8 := by kernel_rfl
theorem cells_step : Try.prog.cellsOf 41 = 2 := by kernel_rfl
theorem bytes_step : Try.prog.bytesOf 41 = 16 := by kernel_rfl
theorem words_of {zs : List Int} (h : ∀ n ∈ zs, (Lit.int .u64 n).wf = true) (len : Nat) (hl : len ≤ zs.length) :
    ((zs.take len).map Int.toNat).length = len ∧ Words ((zs.take len).map Int.toNat) ∧ ∀ i, i < len → ((((zs.take len).map Int.toNat).getD i 0 : Nat) : Int) = zs.getD i 0 := by
  have hb : ∀ n ∈ zs, 0 ≤ n ∧ n < 18446744073709551616 := fun n hn => by
    have := bounds_u64 (h n hn)
    omega
  refine ⟨by rw [List.length_map, List.length_take]; omega, fun x hx => ?_, fun i hi => ?_⟩
  · rw [List.mem_map] at hx
    obtain ⟨y, hy, rfl⟩ := hx
    have := hb y (List.mem_of_mem_take hy)
    unfold W64
    omega
  · have hz : i < zs.length := by omega
    have := hb zs[i] (List.getElem_mem hz)
    simp only [List.getD_eq_getElem?_getD, List.getElem?_map, List.getElem?_take, hi, if_true, List.getElem?_eq_getElem hz, Option.map_some, Option.getD_some]
    omega
/-- a step: is it cleared, and which -/
structure StW where
  c : Bool
  a : Nat
instance : Inhabited StW := ⟨⟨false, 0⟩⟩
def stcells (s : StW) : List Value := [.bool s.c, .int .u64 (s.a : Nat)]
def nthS (l : List StW) (i : Nat) : StW := l.getD i ⟨false, 0⟩
/-- steps in memory -/
def StRow (w : World) (B : Nat) (A : Option Addr) (l : List StW) : Prop :=
  0 < l.length → ∃ b off, A = some ⟨b, off, none⟩ ∧ b < B ∧ ∀ i, i < l.length → (nthS l i).a < W64 ∧ w.cell? ⟨b, off + i * 2, none⟩ = some (.bool (nthS l i).c) ∧ w.cell? ⟨b, off + i * 2 + 1, none⟩ = some (.int .u64 ((nthS l i).a : Nat))
theorem StRow.later {w w' : World} {A : Option Addr} {l : List StW} (h : StRow w w.heap.size A l) (hb : Below w.heap.size w w') : StRow w' w'.heap.size A l := fun hl => by
  obtain ⟨b, off, e, hbb, hc⟩ := h hl
  refine ⟨b, off, e, Nat.lt_of_lt_of_le hbb hb.size, fun i hi => ?_⟩
  obtain ⟨c0, c1, c2⟩ := hc i hi
  exact ⟨c0, ((bcell hb).1 _ _ hbb).trans c1, ((bcell hb).1 _ _ hbb).trans c2⟩
section
variable {H : Type} {enc : TypeId × Value → H} {W : World}
/-- a slice of words that came in -/
theorem open_words {fuel : Nat} {v : Value} {y : DataW H × List MemPlace} (h : DataW.trod enc Try.prog W 0 (fun _ => true) true fuel 22 [v] = some y) (hw : ∀ x ∈ y.1.weights Try.prog 22, x ≤ reachBytes) :
    ∃ (A : Option Addr) (cap : Nat) (ws : List Nat), v = .slice A ws.length cap ∧ Row W W.heap.size A ws ∧ ws.length ≤ cap ∧ (A = none → cap = 0) ∧ ws.length ≤ 17592186044416 := by
  rcases open_ints Try.underlying22 Try.underlying23 cells_u64 h with ⟨hcs, hx⟩ | ⟨a, l, c, zs, hcs, _, hl, hm, hz, hx, hcell, hwz⟩
  · injection hcs with hcs
    exact ⟨none, 0, [], hcs, ⟨fun x hx => by simp at hx, fun h => by simp at h⟩, Nat.zero_le _, fun _ => rfl, Nat.zero_le _⟩
  · injection hcs with hcs
    simp only [if_true] at hz
    obtain ⟨g1, g2, g3⟩ := words_of hwz l (by omega)
    refine ⟨some a, c, (zs.take l).map Int.toNat, by rw [g1]; exact hcs, ⟨g2, fun h0 => ?_⟩, by rw [g1]; exact hl, fun e => (by cases e), ?_⟩
    · rw [g1] at h0
      obtain ⟨b, off, spot⟩ := a
      have hc0 := hcell 0 (by omega)
      have hspot : spot = none := by simpa [Addr.add] using World.cell?_spot hc0
      subst hspot
      have hlt := World.block_lt_of_cell? W _ hc0
      refine ⟨b, off, rfl, by simpa [Addr.add] using hlt, fun i hi => ?_⟩
      rw [g1] at hi
      have := hcell i (by omega)
      rw [add_form] at this
      rw [this, g3 i hi]
    · rw [g1]
      have hz2 : (lits .u64 (zs.take l) : List (DataW H)).length + (lits .u64 (zs.drop l) : List (DataW H)).length = zs.length := by
        simp [lits]; omega
      have := hw (((lits .u64 (zs.take l) : List (DataW H)).length + (lits .u64 (zs.drop l) : List (DataW H)).length) * Try.prog.bytesOf 23) (by rw [hx]; simp [DataW.weights, Try.underlying22])
      rw [hz2, bytes_u64] at this
      simp only [reachBytes] at this
      omega
theorem okWide_slice {r : Reach} {b0 : Nat} {v : Value} (hv : Value.okWide Try.prog W r b0 22 v) : v.cells.toList = [v] := by
  simp only [Value.okWide, Try.underlying22, Cell.okWide] at hv
  cases v <;> simp_all [Cell.ok, Value.cells]
theorem open_slice_words {r : Reach} {b0 : Nat} {v : Value} {d : DataW H} {p : List MemPlace} (hv : Value.okWide Try.prog W r b0 22 v) (h : DataW.Trod enc Try.prog W 0 (fun _ => true) true 22 v d p) (hw : ∀ x ∈ d.weights Try.prog 22, x ≤ reachBytes) :
    ∃ (A : Option Addr) (cap : Nat) (ws : List Nat), v = .slice A ws.length cap ∧ Row W W.heap.size A ws ∧ ws.length ≤ cap ∧ (A = none → cap = 0) ∧ ws.length ≤ 17592186044416 := by
  obtain ⟨fuel, hf⟩ := h
  rw [okWide_slice hv] at hf
  exact open_words hf hw
/-- a step's data -/
theorem open_stfields {fuel : Nat} {cs : List Value} {x : DataW H × List MemPlace} (h : DataW.trod enc Try.prog W 0 (fun _ => true) true fuel 41 cs = some x) : ∃ s : StW, cs = stcells s ∧ s.a < W64 := by
  obtain ⟨xs, n, _, _, hlen, hxl, hf⟩ := DataW.trod_struct Try.underlying41 h
  rw [cells_step] at hlen
  match cs, hlen, xs, hxl with
  | [v0, v1], _, [y0, y1], _ =>
    have g0 := hf 0 _ rfl
    have g1 := hf 1 _ rfl
    obtain ⟨c, e0, _⟩ := DataW.trod_bool Try.underlying4 (show DataW.trod enc Try.prog W 0 (fun _ => true) true n 4 [v0] = some y0 from g0)
    obtain ⟨a, e1, _, wf⟩ := DataW.trod_int Try.underlying23 (show DataW.trod enc Try.prog W 0 (fun _ => true) true n 23 [v1] = some y1 from g1)
    injection e0 with e0
    injection e1 with e1
    have hb := bounds_u64 wf
    refine ⟨⟨c, a.toNat⟩, ?_, ?_⟩
    · rw [e0, e1]
      unfold stcells
      rw [Int.toNat_of_nonneg hb.1]
    · show a.toNat < W64
      unfold W64
      omega
theorem okWide_steps {r : Reach} {b0 : Nat} {v : Value} (hv : Value.okWide Try.prog W r b0 39 v) : v.cells.toList = [v] := by
  simp only [Value.okWide, Try.underlying39, Cell.okWide] at hv
  cases v <;> simp_all [Cell.ok, Value.cells]
/-- steps that came in -/
theorem open_steps {r : Reach} {b0 : Nat} {v : Value} {d : DataW H} {p : List MemPlace} (hv : Value.okWide Try.prog W r b0 39 v) (h : DataW.Trod enc Try.prog W 0 (fun _ => true) true 39 v d p) (hw : ∀ x ∈ d.weights Try.prog 39, x ≤ reachBytes) :
    ∃ (A : Option Addr) (cap : Nat) (l : List StW), v = .slice A l.length cap ∧ StRow W W.heap.size A l ∧ l.length ≤ 8796093022208 := by
  obtain ⟨fuel, hf⟩ := h
  rw [okWide_steps hv] at hf
  rcases Go.Deep.open_slice Try.underlying39 hf with ⟨hcs, _⟩ | ⟨a, len, cap, m, n, D, Pl, hcs, _, hlc, hcm, hm, hx, hel⟩
  · injection hcs with hcs
    exact ⟨none, 0, [], hcs, fun h => by simp at h, Nat.zero_le _⟩
  · injection hcs with hcs
    simp only [if_true] at hm
    have hm := hm.symm
    subst hm
    have each : ∀ i, i < cap → ∃ s : StW, s.a < W64 ∧ ∀ j v, (stcells s)[j]? = some v → W.cell? ((a.add (i * 2)).add j) = some v := fun i hi => by
      obtain ⟨cs', h1, h2⟩ := hel i hi
      obtain ⟨s, rfl, hs⟩ := open_stfields h2
      rw [cells_step] at h1
      obtain ⟨_, _, hc⟩ := World.cells?_some h1
      refine ⟨s, hs, fun j v hj => ?_⟩
      have hj3 : j < 2 := by
        have := (List.getElem?_eq_some_iff.1 hj).1
        simpa [stcells] using this
      rw [hc j hj3]
      exact hj
    obtain ⟨f, hfs⟩ : ∃ f : Nat → StW, ∀ i, i < cap → (f i).a < W64 ∧ ∀ j v, (stcells (f i))[j]? = some v → W.cell? ((a.add (i * 2)).add j) = some v := Go.Deep.choose_lt each
    have hlen : ((List.range len).map f).length = len := by simp
    refine ⟨some a, cap, (List.range len).map f, by rw [hlen]; exact hcs, fun h0 => ?_, ?_⟩
    · rw [hlen] at h0
      obtain ⟨b, off, spot⟩ := a
      have hc0 := (hfs 0 (by omega)).2 0 _ rfl
      have hspot : spot = none := by simpa [Addr.add] using World.cell?_spot hc0
      subst hspot
      refine ⟨b, off, rfl, World.block_lt_of_cell? W _ (by simpa [add_form] using hc0), fun i hi => ?_⟩
      rw [hlen] at hi
      have e : nthS ((List.range len).map f) i = f i := by
        unfold nthS
        simp [List.getD_eq_getElem?_getD, hi]
      rw [e]
      obtain ⟨q, hq⟩ := hfs i (by omega)
      have k0 := hq 0 _ rfl
      have k1 := hq 1 _ rfl
      rw [add_form, add_form] at k0 k1
      exact ⟨q, by simpa using k0, k1⟩
    · rw [hlen]
      have := hw (((List.range len).map D).length * 16 + ((List.range (cap - len)).map fun j => D (len + j)).length * 16) (by
        rw [show d = _ from congrArg Prod.fst hx]
        simp [DataW.weights, Try.underlying39, bytes_step, Nat.add_mul])
      simp only [List.length_map, List.length_range, reachBytes] at this
      omega
end
end Go.Proofs.Ytkfcnjdjcnfmfaa
