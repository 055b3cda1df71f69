/- What an argument of a law reads as: steps that came in. -/
import Derived.Test.YtkdbcoibapcmjaaOpenN
import Derived.Test.YtkdbcoibapcmjaaN30
namespace Go.Proofs.Ytkdbcoibapcmjaa
open Go.ChangeShapes Go.WideShapes Go.ChangeAt Go.RowKit Go.Joins
set_option linter.unusedVariables false
set_option linter.unusedSimpArgs false
set_option maxRecDepth 100000

theorem cells_step : Try.prog.cellsOf 46 = 3 := by kernel_rfl
theorem bytes_step : Try.prog.bytesOf 46 = 24 := by kernel_rfl
def stpc (s : Sq) : List Value := [.int .u8 (s.who : Nat), .int .u64 (s.words : Nat), .int .u64 (s.steps : Nat)]
section
variable {H : Type} {enc : TypeId × Value → H} {W : World}
/-- a step's data -/
theorem open_stp {fuel : Nat} {cs : List Value} {x : DataW H × List MemPlace} (h : DataW.trod enc Try.prog W 0 (fun _ => true) true fuel 46 cs = some x) : ∃ s : Sq, cs = stpc s ∧ s.who < 256 ∧ s.words < W64 ∧ s.steps < W64 := by
  obtain ⟨xs, n, _, _, hlen, hxl, hf⟩ := DataW.trod_struct Try.underlying46 h
  rw [cells_step] at hlen
  match cs, hlen, xs, hxl with
  | [v0, v1, v2], _, [y0, y1, y2], _ =>
    have g0 := hf 0 _ rfl
    have g1 := hf 1 _ rfl
    have g2 := hf 2 _ rfl
    obtain ⟨a, e0, _, wa⟩ := DataW.trod_int Try.underlying5 (show DataW.trod enc Try.prog W 0 (fun _ => true) true n 5 [v0] = some y0 from g0)
    obtain ⟨k, e1, _, wk⟩ := DataW.trod_int Try.underlying22 (show DataW.trod enc Try.prog W 0 (fun _ => true) true n 22 [v1] = some y1 from g1)
    obtain ⟨t, e2, _, wt⟩ := DataW.trod_int Try.underlying22 (show DataW.trod enc Try.prog W 0 (fun _ => true) true n 22 [v2] = some y2 from g2)
    injection e0 with e0
    injection e1 with e1
    injection e2 with e2
    have ba := bounds_u8 wa
    have bk := bounds_u64 wk
    have bt := bounds_u64 wt
    refine ⟨⟨a.toNat, k.toNat, t.toNat⟩, ?_, ?_⟩
    · rw [e0, e1, e2]
      unfold stpc
      simp only [Int.toNat_of_nonneg ba.1, Int.toNat_of_nonneg bk.1, Int.toNat_of_nonneg bt.1]
    · unfold W64
      exact ⟨by show a.toNat < _; omega, by show k.toNat < _; omega, by show t.toNat < _; omega⟩
theorem okWide_stps {r : Reach} {b0 : Nat} {v : Value} (hv : Value.okWide Try.prog W r b0 44 v) : v.cells.toList = [v] := by
  simp only [Value.okWide, Try.underlying44, Cell.okWide] at hv
  cases v <;> simp_all [Cell.ok, Value.cells]
/-- steps that came in -/
theorem open_steps {r : Reach} {b0 : Nat} {v : Value} {d : DataW H} {p : List MemPlace} (hv : Value.okWide Try.prog W r b0 44 v) (h : DataW.Trod enc Try.prog W 0 (fun _ => true) true 44 v d p) (hw : ∀ x ∈ d.weights Try.prog 44, x ≤ reachBytes) :
    ∃ (A : Option Addr) (cap : Nat) (l : List Sq), v = .slice A l.length cap ∧ SqRow W W.heap.size A l ∧ l.length ≤ 17592186044416 := by
  obtain ⟨fuel, hf⟩ := h
  rw [okWide_stps hv] at hf
  rcases Go.Deep.open_slice Try.underlying44 hf with ⟨hcs, _⟩ | ⟨a, len, cap, m, n, D, Pl, hcs, _, hlc, hcm, hm, hx, hel⟩
  · injection hcs with hcs
    exact ⟨none, 0, [], hcs, fun h => by simp at h, Nat.zero_le _⟩
  · injection hcs with hcs
    simp only [if_true] at hm
    have hm := hm.symm
    subst hm
    have each : ∀ i, i < cap → ∃ s : Sq, (s.who < 256 ∧ s.words < W64 ∧ s.steps < W64) ∧ ∀ j v, (stpc s)[j]? = some v → W.cell? ((a.add (i * 3)).add j) = some v := fun i hi => by
      obtain ⟨cs', h1, h2⟩ := hel i hi
      obtain ⟨s, rfl, hs⟩ := open_stp h2
      rw [cells_step] at h1
      obtain ⟨_, _, hc⟩ := World.cells?_some h1
      refine ⟨s, hs, fun j v hj => ?_⟩
      have hj3 : j < 3 := by
        have := (List.getElem?_eq_some_iff.1 hj).1
        simpa [stpc] using this
      rw [hc j hj3]
      exact hj
    obtain ⟨f, hfs⟩ : ∃ f : Nat → Sq, ∀ i, i < cap → ((f i).who < 256 ∧ (f i).words < W64 ∧ (f i).steps < W64) ∧ ∀ j v, (stpc (f i))[j]? = some v → W.cell? ((a.add (i * 3)).add j) = some v := Go.Deep.choose_lt each
    have hlen : ((List.range len).map f).length = len := by simp
    refine ⟨some a, cap, (List.range len).map f, by rw [hlen]; exact hcs, fun h0 => ?_, ?_⟩
    · rw [hlen] at h0
      obtain ⟨b, off, spot⟩ := a
      have hc0 := (hfs 0 (by omega)).2 0 _ rfl
      have hspot : spot = none := by simpa [Addr.add] using World.cell?_spot hc0
      subst hspot
      refine ⟨b, off, rfl, World.block_lt_of_cell? W _ (by simpa [add_form] using hc0), fun i hi => ?_⟩
      replace hi : i < len := by simpa using hi
      have e : nthQ ((List.range len).map f) i = f i := by
        unfold nthQ
        simp [List.getD_eq_getElem?_getD, hi]
      rw [e]
      obtain ⟨⟨q0, q1, q2⟩, hq⟩ := hfs i (by omega)
      have k0 := hq 0 _ rfl
      have k1 := hq 1 _ rfl
      have k2 := hq 2 _ rfl
      rw [add_form, add_form] at k0 k1 k2
      exact ⟨q0, q1, q2, by simpa using k0, k1, k2⟩
    · rw [hlen]
      have := hw (((List.range len).map D).length * 24 + ((List.range (cap - len)).map fun j => D (len + j)).length * 24) (by
        rw [show d = _ from congrArg Prod.fst hx]
        simp [DataW.weights, Try.underlying44, bytes_step, Nat.add_mul])
      simp only [List.length_map, List.length_range, reachBytes] at this
      omega
end
end Go.Proofs.Ytkdbcoibapcmjaa
