/- What an argument of a law reads as: specials that came in. -/
import Derived.Test.YtamnfgpoelbgcaaV2
import Derived.ProofKit
import Derived.OpenShut
import Derived.ShutString
import Derived.ChangeOld
import Derived.SizedLaws
import Derived.Lib.SmallJoins
import Derived.Deep.Slices
namespace Go.Proofs.Ytamnfgpoelbgcaa
open Go.ChangeShapes Go.WideShapes Go.ChangeAt Go.RowKit Go.Joins
set_option linter.unusedVariables false
set_option linter.unusedSimpArgs false

theorem own : ownKnob Try.prog.godebug = none := by kernel_rfl
theorem laidOut : laidOutB Try.prog = true := by kernel_rfl
theorem cells_spec : Try.prog.cellsOf 41 = 3 := by kernel_rfl
theorem bytes_spec : Try.prog.bytesOf 41 = 24 := by kernel_rfl
instance : Inhabited Sc := ⟨sc0⟩
section
variable {H : Type} {enc : TypeId × Value → H} {W : World}
/-- a special's data -/
theorem open_fields {fuel : Nat} {cs : List Value} {x : DataW H × List MemPlace} (h : DataW.trod enc Try.prog W 0 (fun _ => true) true fuel 41 cs = some x) : ∃ s : Sc, cs = scc s := by
  obtain ⟨xs, n, _, _, hlen, hxl, hf⟩ := DataW.trod_struct Try.underlying41 h
  rw [cells_spec] at hlen
  match cs, hlen, xs, hxl with
  | [v0, v1, v2], _, [y0, y1, y2], _ =>
    have g0 := hf 0 _ rfl
    have g1 := hf 1 _ rfl
    have g2 := hf 2 _ rfl
    obtain ⟨a, e0, _, _⟩ := DataW.trod_int Try.underlying23 (show DataW.trod enc Try.prog W 0 (fun _ => true) true n 23 [v0] = some y0 from g0)
    obtain ⟨k, e1, _, _⟩ := DataW.trod_int Try.underlying24 (show DataW.trod enc Try.prog W 0 (fun _ => true) true n 24 [v1] = some y1 from g1)
    obtain ⟨t, e2, _, _⟩ := DataW.trod_int Try.underlying23 (show DataW.trod enc Try.prog W 0 (fun _ => true) true n 23 [v2] = some y2 from g2)
    injection e0 with e0
    injection e1 with e1
    injection e2 with e2
    exact ⟨⟨a, k, t⟩, by rw [e0, e1, e2]; rfl⟩
theorem okWide_specs {r : Reach} {b0 : Nat} {v : Value} (hv : Value.okWide Try.prog W r b0 22 v) : v.cells.toList = [v] := by
  simp only [Value.okWide, Try.underlying22, Cell.okWide] at hv
  cases v <;> simp_all [Cell.ok, Value.cells]
/-- specials that came in -/
theorem open_specials {r : Reach} {b0 : Nat} {v : Value} {d : DataW H} {p : List MemPlace} (hv : Value.okWide Try.prog W r b0 22 v) (h : DataW.Trod enc Try.prog W 0 (fun _ => true) true 22 v d p) (hw : ∀ x ∈ d.weights Try.prog 22, x ≤ reachBytes) :
    ∃ (A : Option Addr) (cap : Nat) (l : List Sc), v = .slice A l.length cap ∧ CRow W W.heap.size A l ∧ l.length ≤ cap ∧ (A = none → cap = 0) ∧ l.length ≤ 5864062014805 := by
  obtain ⟨fuel, hf⟩ := h
  rw [okWide_specs hv] at hf
  rcases Go.Deep.open_slice Try.underlying22 hf with ⟨hcs, _⟩ | ⟨a, len, cap, m, n, D, Pl, hcs, _, hlc, hcm, hm, hx, hel⟩
  · injection hcs with hcs
    exact ⟨none, 0, [], hcs, CRow.nil _ _ _, Nat.le_refl _, fun _ => rfl, Nat.zero_le _⟩
  · injection hcs with hcs
    simp only [if_true] at hm
    have hm := hm.symm
    subst hm
    have each : ∀ i, i < cap → ∃ s : Sc, ∀ j v, (scc s)[j]? = some v → W.cell? ((a.add (i * 3)).add j) = some v := fun i hi => by
      obtain ⟨cs', h1, h2⟩ := hel i hi
      obtain ⟨s, rfl⟩ := open_fields h2
      rw [cells_spec] at h1
      obtain ⟨_, _, hc⟩ := World.cells?_some h1
      refine ⟨s, fun j v hj => ?_⟩
      have hj3 : j < 3 := by
        have := (List.getElem?_eq_some_iff.1 hj).1
        simpa [scc] using this
      rw [hc j hj3]
      exact hj
    obtain ⟨f, hfs⟩ : ∃ f : Nat → Sc, ∀ i, i < cap → ∀ j v, (scc (f i))[j]? = some v → W.cell? ((a.add (i * 3)).add j) = some v := Go.Deep.choose_lt each
    have hlen : ((List.range len).map f).length = len := by simp
    refine ⟨some a, cap, (List.range len).map f, by rw [hlen]; exact hcs, ⟨fun h0 => ?_⟩, by rw [hlen]; exact hlc, fun e => (by cases e), ?_⟩
    · rw [hlen] at h0
      obtain ⟨b, off, spot⟩ := a
      have hc0 := hfs 0 (by omega) 0 _ rfl
      have hspot : spot = none := by simpa [Addr.add] using World.cell?_spot hc0
      subst hspot
      refine ⟨b, off, rfl, World.block_lt_of_cell? W _ (by simpa [add_form] using hc0), fun i hi => ?_⟩
      rw [hlen] at hi
      have e : nthC ((List.range len).map f) i = f i := by
        unfold nthC
        simp [List.getD_eq_getElem?_getD, hi]
      rw [e]
      have k0 := hfs i (by omega) 0 _ rfl
      have k1 := hfs i (by omega) 1 _ rfl
      have k2 := hfs i (by omega) 2 _ rfl
      rw [add_form, add_form] at k0 k1 k2
      exact ⟨by simpa using k0, k1, k2⟩
    · rw [hlen]
      have := hw (((List.range len).map D).length * 24 + ((List.range (cap - len)).map fun j => D (len + j)).length * 24) (by
        rw [show d = _ from congrArg Prod.fst hx]
        simp [DataW.weights, Try.underlying22, bytes_spec, Nat.add_mul])
      simp only [List.length_map, List.length_range, reachBytes] at this
      omega
/-- a special that came in -/
theorem open_special {r : Reach} {b0 : Nat} {v : Value} {d : DataW H} {p : List MemPlace} (hv : Value.okWide Try.prog W r b0 41 v) (h : DataW.Trod enc Try.prog W 0 (fun _ => true) true 41 v d p) : ∃ s : Sc, v = scv s := by
  obtain ⟨c0, c1, c2, y0, y1, y2, k, rfl, rfl, rfl, hy0, hy1, hy2⟩ := open_agg3 Try.underlying41 (by kernel_rfl) cells_spec hv h
  obtain ⟨a, e0, _, _⟩ := DataW.trod_int Try.underlying23 hy0
  obtain ⟨kk, e1, _, _⟩ := DataW.trod_int Try.underlying24 hy1
  obtain ⟨t, e2, _, _⟩ := DataW.trod_int Try.underlying23 hy2
  injection e0 with e0
  injection e1 with e1
  injection e2 with e2
  exact ⟨⟨a, kk, t⟩, by rw [e0, e1, e2]; rfl⟩
end
end Go.Proofs.Ytamnfgpoelbgcaa
