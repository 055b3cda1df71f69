/- What an argument of a law reads as: events, a text; what the start laid. -/
import Derived.Test.YtklbamkafldagaaDoorSe18
import Derived.Test.YtklbamkafldagaaDoorRows
import Derived.ProofKit
import Derived.OpenShut
import Derived.ShutString
import Derived.ChangeOld
import Derived.SizedLaws
import Derived.HandedShaped
import Derived.Lib.SmallJoins
import Derived.Deep.Slices
import Derived.Stop.LaidErr
import Derived.Lib.LaidTab
import Derived.Shelf.Vars
import Derived.PinnedBridge
import Derived.Lay
import Derived.LaidOnce
import Derived.SevenTiedAt
namespace Go.Proofs.YtklbamkafldagaaDoor
open Go.ChangeShapes Go.WideShapes Go.ChangeAt Go.RowKit Go.Joins
set_option linter.unusedVariables false
set_option linter.unusedSimpArgs false
set_option maxRecDepth 100000

theorem own : ownKnob Tryd.prog.godebug = none := by kernel_rfl
theorem laidOut : laidOutB Tryd.prog = true := by kernel_rfl
theorem cells_ev : Tryd.prog.cellsOf 41 = 5 := by kernel_rfl
theorem cells_task : Tryd.prog.cellsOf 39 = 2 := by kernel_rfl
theorem cells_kind : Tryd.prog.cellsOf 37 = 1 := by kernel_rfl
theorem cells_int : Tryd.prog.cellsOf 3 = 1 := by kernel_rfl
theorem cells_bool : Tryd.prog.cellsOf 4 = 1 := by kernel_rfl
theorem bytes_ev : Tryd.prog.bytesOf 41 = 40 := by kernel_rfl
instance : Inhabited Ev := ⟨ev0⟩
theorem list5 {α : Type} {l : List α} (h : l.length = 5) : ∃ a b c d e, l = [a, b, c, d, e] := by
  match l, h with
  | [a, b, c, d, e], _ => exact ⟨a, b, c, d, e, rfl⟩
theorem list4 {α : Type} {l : List α} (h : l.length = 4) : ∃ a b c d, l = [a, b, c, d] := by
  match l, h with
  | [a, b, c, d], _ => exact ⟨a, b, c, d, rfl⟩
theorem list2 {α : Type} {l : List α} (h : l.length = 2) : ∃ a b, l = [a, b] := by
  match l, h with
  | [a, b], _ => exact ⟨a, b, rfl⟩
section
variable {H : Type} {enc : TypeId × Value → H} {W : World}
/-- a task's data -/
theorem open_task {fuel : Nat} {v0 v1 : Value} {x : DataW H × List MemPlace} (h : DataW.trod enc Tryd.prog W 0 (fun _ => true) true fuel 39 [v0, v1] = some x) : ∃ k t : Int, v0 = .int .u8 k ∧ v1 = .int .i64 t ∧ (Lit.int .u8 k).wf = true ∧ (Lit.int .i64 t).wf = true := by
  obtain ⟨xs, n, _, _, hlen, hxl, hf⟩ := DataW.trod_struct Tryd.underlying39 h
  obtain ⟨y0, y1, rfl⟩ := list2 hxl
  have g0 := hf 0 _ rfl
  have g1 := hf 1 _ rfl
  obtain ⟨k, e0, _, w0⟩ := DataW.trod_int Tryd.underlying37 (show DataW.trod enc Tryd.prog W 0 (fun _ => true) true n 37 [v0] = some y0 from g0)
  obtain ⟨t, e1, _, w1⟩ := DataW.trod_int Tryd.underlying3 (show DataW.trod enc Tryd.prog W 0 (fun _ => true) true n 3 [v1] = some y1 from g1)
  injection e0 with e0
  injection e1 with e1
  exact ⟨k, t, e0, e1, w0, w1⟩
/-- an event's data -/
theorem open_fields {fuel : Nat} {cs : List Value} {x : DataW H × List MemPlace} (h : DataW.trod enc Tryd.prog W 0 (fun _ => true) true fuel 41 cs = some x) : ∃ e : Ev, cs = evc e ∧ WfE e := by
  obtain ⟨xs, n, _, _, hlen, hxl, hf⟩ := DataW.trod_struct Tryd.underlying41 h
  rw [cells_ev] at hlen
  obtain ⟨v0, v1, v2, v3, v4, rfl⟩ := list5 hlen
  obtain ⟨y0, y1, y2, y3, rfl⟩ := list4 hxl
  have g0 := hf 0 _ rfl
  have g1 := hf 1 _ rfl
  have g2 := hf 2 _ rfl
  have g3 := hf 3 _ rfl
  obtain ⟨b, e0, _⟩ := DataW.trod_bool Tryd.underlying4 (show DataW.trod enc Tryd.prog W 0 (fun _ => true) true n 4 [v0] = some y0 from g0)
  obtain ⟨a, e1, _, w1⟩ := DataW.trod_int Tryd.underlying3 (show DataW.trod enc Tryd.prog W 0 (fun _ => true) true n 3 [v1] = some y1 from g1)
  obtain ⟨k, t, rfl, rfl, w2, w3⟩ := open_task (show DataW.trod enc Tryd.prog W 0 (fun _ => true) true n 39 [v2, v3] = some y2 from g2)
  obtain ⟨m, e4, _, w4⟩ := DataW.trod_int Tryd.underlying3 (show DataW.trod enc Tryd.prog W 0 (fun _ => true) true n 3 [v4] = some y3 from g3)
  injection e0 with e0
  injection e1 with e1
  injection e4 with e4
  exact ⟨⟨b, a, k, t, m⟩, by rw [e0, e1, e4]; rfl, w1, w2, w3, w4⟩
theorem okWide_events {r : Reach} {b0 : Nat} {v : Value} (hv : Value.okWide Tryd.prog W r b0 22 v) : v.cells.toList = [v] := by
  simp only [Value.okWide, Tryd.underlying22, Cell.okWide] at hv
  cases v <;> simp_all [Cell.ok, Value.cells]
/-- events that came in -/
theorem open_events {r : Reach} {b0 : Nat} {v : Value} {d : DataW H} {p : List MemPlace} (hv : Value.okWide Tryd.prog W r b0 22 v) (h : DataW.Trod enc Tryd.prog W 0 (fun _ => true) true 22 v d p) (hw : ∀ x ∈ d.weights Tryd.prog 22, x ≤ reachBytes) :
    ∃ (A : Option Addr) (cap : Nat) (l : List Ev), v = .slice A l.length cap ∧ ERow W W.heap.size A l ∧ (∀ e ∈ l, WfE e) ∧ l.length ≤ cap ∧ (A = none → cap = 0) ∧ l.length ≤ 17592186044416 := by
  obtain ⟨fuel, hf⟩ := h
  rw [okWide_events hv] at hf
  rcases Go.Deep.open_slice Tryd.underlying22 hf with ⟨hcs, _⟩ | ⟨a, len, cap, m, n, D, Pl, hcs, _, hlc, hcm, hm, hx, hel⟩
  · injection hcs with hcs
    exact ⟨none, 0, [], hcs, ERow.nil _ _ _, fun _ h => by simp at h, Nat.le_refl _, fun _ => rfl, Nat.zero_le _⟩
  · injection hcs with hcs
    simp only [if_true] at hm
    have hm := hm.symm
    subst hm
    have each : ∀ i, i < cap → ∃ s : Ev, WfE s ∧ ∀ j v, (evc s)[j]? = some v → W.cell? ((a.add (i * 5)).add j) = some v := fun i hi => by
      obtain ⟨cs', h1, h2⟩ := hel i hi
      obtain ⟨s, rfl, hs⟩ := open_fields h2
      rw [cells_ev] at h1
      obtain ⟨_, _, hc⟩ := World.cells?_some h1
      refine ⟨s, hs, fun j v hj => ?_⟩
      have hj5 : j < 5 := by
        have := (List.getElem?_eq_some_iff.1 hj).1
        simpa [evc] using this
      rw [hc j hj5]
      exact hj
    obtain ⟨f, hfs⟩ : ∃ f : Nat → Ev, ∀ i, i < cap → WfE (f i) ∧ ∀ j v, (evc (f i))[j]? = some v → W.cell? ((a.add (i * 5)).add j) = some v := Go.Deep.choose_lt each
    have hlen : ((List.range len).map f).length = len := by simp
    refine ⟨some a, cap, (List.range len).map f, by rw [hlen]; exact hcs, ⟨fun h0 => ?_⟩, ?_, by rw [hlen]; exact hlc, fun e => (by cases e), ?_⟩
    · rw [hlen] at h0
      obtain ⟨b, off, spot⟩ := a
      have hc0 := (hfs 0 (by omega)).2 0 _ rfl
      have hspot : spot = none := by simpa [Addr.add] using World.cell?_spot hc0
      subst hspot
      refine ⟨b, off, rfl, World.block_lt_of_cell? W _ (by simpa [add_form] using hc0), fun i hi => ?_⟩
      rw [hlen] at hi
      have e : nthE ((List.range len).map f) i = f i := by
        unfold nthE
        simp [List.getD_eq_getElem?_getD, hi]
      rw [e]
      have k0 := (hfs i (by omega)).2 0 _ rfl
      have k1 := (hfs i (by omega)).2 1 _ rfl
      have k2 := (hfs i (by omega)).2 2 _ rfl
      have k3 := (hfs i (by omega)).2 3 _ rfl
      have k4 := (hfs i (by omega)).2 4 _ rfl
      rw [add_form, add_form] at k0 k1 k2 k3 k4
      exact ⟨by simpa using k0, k1, k2, k3, k4⟩
    · intro e he
      simp only [List.mem_map, List.mem_range] at he
      obtain ⟨i, hi, rfl⟩ := he
      exact (hfs i (by omega)).1
    · rw [hlen]
      have := hw (((List.range len).map D).length * 40 + ((List.range (cap - len)).map fun j => D (len + j)).length * 40) (by
        rw [show d = _ from congrArg Prod.fst hx]
        simp [DataW.weights, Tryd.underlying22, bytes_ev, Nat.add_mul])
      simp only [List.length_map, List.length_range, reachBytes] at this
      omega
/-- an event that came in -/
theorem open_event {r : Reach} {b0 : Nat} {v : Value} {d : DataW H} {p : List MemPlace} (hv : Value.okWide Tryd.prog W r b0 41 v) (h : DataW.Trod enc Tryd.prog W 0 (fun _ => true) true 41 v d p) : ∃ e : Ev, v = evv e ∧ WfE e := by
  obtain ⟨cs, rfl, hsz⟩ := okWide_struct Tryd.underlying41 hv
  obtain ⟨fuel, hf⟩ := h
  obtain ⟨e, he, hw⟩ := open_fields hf
  have he' : cs.toList = evc e := he
  refine ⟨e, ?_, hw⟩
  obtain ⟨l⟩ := cs
  simp only at he'
  subst he'
  rfl
/-- a text that came in -/
theorem open_text {r : Reach} {b0 : Nat} {v : Value} {d : DataW H} {p : List MemPlace} (hv : Value.okWide Tryd.prog W r b0 9 v) (h : DataW.Trod enc Tryd.prog W 0 (fun _ => true) true 9 v d p) : ∃ s : ByteArray, v = .string s ∧ d = .lit (.string s.data.toList) ∧ p = [] ∧ s.size ≤ maxLen := by
  have hc : v.cells.toList = [v] := by
    simp only [Value.okWide, Tryd.underlying9, Cell.okWide] at hv
    cases v <;> simp_all [Cell.ok, Value.cells]
  obtain ⟨fuel, hf⟩ := h
  rw [hc] at hf
  obtain ⟨s, e, hx, hs⟩ := DataW.trod_string Tryd.underlying9 hf
  injection e with e
  simp only [Prod.mk.injEq] at hx
  exact ⟨s, e, hx.1, hx.2, hs⟩
end
end Go.Proofs.YtklbamkafldagaaDoor
