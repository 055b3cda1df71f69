/- What an argument of a law reads as: a table, words that came in; the table of trailing zeros that start-up laid. -/
import Derived.Test.YtdeopodfpeeenaaDoorY2
import Derived.Test.YtdeopodfpeeenaaDoorRows
import Derived.ProofKit
import Derived.OpenShut
import Derived.ShutString
import Derived.ChangeOld
import Derived.SizedLaws
import Derived.Lib.SmallJoins
import Derived.Deep.Slices
import Derived.LaidMore
import Derived.Stop.Joined
namespace Go.Proofs.YtdeopodfpeeenaaDoor
open Go.ChangeShapes Go.WideShapes Go.ChangeAt Go.RowKit Go.Joins
set_option linter.unusedVariables false
set_option linter.unusedSimpArgs false
set_option maxRecDepth 100000

theorem own : ownKnob Tryd.prog.godebug = none := by kernel_rfl
theorem laidOut : laidOutB Tryd.prog = true := by kernel_rfl
theorem cells_u64 : Tryd.prog.cellsOf 27 = 1 := by kernel_rfl
theorem bytes_u64 : Tryd.prog.bytesOf 27 = 8 := by kernel_rfl
theorem cells_u8 : Tryd.prog.cellsOf 5 = 1 := by kernel_rfl
theorem cells_slot : Tryd.prog.cellsOf 58 = 3 := by kernel_rfl
theorem bytes_slot : Tryd.prog.bytesOf 58 = 24 := by kernel_rfl
theorem cells_ephem : Tryd.prog.cellsOf 26 = 1 := by kernel_rfl
theorem g64 : Tryd.prog.globalNamed "math/bits.deBruijn64tab" = some 1 := by kernel_rfl
theorem t64 : (Tryd.prog.globals[1]?).map (·.type) = some 89 := by kernel_rfl
abbrev laidTabs : List (String × DataW Unit) := [("math/bits.deBruijn32tab", Rows.laid_math_bits_deBruijn32tab), ("math/bits.deBruijn64tab", Rows.laid_math_bits_deBruijn64tab)]
/-- the door's own heap meets the condition -/
theorem door_met (os : Os) (args : Array Value) : laidMetH Tryd.prog laidTabs ((World.doorLaid Tryd.prog 400 os).forCall (fun _ _ => 0) ⟨#[], args, []⟩).memory :=
  laidMetH_of_parts3 (fuel := 8) (laidMet_of_run' 8 (by kernel_rfl) (by kernel_rfl)) (by kernel_rfl) (by kernel_rfl)
theorem at_take {l : List Value} {j : Nat} {v : Value} (h : (l.drop j).take 1 = [v]) : l[j]? = some v := by
  have := congrArg (·[0]?) h
  simpa [List.getElem?_take, List.getElem?_drop] using this
/-- what the condition gives the walks -/
theorem of_laid {W : World} (h : laidMetH Tryd.prog laidTabs W) : Tz W := by
  rw [MakeChecks.laidMetH_plain _ _ _ (by kernel_rfl)] at h
  obtain ⟨ps, ⟨g0, t0, cs0, f0, p0, q0, _, _, _, _, ⟨g1, t1, cs1, f1, p1, q1, hg1, ht1, hv1, hd1, _, _⟩, _⟩, _, _⟩ := h
  obtain rfl := Option.some.inj (g64.symm.trans hg1)
  obtain rfl := Option.some.inj (t64.symm.trans ht1)
  obtain ⟨xs, m1, rfl, hx1, hlen, hn3, hel⟩ := DataW.trod_array Tryd.underlying89 hd1
  have c3 := cells_u8
  have key : ∀ (i : Nat) (n : Int), i < 64 → (xs.map (·.1))[i]? = some (.lit (.int .u8 n)) → W.cell? ⟨1, i, none⟩ = some (.int .u8 n) := fun i n hi hn => by
    have hxi : i < xs.length := by omega
    have hh := hel i hi
    rw [List.getElem?_eq_getElem hxi] at hh
    rw [List.getElem?_map, List.getElem?_eq_getElem hxi, Option.map_some] at hn
    obtain ⟨k0, a0, b0, _⟩ := DataW.trod_int Tryd.underlying5 hh
    rw [b0] at hn
    simp only [Option.some.injEq, DataW.lit.injEq, Lit.int.injEq, true_and] at hn
    subst hn
    rw [c3, Nat.mul_one] at a0
    have v0 := World.var?_cell g64 hv1 i
    have e0 := at_take a0
    obtain ⟨l⟩ := cs1
    rw [v0]
    simpa using e0
  have hx2 := congrArg (fun d => match d with | DataW.agg l => l | _ => []) (congrArg Prod.fst hx1)
  simp only [Rows.laid_math_bits_deBruijn64tab] at hx2
  exact ⟨key 7 3 (by decide) (by rw [← hx2]; rfl), key 15 4 (by decide) (by rw [← hx2]; rfl), key 31 5 (by decide) (by rw [← hx2]; rfl), key 63 6 (by decide) (by rw [← hx2]; rfl)⟩
theorem words_of {zs : List Int} (h : ∀ n ∈ zs, (Lit.int .u64 n).wf = true) (len : Nat) (hl : len ≤ zs.length) :
    ((zs.take len).map Int.toNat).length = len ∧ Words ((zs.take len).map Int.toNat) ∧ ∀ i, i < len → ((((zs.take len).map Int.toNat).getD i 0 : Nat) : Int) = zs.getD i 0 := by
  have hb : ∀ n ∈ zs, 0 ≤ n ∧ n < 18446744073709551616 := fun n hn => by
    have := bounds_u64 (h n hn)
    omega
  refine ⟨by rw [List.length_map, List.length_take]; omega, fun x hx => ?_, fun i hi => ?_⟩
  · rw [List.mem_map] at hx
    obtain ⟨y, hy, rfl⟩ := hx
    have := hb y (List.mem_of_mem_take hy)
    unfold W64
    omega
  · have hz : i < zs.length := by omega
    have := hb zs[i] (List.getElem_mem hz)
    simp only [List.getD_eq_getElem?_getD, List.getElem?_map, List.getElem?_take, hi, if_true, List.getElem?_eq_getElem hz, Option.map_some, Option.getD_some]
    omega
instance instEsOpen : Inhabited Es := ⟨es0⟩
section
variable {H : Type} {enc : TypeId × Value → H} {W : World}
/-- a slice of words that came in -/
theorem open_words {fuel : Nat} {v : Value} {y : DataW H × List MemPlace} (h : DataW.trod enc Tryd.prog W 0 (fun _ => true) true fuel 22 [v] = some y) (hw : ∀ x ∈ y.1.weights Tryd.prog 22, x ≤ reachBytes) :
    ∃ (A : Option Addr) (cap : Nat) (ws : List Nat), v = .slice A ws.length cap ∧ Row W W.heap.size A ws ∧ ws.length ≤ cap ∧ (A = none → cap = 0) ∧ ws.length ≤ 17592186044416 := by
  rcases open_ints Tryd.underlying22 Tryd.underlying27 cells_u64 h with ⟨hcs, hx⟩ | ⟨a, l, c, zs, hcs, _, hl, hm, hz, hx, hcell, hwz⟩
  · injection hcs with hcs
    exact ⟨none, 0, [], hcs, ⟨fun x hx => by simp at hx, fun h => by simp at h⟩, Nat.zero_le _, fun _ => rfl, Nat.zero_le _⟩
  · injection hcs with hcs
    simp only [if_true] at hz
    obtain ⟨g1, g2, g3⟩ := words_of hwz l (by omega)
    refine ⟨some a, c, (zs.take l).map Int.toNat, by rw [g1]; exact hcs, ⟨g2, fun h0 => ?_⟩, by rw [g1]; exact hl, fun e => (by cases e), ?_⟩
    · rw [g1] at h0
      obtain ⟨b, off, spot⟩ := a
      have hc0 := hcell 0 (by omega)
      have hspot : spot = none := by simpa [Addr.add] using World.cell?_spot hc0
      subst hspot
      have hlt := World.block_lt_of_cell? W _ hc0
      refine ⟨b, off, rfl, by simpa [Addr.add] using hlt, fun i hi => ?_⟩
      rw [g1] at hi
      have := hcell i (by omega)
      rw [add_form] at this
      rw [this, g3 i hi]
    · rw [g1]
      have hz2 : (lits .u64 (zs.take l) : List (DataW H)).length + (lits .u64 (zs.drop l) : List (DataW H)).length = zs.length := by
        simp [lits]; omega
      have := hw (((lits .u64 (zs.take l) : List (DataW H)).length + (lits .u64 (zs.drop l) : List (DataW H)).length) * Tryd.prog.bytesOf 27) (by rw [hx]; simp [DataW.weights, Tryd.underlying22])
      rw [hz2, bytes_u64] at this
      simp only [reachBytes] at this
      omega
theorem okWide_slice {r : Reach} {b0 : Nat} {v : Value} (hv : Value.okWide Tryd.prog W r b0 22 v) : v.cells.toList = [v] := by
  simp only [Value.okWide, Tryd.underlying22, Cell.okWide] at hv
  cases v <;> simp_all [Cell.ok, Value.cells]
theorem open_slice_words {r : Reach} {b0 : Nat} {v : Value} {d : DataW H} {p : List MemPlace} (hv : Value.okWide Tryd.prog W r b0 22 v) (h : DataW.Trod enc Tryd.prog W 0 (fun _ => true) true 22 v d p) (hw : ∀ x ∈ d.weights Tryd.prog 22, x ≤ reachBytes) :
    ∃ (A : Option Addr) (cap : Nat) (ws : List Nat), v = .slice A ws.length cap ∧ Row W W.heap.size A ws ∧ ws.length ≤ cap ∧ (A = none → cap = 0) ∧ ws.length ≤ 17592186044416 := by
  obtain ⟨fuel, hf⟩ := h
  rw [okWide_slice hv] at hf
  exact open_words hf hw
/-- a slot's data -/
theorem open_eslot {fuel : Nat} {cs : List Value} {x : DataW H × List MemPlace} (h : DataW.trod enc Tryd.prog W 0 (fun _ => true) true fuel 58 cs = some x) : ∃ s : Es, cs = ecc s ∧ EW s := by
  obtain ⟨xs, n, _, _, hlen, hxl, hf⟩ := DataW.trod_struct Tryd.underlying58 h
  rw [cells_slot] at hlen
  match cs, hlen, xs, hxl with
  | [v0, v1, v2], _, [y0, y1, y2], _ =>
    have g0 := hf 0 _ rfl
    have g1 := hf 1 _ rfl
    have g2 := hf 2 _ rfl
    obtain ⟨a, e0, _, wa⟩ := DataW.trod_int Tryd.underlying56 (show DataW.trod enc Tryd.prog W 0 (fun _ => true) true n 56 [v0] = some y0 from g0)
    obtain ⟨k, e1, _, wk⟩ := DataW.trod_int Tryd.underlying27 (show DataW.trod enc Tryd.prog W 0 (fun _ => true) true n 27 [v1] = some y1 from g1)
    obtain ⟨t, e2, _, wt⟩ := DataW.trod_int Tryd.underlying27 (show DataW.trod enc Tryd.prog W 0 (fun _ => true) true n 27 [v2] = some y2 from g2)
    injection e0 with e0
    injection e1 with e1
    injection e2 with e2
    have ba := bounds_u8 wa
    have bk := bounds_u64 wk
    have bt := bounds_u64 wt
    refine ⟨⟨a.toNat, k.toNat, t.toNat⟩, ?_, ?_⟩
    · rw [e0, e1, e2]
      unfold ecc
      simp only [Int.toNat_of_nonneg ba.1, Int.toNat_of_nonneg bk.1, Int.toNat_of_nonneg bt.1]
    · unfold EW W64
      exact ⟨by show a.toNat < 256; omega, by show k.toNat < _; omega, by show t.toNat < _; omega⟩
/-- a table that came in -/
theorem open_ephem {r : Reach} {b0 : Nat} {v : Value} {d : DataW H} {p : List MemPlace} (hv : Value.okWide Tryd.prog W r b0 26 v) (h : DataW.Trod enc Tryd.prog W 0 (fun _ => true) true 26 v d p) (hw : ∀ x ∈ d.weights Tryd.prog 26, x ≤ reachBytes) :
    ∃ (A : Option Addr) (cap : Nat) (l : List Es), v = eph A l.length cap ∧ ERow W W.heap.size A l ∧ l.length ≤ 5864062014805 ∧ (A = none → cap = 0) := by
  obtain ⟨vs, rfl, hsz⟩ := okWide_struct Tryd.underlying26 hv
  rw [cells_ephem] at hsz
  obtain ⟨fuel, hf⟩ := h
  obtain ⟨vl⟩ := vs
  obtain ⟨xs, n, _, hx, hlen, hxl, hff⟩ := DataW.trod_struct Tryd.underlying26 hf
  match vl, hsz, xs, hxl with
  | [v0], _, [y0], _ =>
    have g0 := hff 0 _ rfl
    have g0' : DataW.trod enc Tryd.prog W 0 (fun _ => true) true n 24 [v0] = some y0 := g0
    have hd : d = .agg [y0.1] := by simpa using congrArg Prod.fst hx
    have hw0 : ∀ x ∈ y0.1.weights Tryd.prog 24, x ≤ reachBytes := fun x hx => hw x (by
      rw [hd]
      simp only [DataW.weights, Tryd.underlying26]
      exact List.mem_append.2 (.inl hx))
    rcases Go.Deep.open_slice Tryd.underlying24 g0' with ⟨hcs, _⟩ | ⟨a, len, cap, m, n', D, Pl, hcs, _, hlc, hcm, hm, hx, hel⟩
    · injection hcs with hcs
      subst hcs
      exact ⟨none, 0, [], rfl, ⟨fun s hs => by simp at hs, fun h => by simp at h⟩, Nat.zero_le _, fun _ => rfl⟩
    · injection hcs with hcs
      subst hcs
      simp only [if_true] at hm
      have hm := hm.symm
      subst hm
      have each : ∀ i, i < cap → ∃ s : Es, EW s ∧ ∀ j v, (ecc s)[j]? = some v → W.cell? ((a.add (i * 3)).add j) = some v := fun i hi => by
        obtain ⟨cs', h1, h2⟩ := hel i hi
        obtain ⟨s, rfl, hs⟩ := open_eslot h2
        rw [cells_slot] at h1
        obtain ⟨_, _, hc⟩ := World.cells?_some h1
        refine ⟨s, hs, fun j v hj => ?_⟩
        have hj3 : j < 3 := by
          have := (List.getElem?_eq_some_iff.1 hj).1
          simpa [ecc] using this
        rw [hc j hj3]
        exact hj
      obtain ⟨f, hfs⟩ : ∃ f : Nat → Es, ∀ i, i < cap → EW (f i) ∧ ∀ j v, (ecc (f i))[j]? = some v → W.cell? ((a.add (i * 3)).add j) = some v := Go.Deep.choose_lt each
      have hlen : ((List.range len).map f).length = len := by simp
      refine ⟨some a, cap, (List.range len).map f, by rw [hlen]; rfl, ⟨fun s hs => ?_, fun h0 => ?_⟩, ?_, fun e => (by cases e)⟩
      · rw [List.mem_map] at hs
        obtain ⟨i, hi, rfl⟩ := hs
        exact (hfs i (by have := List.mem_range.1 hi; omega)).1
      · rw [hlen] at h0
        obtain ⟨b, off, spot⟩ := a
        have hc0 := (hfs 0 (by omega)).2 0 _ rfl
        have hspot : spot = none := by simpa [Addr.add] using World.cell?_spot hc0
        subst hspot
        refine ⟨b, off, rfl, World.block_lt_of_cell? W _ (by simpa [add_form] using hc0), fun i hi => ?_⟩
        replace hi : i < len := by simpa using hi
        have e : nthE ((List.range len).map f) i = f i := by
          unfold nthE
          simp [List.getD_eq_getElem?_getD, hi]
        rw [e]
        obtain ⟨_, hq⟩ := hfs i (by omega)
        have k0 := hq 0 _ rfl
        have k1 := hq 1 _ rfl
        have k2 := hq 2 _ rfl
        rw [add_form, add_form] at k0 k1 k2
        exact ⟨by simpa using k0, k1, k2⟩
      · rw [hlen]
        have := hw0 (((List.range len).map D).length * 24 + ((List.range (cap - len)).map fun j => D (len + j)).length * 24) (by
          rw [show y0.1 = _ from congrArg Prod.fst hx]
          simp [DataW.weights, Tryd.underlying24, bytes_slot, Nat.add_mul])
        simp only [List.length_map, List.length_range, reachBytes] at this
        omega
end
end Go.Proofs.YtdeopodfpeeenaaDoor
