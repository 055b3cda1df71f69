/- What an argument of a law reads as: words, a pacer, steps that came in. -/
import Derived.Test.YtkdbcoibapcmjaaN1
import Derived.ProofKit
import Derived.OpenShut
import Derived.ShutString
import Derived.ChangeOld
import Derived.SizedLaws
import Derived.Lib.SmallJoins
import Derived.Deep.Slices
namespace Go.Proofs.Ytkdbcoibapcmjaa
open Go.ChangeShapes Go.WideShapes Go.ChangeAt Go.RowKit Go.Joins
set_option linter.unusedVariables false
set_option linter.unusedSimpArgs false

theorem own : ownKnob Try.prog.godebug = none := by kernel_rfl
theorem laidOut : laidOutB Try.prog = true := by kernel_rfl
theorem cells_u64 : Try.prog.cellsOf 22 = 1 := by kernel_rfl
theorem bytes_u64 : Try.prog.bytesOf 22 = 8 := by kernel_rfl
theorem cells_pacer : Try.prog.cellsOf 25 = 10 := by kernel_rfl
theorem words_of {zs : List Int} (h : ∀ n ∈ zs, (Lit.int .u64 n).wf = true) (len : Nat) (hl : len ≤ zs.length) :
    ((zs.take len).map Int.toNat).length = len ∧ Words ((zs.take len).map Int.toNat) ∧ ∀ i, i < len → ((((zs.take len).map Int.toNat).getD i 0 : Nat) : Int) = zs.getD i 0 := by
  have hb : ∀ n ∈ zs, 0 ≤ n ∧ n < 18446744073709551616 := fun n hn => by
    have := bounds_u64 (h n hn)
    omega
  refine ⟨by rw [List.length_map, List.length_take]; omega, fun x hx => ?_, fun i hi => ?_⟩
  · rw [List.mem_map] at hx
    obtain ⟨y, hy, rfl⟩ := hx
    have := hb y (List.mem_of_mem_take hy)
    unfold W64
    omega
  · have hz : i < zs.length := by omega
    have := hb zs[i] (List.getElem_mem hz)
    simp only [List.getD_eq_getElem?_getD, List.getElem?_map, List.getElem?_take, hi, if_true, List.getElem?_eq_getElem hz, Option.map_some, Option.getD_some]
    omega
section
variable {H : Type} {enc : TypeId × Value → H} {W : World}
/-- a slice of words that came in -/
theorem open_words {fuel : Nat} {v : Value} {y : DataW H × List MemPlace} (h : DataW.trod enc Try.prog W 0 (fun _ => true) true fuel 23 [v] = some y) (hw : ∀ x ∈ y.1.weights Try.prog 23, x ≤ reachBytes) :
    ∃ (A : Option Addr) (cap : Nat) (ws : List Nat), v = .slice A ws.length cap ∧ Row W W.heap.size A ws ∧ ws.length ≤ cap ∧ (A = none → cap = 0) ∧ ws.length ≤ 17592186044416 := by
  rcases open_ints Try.underlying23 Try.underlying22 cells_u64 h with ⟨hcs, hx⟩ | ⟨a, l, c, zs, hcs, _, hl, hm, hz, hx, hcell, hwz⟩
  · injection hcs with hcs
    exact ⟨none, 0, [], hcs, ⟨fun x hx => by simp at hx, fun h => by simp at h⟩, Nat.zero_le _, fun _ => rfl, Nat.zero_le _⟩
  · injection hcs with hcs
    simp only [if_true] at hz
    obtain ⟨g1, g2, g3⟩ := words_of hwz l (by omega)
    refine ⟨some a, c, (zs.take l).map Int.toNat, by rw [g1]; exact hcs, ⟨g2, fun h0 => ?_⟩, by rw [g1]; exact hl, fun e => (by cases e), ?_⟩
    · rw [g1] at h0
      obtain ⟨b, off, spot⟩ := a
      have hc0 := hcell 0 (by omega)
      have hspot : spot = none := by simpa [Addr.add] using World.cell?_spot hc0
      subst hspot
      have hlt := World.block_lt_of_cell? W _ hc0
      refine ⟨b, off, rfl, by simpa [Addr.add] using hlt, fun i hi => ?_⟩
      rw [g1] at hi
      have := hcell i (by omega)
      rw [add_form] at this
      rw [this, g3 i hi]
    · rw [g1]
      have hz2 : (lits .u64 (zs.take l) : List (DataW H)).length + (lits .u64 (zs.drop l) : List (DataW H)).length = zs.length := by
        simp [lits]; omega
      have := hw (((lits .u64 (zs.take l) : List (DataW H)).length + (lits .u64 (zs.drop l) : List (DataW H)).length) * Try.prog.bytesOf 22) (by rw [hx]; simp [DataW.weights, Try.underlying23])
      rw [hz2, bytes_u64] at this
      simp only [reachBytes] at this
      omega
theorem okWide_slice {r : Reach} {b0 : Nat} {v : Value} (hv : Value.okWide Try.prog W r b0 23 v) : v.cells.toList = [v] := by
  simp only [Value.okWide, Try.underlying23, Cell.okWide] at hv
  cases v <;> simp_all [Cell.ok, Value.cells]
theorem open_slice_words {r : Reach} {b0 : Nat} {v : Value} {d : DataW H} {p : List MemPlace} (hv : Value.okWide Try.prog W r b0 23 v) (h : DataW.Trod enc Try.prog W 0 (fun _ => true) true 23 v d p) (hw : ∀ x ∈ d.weights Try.prog 23, x ≤ reachBytes) :
    ∃ (A : Option Addr) (cap : Nat) (ws : List Nat), v = .slice A ws.length cap ∧ Row W W.heap.size A ws ∧ ws.length ≤ cap ∧ (A = none → cap = 0) ∧ ws.length ≤ 17592186044416 := by
  obtain ⟨fuel, hf⟩ := h
  rw [okWide_slice hv] at hf
  exact open_words hf hw
/-- a pacer that came in -/
theorem open_pcells {fuel : Nat} {cs : List Value} {x : DataW H × List MemPlace} (h : DataW.trod enc Try.prog W 0 (fun _ => true) true fuel 25 cs = some x) (hw : ∀ y ∈ x.1.weights Try.prog 25, y ≤ reachBytes) :
    ∃ (p : Pc) (A : Option Addr) (c : Nat), cs = (#[.int .i64 p.pct, .int .u64 (p.least : Nat), .int .u64 (p.live : Nat), .bool p.on, .int .u64 (p.est : Nat), .int .u64 (p.room : Nat), .int .u64 (p.credit : Nat), .int .u64 (p.done : Nat), .int .u64 (p.made : Nat), .slice A p.ds.length c]).toList ∧ FitP p ∧ Row W W.heap.size A p.ds ∧ p.ds.length ≤ c ∧ (A = none → c = 0) ∧ p.ds.length ≤ 17592186044416 := by
  obtain ⟨xs, n, _, hx, hcl, hlen, hf⟩ := DataW.trod_struct Try.underlying25 h
  rw [cells_pacer] at hcl
  match cs, hcl, xs, hlen with
  | [v0, v1, v2, v3, v4, v5, v6, v7, v8, v9], _, [y0, y1, y2, y3, y4, y5, y6, y7, y8, y9], _ =>
    have g0 := hf 0 _ rfl
    have g1 := hf 1 _ rfl
    have g2 := hf 2 _ rfl
    have g3 := hf 3 _ rfl
    have g4 := hf 4 _ rfl
    have g5 := hf 5 _ rfl
    have g6 := hf 6 _ rfl
    have g7 := hf 7 _ rfl
    have g8 := hf 8 _ rfl
    have g9 := hf 9 _ rfl
    obtain ⟨k0, e0, _, f0⟩ := DataW.trod_int Try.underlying3 (show DataW.trod enc Try.prog W 0 (fun _ => true) true n 3 [v0] = some y0 from g0)
    obtain ⟨k1, e1, _, f1⟩ := DataW.trod_int Try.underlying22 (show DataW.trod enc Try.prog W 0 (fun _ => true) true n 22 [v1] = some y1 from g1)
    obtain ⟨k2, e2, _, f2⟩ := DataW.trod_int Try.underlying22 (show DataW.trod enc Try.prog W 0 (fun _ => true) true n 22 [v2] = some y2 from g2)
    obtain ⟨k3, e3, _⟩ := DataW.trod_bool Try.underlying4 (show DataW.trod enc Try.prog W 0 (fun _ => true) true n 4 [v3] = some y3 from g3)
    obtain ⟨k4, e4, _, f4⟩ := DataW.trod_int Try.underlying22 (show DataW.trod enc Try.prog W 0 (fun _ => true) true n 22 [v4] = some y4 from g4)
    obtain ⟨k5, e5, _, f5⟩ := DataW.trod_int Try.underlying22 (show DataW.trod enc Try.prog W 0 (fun _ => true) true n 22 [v5] = some y5 from g5)
    obtain ⟨k6, e6, _, f6⟩ := DataW.trod_int Try.underlying22 (show DataW.trod enc Try.prog W 0 (fun _ => true) true n 22 [v6] = some y6 from g6)
    obtain ⟨k7, e7, _, f7⟩ := DataW.trod_int Try.underlying22 (show DataW.trod enc Try.prog W 0 (fun _ => true) true n 22 [v7] = some y7 from g7)
    obtain ⟨k8, e8, _, f8⟩ := DataW.trod_int Try.underlying22 (show DataW.trod enc Try.prog W 0 (fun _ => true) true n 22 [v8] = some y8 from g8)
    obtain ⟨A, c, ds, e9, row, hc1, hc2, hl⟩ := open_words (show DataW.trod enc Try.prog W 0 (fun _ => true) true n 23 [v9] = some y9 from g9) (fun z hz => hw z (by
      rw [hx]
      simp only [DataW.weights, Try.underlying25]
      simp only [DataW.weightsEach, List.map_cons, List.map_nil, List.mem_append]
      exact .inr (.inr (.inr (.inr (.inr (.inr (.inr (.inr (.inr (.inl hz)))))))))))
    injection e0 with e0
    injection e1 with e1
    injection e2 with e2
    injection e3 with e3
    injection e4 with e4
    injection e5 with e5
    injection e6 with e6
    injection e7 with e7
    injection e8 with e8
    have b0 := bounds_i64 f0
    have b1 := bounds_u64 f1
    obtain ⟨m1, rfl⟩ := Int.eq_ofNat_of_zero_le b1.1
    have b2 := bounds_u64 f2
    obtain ⟨m2, rfl⟩ := Int.eq_ofNat_of_zero_le b2.1
    have b4 := bounds_u64 f4
    obtain ⟨m4, rfl⟩ := Int.eq_ofNat_of_zero_le b4.1
    have b5 := bounds_u64 f5
    obtain ⟨m5, rfl⟩ := Int.eq_ofNat_of_zero_le b5.1
    have b6 := bounds_u64 f6
    obtain ⟨m6, rfl⟩ := Int.eq_ofNat_of_zero_le b6.1
    have b7 := bounds_u64 f7
    obtain ⟨m7, rfl⟩ := Int.eq_ofNat_of_zero_le b7.1
    have b8 := bounds_u64 f8
    obtain ⟨m8, rfl⟩ := Int.eq_ofNat_of_zero_le b8.1
    refine ⟨⟨k0, m1, m2, k3, m4, m5, m6, m7, m8, ds⟩, A, c, by rw [e0, e1, e2, e3, e4, e5, e6, e7, e8, e9], ⟨b0.1, b0.2, ?_, ?_, ?_, ?_, ?_, ?_, ?_, row.words⟩, row, hc1, hc2, hl⟩
    all_goals
      unfold W64
      simp only
      omega
theorem open_pacer {r : Reach} {b0 : Nat} {v : Value} {d : DataW H} {p : List MemPlace} (hv : Value.okWide Try.prog W r b0 25 v) (h : DataW.Trod enc Try.prog W 0 (fun _ => true) true 25 v d p) (hw : ∀ x ∈ d.weights Try.prog 25, x ≤ reachBytes) :
    ∃ (p : Pc) (A : Option Addr) (c : Nat), v = (.agg #[.int .i64 p.pct, .int .u64 (p.least : Nat), .int .u64 (p.live : Nat), .bool p.on, .int .u64 (p.est : Nat), .int .u64 (p.room : Nat), .int .u64 (p.credit : Nat), .int .u64 (p.done : Nat), .int .u64 (p.made : Nat), .slice A p.ds.length c]) ∧ FitP p ∧ Row W W.heap.size A p.ds ∧ p.ds.length ≤ c ∧ (A = none → c = 0) ∧ p.ds.length ≤ 17592186044416 := by
  obtain ⟨cs, rfl, hsz⟩ := okWide_struct Try.underlying25 hv
  obtain ⟨fuel, hf⟩ := h
  obtain ⟨u, A, c, e, h1, h2, h3, h4, h5⟩ := open_pcells hf hw
  refine ⟨u, A, c, ?_, h1, h2, h3, h4, h5⟩
  have e2 : cs = #[.int .i64 u.pct, .int .u64 (u.least : Nat), .int .u64 (u.live : Nat), .bool u.on, .int .u64 (u.est : Nat), .int .u64 (u.room : Nat), .int .u64 (u.credit : Nat), .int .u64 (u.done : Nat), .int .u64 (u.made : Nat), .slice A u.ds.length c] := by
    apply Array.ext'
    simpa [Value.cells] using e
  rw [e2]
end
end Go.Proofs.Ytkdbcoibapcmjaa
