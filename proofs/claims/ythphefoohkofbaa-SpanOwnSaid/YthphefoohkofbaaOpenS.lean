/- What an argument of a law reads as: spans that came in. -/
import Derived.Test.YthphefoohkofbaaME
import Derived.ProofKit
import Derived.OpenShut
import Derived.ShutString
import Derived.ChangeOld
import Derived.SizedLaws
import Derived.Lib.SmallJoins
import Derived.Deep.Slices
namespace Go.Proofs.Ythphefoohkofbaa
open Go.ChangeShapes Go.WideShapes Go.ChangeAt Go.RowKit Go.Joins
set_option linter.unusedVariables false
set_option linter.unusedSimpArgs false

theorem own : ownKnob Try.prog.godebug = none := by kernel_rfl
theorem laidOut : laidOutB Try.prog = true := by kernel_rfl
theorem cells_bits : Try.prog.cellsOf 24 = 2 := by kernel_rfl
theorem cells_u64 : Try.prog.cellsOf 33 = 1 := by kernel_rfl
theorem bytes_u64 : Try.prog.bytesOf 33 = 8 := by kernel_rfl
theorem cells_span : Try.prog.cellsOf 26 = 8 := by kernel_rfl
theorem bytes_span : Try.prog.bytesOf 26 = 96 := by kernel_rfl
theorem words_of {zs : List Int} (h : ∀ n ∈ zs, (Lit.int .u64 n).wf = true) (len : Nat) (hl : len ≤ zs.length) :
    ((zs.take len).map Int.toNat).length = len ∧ Words ((zs.take len).map Int.toNat) ∧ ∀ i, i < len → ((((zs.take len).map Int.toNat).getD i 0 : Nat) : Int) = zs.getD i 0 := by
  have hb : ∀ n ∈ zs, 0 ≤ n ∧ n < 18446744073709551616 := fun n hn => by
    have := bounds_u64 (h n hn)
    omega
  refine ⟨by rw [List.length_map, List.length_take]; omega, fun x hx => ?_, fun i hi => ?_⟩
  · rw [List.mem_map] at hx
    obtain ⟨y, hy, rfl⟩ := hx
    have := hb y (List.mem_of_mem_take hy)
    unfold W64
    omega
  · have hz : i < zs.length := by omega
    have := hb zs[i] (List.getElem_mem hz)
    simp only [List.getD_eq_getElem?_getD, List.getElem?_map, List.getElem?_take, hi, if_true, List.getElem?_eq_getElem hz, Option.map_some, Option.getD_some]
    omega
theorem mem_weightsAll {H : Type} (P : Program) (e : TypeId) : ∀ (l : List (DataW H)) (d : DataW H), d ∈ l → ∀ x ∈ d.weights P e, x ∈ DataW.weightsAll P e l
  | [], d, hd, x, hx => by cases hd
  | c :: l, d, hd, x, hx => by
    rw [DataW.weightsAll, List.mem_append]
    rcases List.mem_cons.1 hd with rfl | hd
    · exact .inl hx
    · exact .inr (mem_weightsAll P e l d hd x hx)
section
variable {H : Type} {enc : TypeId × Value → H} {W : World}
/-- a slice of words that came in -/
theorem open_words {fuel : Nat} {v : Value} {y : DataW H × List MemPlace} (h : DataW.trod enc Try.prog W 0 (fun _ => true) true fuel 22 [v] = some y) (hw : ∀ x ∈ y.1.weights Try.prog 22, x ≤ reachBytes) :
    ∃ (A : Option Addr) (cap : Nat) (ws : List Nat), v = .slice A ws.length cap ∧ Row W W.heap.size A ws ∧ ws.length ≤ 17592186044416 := by
  rcases open_ints Try.underlying22 Try.underlying33 cells_u64 h with ⟨hcs, hx⟩ | ⟨a, l, c, zs, hcs, _, hl, hm, hz, hx, hcell, hwz⟩
  · injection hcs with hcs
    exact ⟨none, 0, [], hcs, ⟨fun x hx => by simp at hx, fun h => by simp at h⟩, Nat.zero_le _⟩
  · injection hcs with hcs
    simp only [if_true] at hz
    obtain ⟨g1, g2, g3⟩ := words_of hwz l (by omega)
    refine ⟨some a, c, (zs.take l).map Int.toNat, by rw [g1]; exact hcs, ⟨g2, fun h0 => ?_⟩, ?_⟩
    · rw [g1] at h0
      obtain ⟨b, off, spot⟩ := a
      have hc0 := hcell 0 (by omega)
      have hspot : spot = none := by simpa [Addr.add] using World.cell?_spot hc0
      subst hspot
      have hlt := World.block_lt_of_cell? W _ hc0
      refine ⟨b, off, rfl, by simpa [Addr.add] using hlt, fun i hi => ?_⟩
      rw [g1] at hi
      have := hcell i (by omega)
      rw [add_form] at this
      rw [this, g3 i hi]
    · rw [g1]
      have hz2 : (lits .u64 (zs.take l) : List (DataW H)).length + (lits .u64 (zs.drop l) : List (DataW H)).length = zs.length := by
        simp [lits]; omega
      have := hw (((lits .u64 (zs.take l) : List (DataW H)).length + (lits .u64 (zs.drop l) : List (DataW H)).length) * Try.prog.bytesOf 33) (by rw [hx]; simp [DataW.weights, Try.underlying22])
      rw [hz2, bytes_u64] at this
      simp only [reachBytes] at this
      omega
/-- the cells of bits that came in -/
theorem open_bcells {fuel : Nat} {c0 c1 : Value} {x : DataW H × List MemPlace} (h : DataW.trod enc Try.prog W 0 (fun _ => true) true fuel 24 [c0, c1] = some x) (hw : ∀ y ∈ x.1.weights Try.prog 24, y ≤ reachBytes) :
    ∃ (n : Int) (A : Option Addr) (cap : Nat) (ws : List Nat), c0 = .int .i64 n ∧ c1 = .slice A ws.length cap ∧ Row W W.heap.size A ws ∧ ws.length ≤ 17592186044416 := by
  obtain ⟨xs, n, _, hx, _, hlen, hf⟩ := DataW.trod_struct Try.underlying24 h
  match xs, hlen with
  | [y0, y1], _ =>
    have g0 := hf 0 _ rfl
    have g1 := hf 1 _ rfl
    obtain ⟨k, e0, _, _⟩ := DataW.trod_int Try.underlying3 (show DataW.trod enc Try.prog W 0 (fun _ => true) true n 3 [c0] = some y0 from g0)
    injection e0 with e0
    obtain ⟨A, cap, ws, e1, hr, hl⟩ := open_words (show DataW.trod enc Try.prog W 0 (fun _ => true) true n 22 [c1] = some y1 from g1) (fun z hz => hw z (by
      rw [hx]
      simp only [DataW.weights, Try.underlying24]
      simp only [DataW.weightsEach, List.map_cons, List.map_nil, List.mem_append]
      exact .inr (.inl hz)))
    exact ⟨k, A, cap, ws, e0, e1, hr, hl⟩
/-- the cells of a span that came in -/
theorem open_scells {fuel : Nat} {cs : List Value} {x : DataW H × List MemPlace} (h : DataW.trod enc Try.prog W 0 (fun _ => true) true fuel 26 cs = some x) (hw : ∀ y ∈ x.1.weights Try.prog 26, y ≤ reachBytes) :
    ∃ v : Sv, cs = cells8 v ∧ Row W W.heap.size v.A v.d.aw ∧ Row W W.heap.size v.M v.d.mw ∧ v.d.aw.length ≤ 17592186044416 ∧ v.d.mw.length ≤ 17592186044416 := by
  obtain ⟨xs, n, _, hx, hcl, hlen, hf⟩ := DataW.trod_struct Try.underlying26 h
  rw [cells_span] at hcl
  match cs, hcl, xs, hlen with
  | [v0, v1, v2, v3, v4, v5, v6, v7], _, [y0, y1, y2, y3, y4, y5], _ =>
    have g0 := hf 0 _ rfl
    have g1 := hf 1 _ rfl
    have g2 := hf 2 _ rfl
    have g3 := hf 3 _ rfl
    have g4 := hf 4 _ rfl
    have g5 := hf 5 _ rfl
    obtain ⟨k0, e0, _, _⟩ := DataW.trod_int Try.underlying3 (show DataW.trod enc Try.prog W 0 (fun _ => true) true n 3 [v0] = some y0 from g0)
    obtain ⟨k1, e1, _, _⟩ := DataW.trod_int Try.underlying3 (show DataW.trod enc Try.prog W 0 (fun _ => true) true n 3 [v1] = some y1 from g1)
    obtain ⟨k2, e2, _, _⟩ := DataW.trod_int Try.underlying3 (show DataW.trod enc Try.prog W 0 (fun _ => true) true n 3 [v2] = some y2 from g2)
    obtain ⟨k3, A, ca, aw, e3, e4, ra, la⟩ := open_bcells (show DataW.trod enc Try.prog W 0 (fun _ => true) true n 24 [v3, v4] = some y3 from g3) (fun z hz => hw z (by
      rw [hx]
      simp only [DataW.weights, Try.underlying26]
      simp only [DataW.weightsEach, List.map_cons, List.map_nil, List.mem_append]
      exact .inr (.inr (.inr (.inl hz)))))
    obtain ⟨k5, M, cm, mw, e5, e6, rm, lm⟩ := open_bcells (show DataW.trod enc Try.prog W 0 (fun _ => true) true n 24 [v5, v6] = some y4 from g4) (fun z hz => hw z (by
      rw [hx]
      simp only [DataW.weights, Try.underlying26]
      simp only [DataW.weightsEach, List.map_cons, List.map_nil, List.mem_append]
      exact .inr (.inr (.inr (.inr (.inl hz))))))
    obtain ⟨s, e7, _⟩ := DataW.trod_bool Try.underlying4 (show DataW.trod enc Try.prog W 0 (fun _ => true) true n 4 [v7] = some y5 from g5)
    injection e0 with e0
    injection e1 with e1
    injection e2 with e2
    injection e7 with e7
    exact ⟨⟨⟨k0, k1, k2, k3, aw, k5, mw, s⟩, A, ca, M, cm⟩, by rw [e0, e1, e2, e3, e4, e5, e6, e7]; rfl, ra, rm, la, lm⟩
/-- a span that came in -/
theorem open_span {r : Reach} {b0 : Nat} {v : Value} {d : DataW H} {p : List MemPlace} (hv : Value.okWide Try.prog W r b0 26 v) (h : DataW.Trod enc Try.prog W 0 (fun _ => true) true 26 v d p) (hw : ∀ x ∈ d.weights Try.prog 26, x ≤ reachBytes) :
    ∃ (d : Sd) (A : Option Addr) (ca : Nat) (M : Option Addr) (cm : Nat), v = spv d A ca M cm ∧ Row W W.heap.size A d.aw ∧ Row W W.heap.size M d.mw ∧ d.aw.length ≤ 17592186044416 ∧ d.mw.length ≤ 17592186044416 := by
  obtain ⟨cs, rfl, hsz⟩ := okWide_struct Try.underlying26 hv
  obtain ⟨fuel, hf⟩ := h
  obtain ⟨u, e, h1, h2, h3, h4⟩ := open_scells hf hw
  refine ⟨u.d, u.A, u.ca, u.M, u.cm, ?_, h1, h2, h3, h4⟩
  have e2 : cs = (cells8 u).toArray := by
    apply Array.ext'
    simpa [Value.cells] using e
  rw [e2]
  rfl
theorem okWide_spans {r : Reach} {b0 : Nat} {v : Value} (hv : Value.okWide Try.prog W r b0 27 v) : v.cells.toList = [v] := by
  simp only [Value.okWide, Try.underlying27, Cell.okWide] at hv
  cases v <;> simp_all [Cell.ok, Value.cells]
/-- spans that came in -/
theorem open_spans {r : Reach} {b0 : Nat} {v : Value} {d : DataW H} {p : List MemPlace} (hv : Value.okWide Try.prog W r b0 27 v) (h : DataW.Trod enc Try.prog W 0 (fun _ => true) true 27 v d p) (hw : ∀ x ∈ d.weights Try.prog 27, x ≤ reachBytes) :
    ∃ (A : Option Addr) (cap : Nat) (l : List Sd), v = .slice A l.length cap ∧ SRow W W.heap.size A l ∧ l.length ≤ cap ∧ (A = none → cap = 0) ∧ l.length ≤ 1466015503658 ∧ WordsLe l := by
  obtain ⟨fuel, hf⟩ := h
  rw [okWide_spans hv] at hf
  rcases Go.Deep.open_slice Try.underlying27 hf with ⟨hcs, _⟩ | ⟨a, len, cap, m, n, D, Pl, hcs, _, hlc, hcm, hm, hx, hel⟩
  · injection hcs with hcs
    exact ⟨none, 0, [], hcs, SRow.nil _ _ _, Nat.le_refl _, fun _ => rfl, Nat.zero_le _, fun d hd => (by cases hd)⟩
  · injection hcs with hcs
    simp only [if_true] at hm
    have hm := hm.symm
    subst hm
    have hd : d = _ := congrArg Prod.fst hx
    have each : ∀ i, i < len → ∃ u : Sv, (∀ j v, (cells8 u)[j]? = some v → W.cell? ((a.add (i * 8)).add j) = some v) ∧ Row W W.heap.size u.A u.d.aw ∧ Row W W.heap.size u.M u.d.mw ∧ u.d.aw.length ≤ 17592186044416 ∧ u.d.mw.length ≤ 17592186044416 := fun i hi => by
      obtain ⟨cs', h1, h2⟩ := hel i (by omega)
      obtain ⟨u, rfl, r1, r2, r3, r4⟩ := open_scells h2 (fun y hy => hw y (by
        rw [hd]
        simp only [DataW.weights, Try.underlying27, List.mem_cons, List.mem_append]
        exact .inr (.inl (mem_weightsAll _ _ _ _ (List.mem_map.2 ⟨i, List.mem_range.2 hi, rfl⟩) y hy))))
      rw [cells_span] at h1
      obtain ⟨_, _, hc⟩ := World.cells?_some h1
      refine ⟨u, fun j v hj => ?_, r1, r2, r3, r4⟩
      have hj3 : j < 8 := by
        have := (List.getElem?_eq_some_iff.1 hj).1
        simpa [cells8] using this
      rw [hc j hj3]
      exact hj
    obtain ⟨f, hfs⟩ := Go.Deep.choose_lt each
    have hlen : ((List.range len).map fun i => (f i).d).length = len := by simp
    have hn : ∀ i, i < len → nth ((List.range len).map fun i => (f i).d) i = (f i).d := fun i hi => by
      unfold nth
      simp [List.getD_eq_getElem?_getD, hi]
    refine ⟨some a, cap, (List.range len).map fun i => (f i).d, by rw [hlen]; exact hcs, ⟨fun h0 => ?_⟩, by rw [hlen]; exact hlc, fun e => (by cases e), ?_, fun d hd => ?_⟩
    · rw [hlen] at h0
      obtain ⟨b, off, spot⟩ := a
      have hc0 := (hfs 0 (by omega)).1 0 _ rfl
      have hspot : spot = none := by simpa [Addr.add] using World.cell?_spot hc0
      subst hspot
      refine ⟨b, off, rfl, World.block_lt_of_cell? W _ (by simpa [add_form] using hc0), fun i hi => ?_⟩
      rw [hlen] at hi
      rw [hn i hi]
      obtain ⟨hc, r1, r2, _⟩ := hfs i hi
      have k0 := hc 0 _ rfl
      have k1 := hc 1 _ rfl
      have k2 := hc 2 _ rfl
      have k3 := hc 3 _ rfl
      have k4 := hc 4 _ rfl
      have k5 := hc 5 _ rfl
      have k6 := hc 6 _ rfl
      have k7 := hc 7 _ rfl
      rw [add_form, add_form] at k0 k1 k2 k3 k4 k5 k6 k7
      exact ⟨(f i).A, (f i).ca, (f i).M, (f i).cm, ⟨by simpa using k0, k1, k2, k3, k4, k5, k6, k7⟩, r1, r2⟩
    · rw [hlen]
      have := hw (((List.range len).map D).length * 96 + ((List.range (cap - len)).map fun j => D (len + j)).length * 96) (by
        rw [hd]
        simp [DataW.weights, Try.underlying27, bytes_span, Nat.add_mul])
      simp only [List.length_map, List.length_range, reachBytes] at this
      omega
    · obtain ⟨i, hi, rfl⟩ := List.mem_map.1 hd
      obtain ⟨_, _, _, r3, r4⟩ := hfs i (List.mem_range.1 hi)
      exact ⟨r3, r4⟩
end
end Go.Proofs.Ythphefoohkofbaa
