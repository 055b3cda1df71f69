/- What an argument of a law reads as: queues that came in. -/
import Derived.Test.YtlaladhnidcoiaaG5
import Derived.ProofKit
import Derived.OpenShut
import Derived.ShutString
import Derived.ChangeOld
import Derived.SizedLaws
import Derived.Lib.SmallJoins
import Derived.Deep.Slices
namespace Go.Proofs.Ytlaladhnidcoiaa
open Go.ChangeShapes Go.WideShapes Go.ChangeAt Go.RowKit Go.Joins
set_option linter.unusedVariables false
set_option linter.unusedSimpArgs false

theorem own : ownKnob Try.prog.godebug = none := by kernel_rfl
theorem laidOut : laidOutB Try.prog = true := by kernel_rfl
theorem cells_u64 : Try.prog.cellsOf 30 = 1 := by kernel_rfl
theorem cells_grey : Try.prog.cellsOf 24 = 1 := by kernel_rfl
theorem cells_sl : Try.prog.cellsOf 25 = 1 := by kernel_rfl
theorem cells_sls : Try.prog.cellsOf 22 = 1 := by kernel_rfl
theorem bytes_sl : Try.prog.bytesOf 25 = 24 := by kernel_rfl
theorem bytes_u64 : Try.prog.bytesOf 30 = 8 := by kernel_rfl
theorem words_of {zs : List Int} (h : ∀ n ∈ zs, (Lit.int .u64 n).wf = true) (len : Nat) (hl : len ≤ zs.length) :
    ((zs.take len).map Int.toNat).length = len ∧ Words ((zs.take len).map Int.toNat) ∧ ∀ i, i < len → ((((zs.take len).map Int.toNat).getD i 0 : Nat) : Int) = zs.getD i 0 := by
  have hb : ∀ n ∈ zs, 0 ≤ n ∧ n < 18446744073709551616 := fun n hn => by
    have := bounds_u64 (h n hn)
    omega
  refine ⟨by rw [List.length_map, List.length_take]; omega, fun x hx => ?_, fun i hi => ?_⟩
  · rw [List.mem_map] at hx
    obtain ⟨y, hy, rfl⟩ := hx
    have := hb y (List.mem_of_mem_take hy)
    unfold W64
    omega
  · have hz : i < zs.length := by omega
    have := hb zs[i] (List.getElem_mem hz)
    simp only [List.getD_eq_getElem?_getD, List.getElem?_map, List.getElem?_take, hi, if_true, List.getElem?_eq_getElem hz, Option.map_some, Option.getD_some]
    omega
theorem mem_weightsAll {H : Type} (P : Program) (e : TypeId) : ∀ (l : List (DataW H)) (d : DataW H), d ∈ l → ∀ x ∈ d.weights P e, x ∈ DataW.weightsAll P e l
  | [], d, hd, x, hx => by cases hd
  | c :: l, d, hd, x, hx => by
    rw [DataW.weightsAll, List.mem_append]
    rcases List.mem_cons.1 hd with rfl | hd
    · exact .inl hx
    · exact .inr (mem_weightsAll P e l d hd x hx)
section
variable {H : Type} {enc : TypeId × Value → H} {W : World}
/-- a slice of words that came in -/
theorem open_words {fuel : Nat} {v : Value} {y : DataW H × List MemPlace} (h : DataW.trod enc Try.prog W 0 (fun _ => true) true fuel 25 [v] = some y) (hw : ∀ x ∈ y.1.weights Try.prog 25, x ≤ reachBytes) :
    ∃ (A : Option Addr) (cap : Nat) (ws : List Nat), v = .slice A ws.length cap ∧ Row W W.heap.size A ws ∧ ws.length ≤ cap ∧ (A = none → cap = 0) ∧ ws.length ≤ 17592186044416 := by
  rcases open_ints Try.underlying25 Try.underlying30 cells_u64 h with ⟨hcs, hx⟩ | ⟨a, l, c, zs, hcs, _, hl, hm, hz, hx, hcell, hwz⟩
  · injection hcs with hcs
    exact ⟨none, 0, [], hcs, ⟨fun x hx => by simp at hx, fun h => by simp at h⟩, Nat.zero_le _, fun _ => rfl, Nat.zero_le _⟩
  · injection hcs with hcs
    simp only [if_true] at hz
    obtain ⟨g1, g2, g3⟩ := words_of hwz l (by omega)
    refine ⟨some a, c, (zs.take l).map Int.toNat, by rw [g1]; exact hcs, ⟨g2, fun h0 => ?_⟩, by rw [g1]; exact hl, fun e => (by cases e), ?_⟩
    · rw [g1] at h0
      obtain ⟨b, off, spot⟩ := a
      have hc0 := hcell 0 (by omega)
      have hspot : spot = none := by simpa [Addr.add] using World.cell?_spot hc0
      subst hspot
      have hlt := World.block_lt_of_cell? W _ hc0
      refine ⟨b, off, rfl, by simpa [Addr.add] using hlt, fun i hi => ?_⟩
      rw [g1] at hi
      have := hcell i (by omega)
      rw [add_form] at this
      rw [this, g3 i hi]
    · rw [g1]
      have hz2 : (lits .u64 (zs.take l) : List (DataW H)).length + (lits .u64 (zs.drop l) : List (DataW H)).length = zs.length := by
        simp [lits]; omega
      have := hw (((lits .u64 (zs.take l) : List (DataW H)).length + (lits .u64 (zs.drop l) : List (DataW H)).length) * Try.prog.bytesOf 30) (by rw [hx]; simp [DataW.weights, Try.underlying25])
      rw [hz2, bytes_u64] at this
      simp only [reachBytes] at this
      omega
theorem okWide_slice {r : Reach} {b0 : Nat} {v : Value} (hv : Value.okWide Try.prog W r b0 25 v) : v.cells.toList = [v] := by
  simp only [Value.okWide, Try.underlying25, Cell.okWide] at hv
  cases v <;> simp_all [Cell.ok, Value.cells]
theorem open_slice_words {r : Reach} {b0 : Nat} {v : Value} {d : DataW H} {p : List MemPlace} (hv : Value.okWide Try.prog W r b0 25 v) (h : DataW.Trod enc Try.prog W 0 (fun _ => true) true 25 v d p) (hw : ∀ x ∈ d.weights Try.prog 25, x ≤ reachBytes) :
    ∃ (A : Option Addr) (cap : Nat) (ws : List Nat), v = .slice A ws.length cap ∧ Row W W.heap.size A ws ∧ ws.length ≤ cap ∧ (A = none → cap = 0) ∧ ws.length ≤ 17592186044416 := by
  obtain ⟨fuel, hf⟩ := h
  rw [okWide_slice hv] at hf
  exact open_words hf hw
/-- queues that came in -/
theorem open_queues {fuel : Nat} {c0 : Value} {x : DataW H × List MemPlace} (h : DataW.trod enc Try.prog W 0 (fun _ => true) true fuel 22 [c0] = some x) (hw : ∀ y ∈ x.1.weights Try.prog 22, y ≤ reachBytes) :
    ∃ (A : Option Addr) (cap : Nat) (qs : List (List Nat)), c0 = .slice A qs.length cap ∧ GRow W A qs := by
  rcases Go.Deep.open_slice Try.underlying22 h with ⟨hcs, _⟩ | ⟨a, len, cap, m, n, D, Pl, hcs, _, hlc, hcm, hm, hx, hel⟩
  · injection hcs with hcs
    exact ⟨none, 0, [], hcs, qlim_nil, fun h => by simp at h⟩
  · injection hcs with hcs
    simp only [if_true] at hm
    have hm := hm.symm
    subst hm
    have hd : x.1 = _ := congrArg Prod.fst hx
    have each : ∀ i, i < len → ∃ v : Qv, W.cell? (a.add i) = some (qval v) ∧ Row W W.heap.size v.A v.q ∧ v.q.length ≤ v.c ∧ (v.A = none → v.c = 0) ∧ v.q.length ≤ 17592186044416 := fun i hi => by
      obtain ⟨cs', h1, h2⟩ := hel i (by omega)
      rw [cells_sl, Nat.mul_one] at h1
      obtain ⟨hl1, _, hc⟩ := World.cells?_some h1
      match cs', hl1 with
      | [c1], _ =>
        obtain ⟨Ai, ci, ws, rfl, r1, r2, r3, r4⟩ := open_words h2 (fun y hy => hw y (by
          rw [hd]
          simp only [DataW.weights, Try.underlying22, List.mem_cons, List.mem_append]
          exact .inr (.inl (mem_weightsAll _ _ _ _ (List.mem_map.2 ⟨i, List.mem_range.2 hi, rfl⟩) y hy))))
        have := hc 0 (by omega)
        refine ⟨⟨Ai, ci, ws⟩, ?_, r1, r2, r3, r4⟩
        have e0 : (a.add i).add 0 = a.add i := by unfold Addr.add; simp
        rw [e0] at this
        rw [this]
        rfl
    haveI : Inhabited Qv := ⟨⟨none, 0, []⟩⟩
    obtain ⟨f, hfs⟩ := Go.Deep.choose_lt each
    have hlen : ((List.range len).map fun i => (f i).q).length = len := by simp
    have hn : ∀ i, i < len → nq ((List.range len).map fun i => (f i).q) i = (f i).q := fun i hi => by
      rw [nq_get _ _ (by simpa using hi)]
      simp
    refine ⟨some a, cap, (List.range len).map fun i => (f i).q, by rw [hlen]; exact hcs, ⟨by
      rw [hlen]
      have := hw (((List.range len).map D).length * 24 + ((List.range (cap - len)).map fun j => D (len + j)).length * 24) (by
        rw [hd]
        simp [DataW.weights, Try.underlying22, bytes_sl, Nat.add_mul])
      simp only [List.length_map, List.length_range, reachBytes] at this
      omega, fun i => by
      by_cases hi : i < len
      · rw [hn i hi]
        exact (hfs i hi).2.2.2.2
      · rw [nq_out _ _ (by rw [hlen]; omega)]
        simp⟩, fun h0 => ?_⟩
    rw [hlen] at h0
    obtain ⟨b, off, spot⟩ := a
    have hc0 := (hfs 0 (by omega)).1
    have hspot : spot = none := by simpa [Addr.add] using World.cell?_spot hc0
    subst hspot
    refine ⟨b, off, rfl, World.block_lt_of_cell? W _ (by simpa [add_form] using hc0), fun i hi => ?_⟩
    rw [hlen] at hi
    obtain ⟨k0, k1, k2, k3, _⟩ := hfs i hi
    rw [add_form] at k0
    rw [hn i hi]
    exact ⟨(f i).A, (f i).c, k0, k1, k2, k3⟩
/-- a law's queues -/
theorem open_grey {r : Reach} {b0 : Nat} {v : Value} {d : DataW H} {p : List MemPlace} (hv : Value.okWide Try.prog W r b0 24 v) (h : DataW.Trod enc Try.prog W 0 (fun _ => true) true 24 v d p) (hw : ∀ x ∈ d.weights Try.prog 24, x ≤ reachBytes) :
    ∃ (A : Option Addr) (cap : Nat) (qs : List (List Nat)), v = .agg #[.slice A qs.length cap] ∧ GRow W A qs := by
  obtain ⟨cs, rfl, hsz⟩ := okWide_struct Try.underlying24 hv
  rw [cells_grey] at hsz
  obtain ⟨l⟩ := cs
  match l, hsz with
  | [c0], _ =>
    obtain ⟨fuel, hf⟩ := h
    obtain ⟨xs, n, _, hx, hl, hlen, hff⟩ := DataW.trod_struct Try.underlying24 hf
    match xs, hlen with
    | [y0], _ =>
      simp only [Prod.mk.injEq] at hx
      obtain ⟨rfl, rfl⟩ := hx
      have h0 := hff 0 _ rfl
      have h1 : DataW.trod enc Try.prog W 0 (fun _ => true) true n 22 [c0] = some y0 := by simpa [Value.cells, cells_sls] using h0
      obtain ⟨A, cap, qs, rfl, hr⟩ := open_queues h1 (fun x hx => hw x (by
        simp only [DataW.weights, Try.underlying24]
        simp only [DataW.weightsEach, List.map_cons, List.map_nil, List.mem_append]
        exact .inl hx))
      exact ⟨A, cap, qs, rfl, hr⟩
end
end Go.Proofs.Ytlaladhnidcoiaa
