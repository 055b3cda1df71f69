/- What an argument of a law reads as: pages that came in. -/
import Derived.Test.YtcokfdgbgeeabaaAgree
import Derived.ProofKit
import Derived.OpenShut
import Derived.ShutString
import Derived.ChangeOld
import Derived.SizedLaws
import Derived.Lib.SmallJoins
namespace Go.Proofs.Ytcokfdgbgeeabaa
open Go.ChangeShapes Go.WideShapes Go.ChangeAt Go.RowKit Go.Joins
set_option linter.unusedVariables false
set_option linter.unusedSimpArgs false

theorem own : ownKnob Try.prog.godebug = none := by kernel_rfl
theorem laidOut : laidOutB Try.prog = true := by kernel_rfl
theorem cells_bits : Try.prog.cellsOf 24 = 2 := by kernel_rfl
theorem cells_pages : Try.prog.cellsOf 26 = 2 := by kernel_rfl
theorem cells_sl : Try.prog.cellsOf 22 = 1 := by kernel_rfl
theorem cells_int : Try.prog.cellsOf 3 = 1 := by kernel_rfl
theorem cells_u64 : Try.prog.cellsOf 42 = 1 := by kernel_rfl
theorem bytes_u64 : Try.prog.bytesOf 42 = 8 := by kernel_rfl

theorem words_of {zs : List Int} (h : ∀ n ∈ zs, (Lit.int .u64 n).wf = true) (len : Nat) (hl : len ≤ zs.length) :
    ((zs.take len).map Int.toNat).length = len ∧ Words ((zs.take len).map Int.toNat) ∧ ∀ i, i < len → ((((zs.take len).map Int.toNat).getD i 0 : Nat) : Int) = zs.getD i 0 := by
  have hb : ∀ n ∈ zs, 0 ≤ n ∧ n < 18446744073709551616 := fun n hn => by
    have := bounds_u64 (h n hn)
    omega
  refine ⟨by rw [List.length_map, List.length_take]; omega, fun x hx => ?_, fun i hi => ?_⟩
  · rw [List.mem_map] at hx
    obtain ⟨y, hy, rfl⟩ := hx
    have := hb y (List.mem_of_mem_take hy)
    unfold W64
    omega
  · have hz : i < zs.length := by omega
    have := hb zs[i] (List.getElem_mem hz)
    simp only [List.getD_eq_getElem?_getD, List.getElem?_map, List.getElem?_take, hi, if_true, List.getElem?_eq_getElem hz, Option.map_some, Option.getD_some]
    omega

section
variable {H : Type} {enc : TypeId × Value → H} {W : World}
/-- a slice of words that came in -/
theorem open_words {fuel : Nat} {v : Value} {y : DataW H × List MemPlace} (h : DataW.trod enc Try.prog W 0 (fun _ => true) true fuel 22 [v] = some y) (hw : ∀ x ∈ y.1.weights Try.prog 22, x ≤ reachBytes) :
    ∃ (A : Option Addr) (cap : Nat) (ws : List Nat), v = .slice A ws.length cap ∧ Row W W.heap.size A ws ∧ ws.length ≤ 17592186044416 := by
  rcases open_ints Try.underlying22 Try.underlying42 cells_u64 h with ⟨hcs, hx⟩ | ⟨a, l, c, zs, hcs, _, hl, hm, hz, hx, hcell, hwz⟩
  · injection hcs with hcs
    exact ⟨none, 0, [], hcs, ⟨fun x hx => by simp at hx, fun h => by simp at h⟩, Nat.zero_le _⟩
  · injection hcs with hcs
    simp only [if_true] at hz
    obtain ⟨g1, g2, g3⟩ := words_of hwz l (by omega)
    refine ⟨some a, c, (zs.take l).map Int.toNat, by rw [g1]; exact hcs, ⟨g2, fun h0 => ?_⟩, ?_⟩
    · rw [g1] at h0
      obtain ⟨b, off, spot⟩ := a
      have hc0 := hcell 0 (by omega)
      have hspot : spot = none := by simpa [Addr.add] using World.cell?_spot hc0
      subst hspot
      have hlt := World.block_lt_of_cell? W _ hc0
      refine ⟨b, off, rfl, by simpa [Addr.add] using hlt, fun i hi => ?_⟩
      rw [g1] at hi
      have := hcell i (by omega)
      rw [add_form] at this
      rw [this, g3 i hi]
    · rw [g1]
      have hz2 : (lits .u64 (zs.take l) : List (DataW H)).length + (lits .u64 (zs.drop l) : List (DataW H)).length = zs.length := by
        simp [lits]; omega
      have := hw (((lits .u64 (zs.take l) : List (DataW H)).length + (lits .u64 (zs.drop l) : List (DataW H)).length) * Try.prog.bytesOf 42) (by rw [hx]; simp [DataW.weights, Try.underlying22])
      rw [hz2, bytes_u64] at this
      simp only [reachBytes] at this
      omega
/-- pages that came in -/
theorem open_pages {r : Reach} {b0 : Nat} {v : Value} {d : DataW H} {p : List MemPlace} (hv : Value.okWide Try.prog W r b0 26 v) (h : DataW.Trod enc Try.prog W 0 (fun _ => true) true 26 v d p) (hw : ∀ x ∈ d.weights Try.prog 26, x ≤ reachBytes) :
    ∃ (n : Int) (A : Option Addr) (cap : Nat) (ws : List Nat), v = .agg #[.int .i64 n, .slice A ws.length cap] ∧ Row W W.heap.size A ws ∧ ws.length ≤ 17592186044416 := by
  obtain ⟨cs, rfl, hsz⟩ := okWide_struct Try.underlying26 hv
  rw [cells_pages] at hsz
  obtain ⟨l⟩ := cs
  match l, hsz with
  | [c0, c1], _ =>
    obtain ⟨fuel, hf⟩ := h
    obtain ⟨xs, n, _, hx, hl, hlen, hff⟩ := DataW.trod_struct Try.underlying26 hf
    match xs, hlen with
    | [y0], _ =>
      simp only [Prod.mk.injEq] at hx
      obtain ⟨rfl, rfl⟩ := hx
      have h0 := hff 0 _ rfl
      have h1 : DataW.trod enc Try.prog W 0 (fun _ => true) true n 24 [c0, c1] = some y0 := by simpa [Value.cells, cells_bits] using h0
      obtain ⟨xs', n', _, hx', hl', hlen', hff'⟩ := DataW.trod_struct Try.underlying24 h1
      match xs', hlen' with
      | [z0, z1], _ =>
        have g0 := hff' 0 _ rfl
        have g1 := hff' 1 _ rfl
        have g0' : DataW.trod enc Try.prog W 0 (fun _ => true) true n' 3 [c0] = some z0 := by simpa [Value.cells, cells_int] using g0
        have g1' : DataW.trod enc Try.prog W 0 (fun _ => true) true n' 22 [c1] = some z1 := by simpa [Value.cells, cells_sl, cells_int] using g1
        obtain ⟨m, e0, _, _⟩ := DataW.trod_int Try.underlying3 g0'
        injection e0 with e0
        subst e0
        subst hx'
        obtain ⟨A, cap, ws, rfl, hr, hl⟩ := open_words g1' (fun x hx => hw x (by
          simp only [DataW.weights, Try.underlying26, Try.underlying24, DataW.weightsEach, List.map_cons, List.map_nil, List.mem_append]
          exact .inl (.inr (.inl hx))))
        exact ⟨m, A, cap, ws, rfl, hr, hl⟩
end
end Go.Proofs.Ytcokfdgbgeeabaa
