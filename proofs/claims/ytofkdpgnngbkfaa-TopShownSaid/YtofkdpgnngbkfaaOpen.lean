/- What an argument of a law reads as: bits that came in. -/
import Derived.Test.YtofkdpgnngbkfaaAgree
import Derived.ProofKit
import Derived.OpenShut
import Derived.ShutString
import Derived.ChangeOld
import Derived.SizedLaws
import Derived.Lib.SmallJoins
namespace Go.Proofs.Ytofkdpgnngbkfaa
open Go.ChangeShapes Go.WideShapes Go.ChangeAt Go.RowKit Go.Joins
set_option linter.unusedVariables false
set_option linter.unusedSimpArgs false

theorem own : ownKnob Try.prog.godebug = none := by kernel_rfl
theorem laidOut : laidOutB Try.prog = true := by kernel_rfl
theorem cells_bits : Try.prog.cellsOf 37 = 2 := by kernel_rfl
theorem cells_u64 : Try.prog.cellsOf 25 = 1 := by kernel_rfl
theorem bytes_u64 : Try.prog.bytesOf 25 = 8 := by kernel_rfl

theorem words_of {zs : List Int} (h : ∀ n ∈ zs, (Lit.int .u64 n).wf = true) (len : Nat) (hl : len ≤ zs.length) :
    ((zs.take len).map Int.toNat).length = len ∧ Words ((zs.take len).map Int.toNat) ∧ ∀ i, i < len → ((((zs.take len).map Int.toNat).getD i 0 : Nat) : Int) = zs.getD i 0 := by
  have hb : ∀ n ∈ zs, 0 ≤ n ∧ n < 18446744073709551616 := fun n hn => by
    have := bounds_u64 (h n hn)
    omega
  refine ⟨by rw [List.length_map, List.length_take]; omega, fun x hx => ?_, fun i hi => ?_⟩
  · rw [List.mem_map] at hx
    obtain ⟨y, hy, rfl⟩ := hx
    have := hb y (List.mem_of_mem_take hy)
    unfold W64
    omega
  · have hz : i < zs.length := by omega
    have := hb zs[i] (List.getElem_mem hz)
    simp only [List.getD_eq_getElem?_getD, List.getElem?_map, List.getElem?_take, hi, if_true, List.getElem?_eq_getElem hz, Option.map_some, Option.getD_some]
    omega

section
variable {H : Type} {enc : TypeId × Value → H} {W : World}
/-- a slice of words that came in -/
theorem open_words {fuel : Nat} {v : Value} {y : DataW H × List MemPlace} (h : DataW.trod enc Try.prog W 0 (fun _ => true) true fuel 22 [v] = some y) (hw : ∀ x ∈ y.1.weights Try.prog 22, x ≤ reachBytes) :
    ∃ (A : Option Addr) (cap : Nat) (ws : List Nat), v = .slice A ws.length cap ∧ Row W W.heap.size A ws ∧ ws.length ≤ 17592186044416 := by
  rcases open_ints Try.underlying22 Try.underlying25 cells_u64 h with ⟨hcs, hx⟩ | ⟨a, l, c, zs, hcs, _, hl, hm, hz, hx, hcell, hwz⟩
  · injection hcs with hcs
    exact ⟨none, 0, [], hcs, ⟨fun x hx => by simp at hx, fun h => by simp at h⟩, Nat.zero_le _⟩
  · injection hcs with hcs
    simp only [if_true] at hz
    obtain ⟨g1, g2, g3⟩ := words_of hwz l (by omega)
    refine ⟨some a, c, (zs.take l).map Int.toNat, by rw [g1]; exact hcs, ⟨g2, fun h0 => ?_⟩, ?_⟩
    · rw [g1] at h0
      obtain ⟨b, off, spot⟩ := a
      have hc0 := hcell 0 (by omega)
      have hspot : spot = none := by simpa [Addr.add] using World.cell?_spot hc0
      subst hspot
      have hlt := World.block_lt_of_cell? W _ hc0
      refine ⟨b, off, rfl, by simpa [Addr.add] using hlt, fun i hi => ?_⟩
      rw [g1] at hi
      have := hcell i (by omega)
      rw [add_form] at this
      rw [this, g3 i hi]
    · rw [g1]
      have hz2 : (lits .u64 (zs.take l) : List (DataW H)).length + (lits .u64 (zs.drop l) : List (DataW H)).length = zs.length := by
        simp [lits]; omega
      have := hw (((lits .u64 (zs.take l) : List (DataW H)).length + (lits .u64 (zs.drop l) : List (DataW H)).length) * Try.prog.bytesOf 25) (by rw [hx]; simp [DataW.weights, Try.underlying22])
      rw [hz2, bytes_u64] at this
      simp only [reachBytes] at this
      omega
/-- bits that came in -/
theorem open_bits {r : Reach} {b0 : Nat} {v : Value} {d : DataW H} {p : List MemPlace} (hv : Value.okWide Try.prog W r b0 37 v) (h : DataW.Trod enc Try.prog W 0 (fun _ => true) true 37 v d p) (hw : ∀ x ∈ d.weights Try.prog 37, x ≤ reachBytes) :
    ∃ (n : Int) (A : Option Addr) (cap : Nat) (ws : List Nat), v = .agg #[.int .i64 n, .slice A ws.length cap] ∧ Row W W.heap.size A ws ∧ ws.length ≤ 17592186044416 := by
  obtain ⟨c0, c1, y0, y1, m, rfl, rfl, rfl, hy0, hy1⟩ := open_agg2 Try.underlying37 (by kernel_rfl) cells_bits hv h
  obtain ⟨n, e0, _, _⟩ := DataW.trod_int Try.underlying3 hy0
  injection e0 with e0
  subst e0
  obtain ⟨A, cap, ws, rfl, hr, hl⟩ := open_words hy1 (fun x hx => hw x (by
    simp only [DataW.weights, Try.underlying37]
    simp only [DataW.weightsEach, List.map_cons, List.map_nil, List.mem_append]
    exact .inr (.inl hx)))
  exact ⟨n, A, cap, ws, rfl, hr, hl⟩
end
end Go.Proofs.Ytofkdpgnngbkfaa
