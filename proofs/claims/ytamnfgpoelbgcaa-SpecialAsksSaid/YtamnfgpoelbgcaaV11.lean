/- Contracts: slices.Insert where there is no room: a new row. -/
import Derived.Test.YtamnfgpoelbgcaaV10
namespace Go.Proofs.Ytamnfgpoelbgcaa
open Go.RowKit
set_option linter.unusedVariables false
set_option linter.unusedSimpArgs false

section
variable {w : World} {A : Option Addr} {l : List Sc} (cap : Nat)
set_option maxHeartbeats 4000000 in
set_option maxRecDepth 100000 in
theorem cinsert_grow {B xb i g : Nat} (s : Sc) (hA : A = some ⟨g, 0, none⟩) (ho : OwnsC w B (.slice A l.length cap) l) (hB : B ≤ w.heap.size) (h64 : l.length ≤ 1000000) (hil : i < l.length) (hx : w.heap[xb]? = some (.cells #[.int .u64 s.a, .int .u8 s.k, .int .u64 s.t] 41 (0, 0))) (hroom : ¬ l.length + 1 ≤ cap) :
    Calls Try.prog 24 #[.slice A l.length cap, .int .i64 (i : Nat), .slice (some ⟨xb, 0, none⟩) 1 1] w fun e w' => InsC w B A l i s e w' := by
  obtain ⟨i0, hi, hz0, hz1, hz2⟩ := info_parts info_sc
  subst hA
  unfold InsC
  obtain ⟨hlen, ⟨h1, _⟩ | ⟨g', cap', cur, e, hBg, hg, hc, hmx, hcs, htk⟩⟩ := id ho
  · cases h1
  injection e with e1 e2 e3
  injection e1 with e1
  injection e1 with e1
  subst e1 e3
  have hglt : g < w.heap.size := heap_lt hg
  have hxlt : xb < w.heap.size := heap_lt hx
  obtain rfl : cap = l.length := by omega
  have hsz : (Try.prog.info? 41).map (·.size) = some 3 := by rw [hi]; simp [hz1]
  have hQl : (flat (l.drop i)).length = (l.length - i) * 3 := by rw [length_flat, List.length_drop]
  have hPl : (flat (l.take i)).length = i * 3 := by rw [length_flat, List.length_take]; omega
  have hPc : ∀ j v, (flat (l.take i))[j]? = some v → w.cell? ⟨g, j, none⟩ = some v := fun j v hv => by
    refine owns_cell (B := B) (cap := l.length) hg htk j v ?_
    rw [← flat_take, List.getElem?_take] at hv
    split at hv
    · exact hv
    · cases hv
  have hcell : ∀ j v, (flat (l.drop i))[j]? = some v → w.cell? ⟨g, i * 3 + j, none⟩ = some v := fun j v hv => by
    refine owns_cell (B := B) (cap := l.length) hg htk (i * 3 + j) v ?_
    rw [← flat_drop, List.getElem?_drop] at hv
    exact hv
  have hxc : ∀ j v, (scc s)[j]? = some v → w.cell? ⟨xb, 0 + j, none⟩ = some v := fun j v hv => by
    rw [Nat.zero_add, cell_of_row w xb j _ _ _ hx, ← hv]
    simp [scc]
  have hold : (Builtin.firstCells i0.size i (.slice (some ⟨g, 0, none⟩) i l.length)).run Try.prog w.drew = .ok (flat (l.take i)).toArray w.drew := by
    rw [hz1]
    exact run_firstCells_some w.drew 3 i ⟨g, 0, none⟩ i l.length (flat (l.take i)) (by rw [hPl]) (fun j v hj => by rw [add_form, Nat.zero_add]; exact hPc j v hj)
  have hkk : (l.length : Int) + 1 - (i : Int) = ((l.length + 1 - i : Nat) : Int) := by omega
  have hik : i + (l.length + 1 - i) = l.length + 1 := by omega
  obtain ⟨G, hG⟩ : ∃ G, G = grownCap w (l.length + 1) l.length 41 := ⟨_, rfl⟩
  obtain ⟨Z, hZ⟩ : ∃ Z : List Value, Z = (Builtin.zeroCells (Value.agg #[.int .u64 0, .int .u8 0, .int .u64 0]).cells (l.length + 1 - i) ++ Builtin.zeroCells (Value.agg #[.int .u64 0, .int .u8 0, .int .u64 0]).cells (G - (l.length + 1))).toList := ⟨_, rfl⟩
  have hrz : ∀ ty, (Builtin.append_ #[22, 3] ty #[.slice (some ⟨g, 0, none⟩) i l.length, .int .i64 ((l.length : Int) + 1 - (i : Int))]).run Try.prog w =
      .ok (.slice (some ⟨w.heap.size, 0, none⟩) (l.length + 1) G) (w.drew.alloc (.cells (flat (l.take i) ++ Z).toArray 41)) := fun ty => by
    have h := Lib.run_append_grow_zeros w 22 3 ty 41 i0 _ .i64 .i64 Try.underlying22 Try.underlying3 hi hz0 (some ⟨g, 0, none⟩) i l.length (flat (l.take i)) hold (l.length + 1 - i) (by omega) (by omega) (by omega) (by omega) (by rw [hz2]; omega) (by rw [hz2, hik]; exact growslice_fits (by omega) (by omega))
    rw [hik, ← hG] at h
    rw [hkk, h]
    congr 3
    apply Array.ext'
    rw [hZ]
    simp
  have hGn : l.length + 1 ≤ G := by rw [hG]; exact grownCap_ge w _ _ _
  have hGm : G ≤ maxLen := by rw [hG]; exact grownCap_le_maxLen w (l.length + 1) l.length 41 (by unfold maxLen; omega)
  have hG63 : (G : Int) ≤ 9223372036854775807 := by unfold maxLen at hGm; omega
  have hZl : Z.length = (G - i) * 3 := by
    rw [hZ]
    simp only [Array.length_toList, Array.size_append, size_zeroCells]
    show (l.length + 1 - i) * 3 + (G - (l.length + 1)) * 3 = _
    omega
  have hsp := splice_mid (flat (l.take i)) (scc s) (flat (l.drop i)) Z (by rw [show (scc s).length = 3 from rfl, hQl, hZl]; omega)
  have hfin : Hid ((splice (splice (flat (l.take i) ++ Z) (i * 3) (scc s)) ((i + 1) * 3) (flat (l.drop i))).take ((l.length + 1) * 3) = flat (l.take i ++ s :: l.drop i) ∧ (splice (splice (flat (l.take i) ++ Z) (i * 3) (scc s)) ((i + 1) * 3) (flat (l.drop i))).length = G * 3) := Lib.hid (by
    rw [show (scc s).length = 3 from rfl, hQl, hPl, show i * 3 + 3 = (i + 1) * 3 by omega, show (i + 1) * 3 + (l.length - i) * 3 = (l.length + 1) * 3 by omega] at hsp
    refine ⟨by rw [hsp.1, flat_ins], by rw [hsp.2, hZl]; omega⟩)
  have hcl : (flat (l.take i) ++ Z).length = G * 3 := by rw [List.length_append, hPl, hZl]; omega
  have hfit1 : i * 3 + (scc s).length ≤ (flat (l.take i) ++ Z).length := by rw [hcl, show (scc s).length = 3 from rfl]; omega
  have hfit2 : (i + 1) * 3 + (flat (l.drop i)).length ≤ (splice (flat (l.take i) ++ Z) (i * 3) (scc s)).length := by
    rw [length_splice _ _ _ hfit1, hcl, hQl]
    omega
  have hf1 := flat_one (l.drop i)
  have hs1 := scc_one s
  have hs3 : (scc s).length = 1 * 3 := rfl
  have hw1 : IntKind.i64.wrap ((i : Int) + 1) = (i : Int) + 1 := by rw [IntKind.wrap_i64]; omega
  have hb1 : (0 : Int) ≤ (i : Int) + 1 := by omega
  have hin : i ≤ l.length := by omega
  have htn : ((i : Int) + 1).toNat = i + 1 := by omega
  have hb3 : (i : Int) ≤ (l.length : Int) := by omega
  have hb5 : ¬ ((i : Int) = (l.length : Int)) := by omega
  have hb6 : (l.length : Int) < (l.length : Int) + 1 := by omega
  have hGi : ¬ (G = i) := by omega
  have hGim : ¬ (G = i + 1) := by omega
  have hci : ¬ (l.length = i) := by omega
  clear hkk hik hold hG hZ hsp hlen htk hPl hPc hZl
  generalize hX : scc s = X at *
  generalize hQ : flat (l.drop i) = Q at *
  generalize hP : flat (l.take i) ++ Z = cu at *
  clear hX hQ hP
  obtain ⟨W1, hW1⟩ : ∃ W1, Hid (W1 = w.drew.alloc (.cells cu.toArray 41)) := ⟨_, rfl⟩
  rw [← hW1.out] at hrz
  have hN : W1.heap[w.heap.size]? = some (.cells cu.toArray 41 (0, 0)) := by rw [hW1.out]; exact heap_alloc_new w.drew _
  have hWsz : W1.heap.size = w.heap.size + 1 := by rw [hW1.out]; simp
  have hold1 : ∀ b j v, w.cell? ⟨b, j, none⟩ = some v → W1.cell? ⟨b, j, none⟩ = some v := fun b j v h => by
    rw [hW1.out]
    exact (World.cell?_alloc_lt w.drew _ ⟨b, j, none⟩ (World.block_lt_of_cell? w _ h)).trans h
  have hb_W1 : Below w.heap.size w W1 := by rw [hW1.out]; exact ((Below.refl _ _).drew).alloc (by simp) _
  have hHW := Lib.hid hWsz
  clear hWsz
  go_enter Try.func24, Try.ntmps24
  go_wp2_with (first
    | (at_builtin; refine Lib.wpList_append_run _ rfl _ _ _ _ rfl _ _ rfl rfl _ _ (hrz _) ?_)
    | (refine wpList_copyk ?_ (.tmp 43) (.tmp 44) 22 22 ?_ 41 Try.underlying22 3 hsz w.heap.size (i * 3) (i * 3) (l.length + 1 - i) (G - i) xb 0 0 1 1 ?_ ?_ rfl rfl cu 41 hN 1 (by show _ = min _ _; omega) X hs3 (fun j v hv => hold1 _ _ _ (hxc j v hv)) ?_ hs1 ?_; rfl; rfl; rfl; rfl; (exact hfit1); intro w3 hg3 hgr3))
  have hQ3 : ∀ j v, Q[j]? = some v → w3.drew.cell? ⟨g, i * 3 + j, none⟩ = some v := fun j v hv => show w3.cell? _ = _ from hgr3.cell (hold1 _ _ _ (hcell j v hv)) (by simp; omega)
  go_region_law (refine step_copyk rfl (.tmp 50) (.tmp 53) 22 22 rfl 41 Try.underlying22 3 hsz w.heap.size ((i + 1) * 3) ((i + 1) * 3) (l.length + 1 - (i + 1)) (G - (i + 1)) g (i * 3) (i * 3) (l.length - i) (l.length - i) (by simp [Act.eval, Act.put]) (by simp [Act.eval, Act.put]) rfl rfl (splice cu (i * 3) X) 41 (by exact hg3.out) (l.length - i) (by show _ = min _ _; omega) Q hQl hQ3 hfit2 hf1 ?_; intro w4 hg4 hgr4)
  go_wp2
  go_ret
  have b3 : Below w.heap.size w w3 := hb_W1.grown hgr3 (by rw [hHW.out]; omega) (fun k hk => by injection hk with hk; omega)
  have b4 : Below w.heap.size w w4 := b3.drew.grown hgr4 (by have := hgr3.size; have := hHW.out; show w.heap.size ≤ w3.heap.size; omega) (fun k hk => by injection hk with hk; omega)
  refine ⟨some ⟨w.heap.size, 0, none⟩, G, rfl, ?_, ⟨b4.os, b4.tape, b4.output, b4.size, fun k hk _ => b4.block k hk⟩⟩
  refine ⟨?_, .inr ⟨w.heap.size, G, _, rfl, hB, hg4.out, hGn, hGm, ?_, ?_⟩⟩
  · rw [length_flat]
    simp only [List.length_append, List.length_take, List.length_cons, List.length_drop]
    omega
  · rw [List.size_toArray]; exact hfin.out.2
  · exact hfin.out.1
theorem cinsert_any {B xb i : Nat} (s : Sc) (ho : OwnsC w B (.slice A l.length cap) l) (hB : B ≤ w.heap.size) (h64 : l.length ≤ 1000000) (hil : i ≤ l.length) (hx : w.heap[xb]? = some (.cells #[.int .u64 s.a, .int .u8 s.k, .int .u64 s.t] 41 (0, 0))) (hne : ∀ g, A = some ⟨g, 0, none⟩ → g ≠ xb) :
    Calls Try.prog 24 #[.slice A l.length cap, .int .i64 (i : Nat), .slice (some ⟨xb, 0, none⟩) 1 1] w fun e w' => InsC w B A l i s e w' := by
  by_cases h : i = l.length
  · subst h
    refine cinsert_end cap s ho hB h64 ?_
    constructor <;> rw [cell_of_row w xb _ _ _ _ hx] <;> rfl
  · obtain ⟨_, ⟨h1, h2⟩ | ⟨g, cap', cur, e, _⟩⟩ := id ho
    · omega
    · injection e with e1 _ _
      by_cases hr : l.length + 1 ≤ cap
      · exact cinsert_room cap s e1 ho hB h64 (by omega) hx (hne g e1) hr
      · exact cinsert_grow cap s e1 ho hB h64 (by omega) hx hr
end
end Go.Proofs.Ytamnfgpoelbgcaa
