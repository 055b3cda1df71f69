/- Where instructions go: their places in order; contracts of slices.Sort, Compact, BinarySearch, package asm: goalsOf, label, labelLine. -/
import Derived.Test.YtggaijdbaplfiaaGreatDoorAs12
import Derived.Lib.OwnBridge
namespace Go.Proofs.YtggaijdbaplfiaaGreatDoor
open Go.RowKit
set_option linter.unusedVariables false
set_option linter.unusedSimpArgs false
theorem get_le (zs : List Int) (hs : zs.Pairwise (· ≤ ·)) (i j : Nat) (hij : i ≤ j) (hj : j < zs.length) : zs.toArray[i]! ≤ zs.toArray[j]! := by
  have h1 : zs.toArray[i]! = zs[i] := by simp [show i < zs.length by omega]
  have h2 : zs.toArray[j]! = zs[j] := by simp [hj]
  rw [h1, h2]
  rcases Nat.eq_or_lt_of_le hij with rfl | h
  · exact Int.le_refl _
  · exact List.pairwise_iff_getElem.1 hs i j (by omega) hj h
theorem compactUp_spec (zs : List Int) (hs : zs.Pairwise (· ≤ ·)) : ∀ m, m ≤ zs.length → (∀ x, x ∈ Lib.compactUpTo zs.toArray m ↔ ∃ j, j < m ∧ zs.toArray[j]! = x) ∧ (Lib.compactUpTo zs.toArray m).Pairwise (· < ·)
  | 0, _ => ⟨fun x => by simp [Lib.compactUpTo], by simp [Lib.compactUpTo]⟩
  | m + 1, hm => by
    obtain ⟨h1, h2⟩ := compactUp_spec zs hs m (by omega)
    rw [Lib.compactUpTo_succ]
    cases hk : Lib.keeps zs.toArray m with
    | true =>
      rw [if_pos rfl]
      have hk' : m = 0 ∨ zs.toArray[m]! ≠ zs.toArray[m - 1]! := by
        unfold Lib.keeps at hk
        exact of_decide_eq_true hk
      refine ⟨fun x => ?_, ?_⟩
      · rw [List.mem_append, List.mem_singleton, h1]
        constructor
        · rintro (⟨j, hj, e⟩ | rfl)
          · exact ⟨j, by omega, e⟩
          · exact ⟨m, by omega, rfl⟩
        · rintro ⟨j, hj, e⟩
          by_cases hjm : j = m
          · right; rw [← e, hjm]
          · left; exact ⟨j, by omega, e⟩
      · rw [List.pairwise_append]
        refine ⟨h2, by simp, fun a ha b hb => ?_⟩
        rw [List.mem_singleton] at hb
        subst hb
        obtain ⟨j, hj, e⟩ := (h1 a).1 ha
        have q1 := get_le zs hs j (m - 1) (by omega) (by omega)
        have q2 := get_le zs hs (m - 1) m (by omega) (by omega)
        rcases hk' with h0 | h0
        · omega
        · rw [← e]; omega
    | false =>
      rw [if_neg (by simp), List.append_nil]
      have hk' : ¬ (m = 0 ∨ zs.toArray[m]! ≠ zs.toArray[m - 1]!) := by
        unfold Lib.keeps at hk
        exact of_decide_eq_false hk
      rw [not_or, Decidable.not_not] at hk'
      refine ⟨fun x => ?_, h2⟩
      rw [h1]
      constructor
      · rintro ⟨j, hj, e⟩; exact ⟨j, by omega, e⟩
      · rintro ⟨j, hj, e⟩
        by_cases hjm : j = m
        · exact ⟨m - 1, by omega, by rw [← e, hjm, hk'.2]⟩
        · exact ⟨j, by omega, e⟩
theorem sorted_ms (zs : List Int) : (zs.mergeSort fun x y => decide (x ≤ y)).Pairwise (· ≤ ·) := by
  have := List.pairwise_mergeSort (le := fun (x y : Int) => decide (x ≤ y)) (fun a b c h1 h2 => by simp at *; omega) (fun a b => by simp; omega) zs
  exact this.imp fun h => by simpa using h
theorem goalsL_mem (l : List In) (p : Int) : p ∈ goalsL l ↔ p ∈ tosL l := by
  unfold goalsL Lib.compact
  rw [(compactUp_spec _ (sorted_ms (tosL l)) _ (Nat.le_refl _)).1 p]
  rw [← List.mem_mergeSort (le := fun (x y : Int) => decide (x ≤ y))]
  constructor
  · rintro ⟨j, hj, e⟩
    rw [← e]
    simp only [List.getElem!_toArray]
    rw [getElem!_pos _ j hj]
    exact List.getElem_mem hj
  · intro h
    obtain ⟨j, hj, e⟩ := List.getElem_of_mem h
    exact ⟨j, hj, by simp only [List.getElem!_toArray]; rw [getElem!_pos _ j hj]; exact e⟩
theorem nil_c : Lib.compact (([] : List Int).mergeSort fun x y => decide (x ≤ y)) = [] := by simp [Lib.compact, Lib.compactUpTo]
theorem goalsL_lt (l : List In) : (goalsL l).Pairwise (· < ·) := (compactUp_spec _ (sorted_ms (tosL l)) _ (Nat.le_refl _)).2
theorem compact_len (zs : List Int) : (Lib.compact zs).length ≤ zs.length := by
  unfold Lib.compact Lib.compactUpTo
  rw [List.length_map]
  exact Nat.le_trans (List.length_filter_le _ _) (by simp)
theorem goalsL_len (l : List In) : (goalsL l).length ≤ l.length := by
  unfold goalsL
  refine Nat.le_trans (compact_len _) ?_
  rw [List.length_mergeSort]
  unfold tosL
  rw [List.length_map]
  exact List.length_filter_le _ _
theorem tosL_next (l : List In) (k : Nat) (hk : k < l.length) : tosL (l.take (k + 1)) = tosL (l.take k) ++ if jumpsI (nthI l k) then [(nthI l k).to] else [] := by
  rw [take_nthI l k hk]
  unfold tosL
  rw [List.filter_append, List.map_append]
  congr 1
  cases h : jumpsI (nthI l k) <;> simp [h]
theorem tosL_len (l : List In) : (tosL l).length ≤ l.length := by
  unfold tosL
  rw [List.length_map]
  exact List.length_filter_le _ _
def JTo (l : List In) : Prop := ∀ x ∈ l, I63 x.to
/-- a row of places that the call has made, as its loads and stores want it -/
theorem holds_own {w : World} {B g cap n : Nat} {zs : List Int} (h : w.ownsRow B 3 1 (.slice (some ⟨g, 0, none⟩) n cap) n (ivals zs)) : Go.Sort.Holds (Value.int .i64) w g 0 zs.toArray := fun j hj => by
  have hj' : j < zs.length := by simpa using hj
  have hn : zs.length = n * 1 := by have := h.1; rwa [length_ivals] at this
  rw [Nat.zero_add]
  refine ⟨?_, h.frozenAt j⟩
  rw [h.cellAt j (by omega), ivals_at zs j hj']
  simp [hj']
theorem irow_holds {w : World} {g : Nat} {zs : List Int} (h : Go.Sort.Holds (Value.int .i64) w g 0 zs.toArray) (hw : ∀ x ∈ zs, I63 x) : IRow w w.heap.size (some ⟨g, 0, none⟩) zs :=
  ⟨hw, fun hl => ⟨g, 0, rfl, World.block_lt_of_cell? w _ (h 0 (by simpa using hl)).1, fun i hi => by
    rw [(h i (by simpa using hi)).1]
    simp [hi]⟩⟩
def SortedR (w : World) (B : Nat) (A : Option Addr) (zs : List Int) (e : Ending) (w' : World) : Prop := e = .returned (.tuple #[]) ∧ ((zs = [] ∧ w' = w) ∨ ∃ g, A = some ⟨g, 0, none⟩ ∧ B ≤ g ∧ g < w'.heap.size ∧ Go.Sort.Holds (Value.int .i64) w' g 0 (zs.mergeSort fun x y => decide (x ≤ y)).toArray) ∧ Below B w w'
section
variable {w : World}
theorem sort_any {A : Option Addr} {cap n : Nat} {zs : List Int} (B : Nat) (hn : zs.length = n) (hl : n ≤ 100000) (hBw : B ≤ w.heap.size) (how : w.ownsRow B 3 1 (.slice A n cap) n (ivals zs)) :
    Calls Tryz.prog 74 #[.slice A n cap] w fun e w' => SortedR w B A zs e w' := by
  subst hn
  unfold SortedR
  by_cases h0 : 0 < zs.length
  · obtain ⟨_, ⟨h1, h2⟩ | ⟨g, cap', cur, e, hB, hg, hc, _, hs, ht⟩⟩ := id how
    · omega
    · injection e with e1 e2 e3
      subst e1 e3
      have hlt : g < w.heap.size := heap_lt hg
      have hh := holds_own how
      refine (AnyM.slices_Sort_int L_sortG g 0 cap zs w hh hlt (by omega)).mono ?_
      rintro e w' ⟨rfl, n, os, rfl⟩
      have hh2 : Go.Sort.Holds (Value.int .i64) (Go.Sort.ahead w n) g 0 zs.toArray := hh
      have hp := Go.Sort.holds_putRow (Value.int .i64) (Go.Sort.ahead w n) g 0 zs.toArray (zs.mergeSort fun x y => decide (x ≤ y)).toArray hh2 (by simp)
      have hsz : (Go.Sort.putRow (Value.int .i64) (Go.Sort.ahead w n) g 0 (zs.mergeSort fun x y => decide (x ≤ y)).toArray).heap.size = w.heap.size := by simp [Go.Sort.putRow, Go.Sort.mapBlock, Go.Sort.ahead]
      refine ⟨rfl, .inr ⟨g, rfl, hB, ?_, Go.Sort.holds_grow _ _ _ _ _ _ (by rw [hsz]; exact hlt) hp⟩, ?_⟩
      · show g < (_ ++ os).size
        rw [Array.size_append, hsz]
        omega
      · have hb := Lib.below_putRow (enc := Value.int .i64) (q := n) (d := (zs.mergeSort fun x y => decide (x ≤ y)).toArray) (Below.refl B w) hB
        have hg2 := Lib.below_grow B (Go.Sort.putRow (Value.int .i64) (Go.Sort.ahead w n) g 0 (zs.mergeSort fun x y => decide (x ≤ y)).toArray) (by rw [hsz]; exact hBw) 0 os
        exact below_trans hb hg2 (Nat.le_refl _)
  · obtain rfl : zs = [] := List.eq_nil_of_length_eq_zero (by omega)
    refine (AnyM.slices_Sort_int_none L_sortG A cap w).mono ?_
    rintro e w' ⟨rfl, rfl⟩
    exact ⟨rfl, .inl ⟨rfl, rfl⟩, Below.refl _ _⟩
theorem compact_any {A : Option Addr} {cap n : Nat} {zs : List Int} (B : Nat) (hn : zs.length = n) (hl : n ≤ 100000) (hcap : n ≤ cap ∨ n = 0) (hw : ∀ x ∈ zs, I63 x) (hA : zs = [] ∨ ∃ g, A = some ⟨g, 0, none⟩ ∧ B ≤ g ∧ g < w.heap.size ∧ Go.Sort.Holds (Value.int .i64) w g 0 (zs.mergeSort fun x y => decide (x ≤ y)).toArray) :
    Calls Tryz.prog 75 #[.slice A n cap] w fun e w' => e = .returned (.slice A (Lib.compact (zs.mergeSort fun x y => decide (x ≤ y))).length cap) ∧ IRow w' w'.heap.size A (Lib.compact (zs.mergeSort fun x y => decide (x ≤ y))) ∧ Below B w w' := by
  subst hn
  rcases hA with rfl | ⟨g, rfl, hB, hlt, hh⟩
  · refine (AnyG.slices_Compact_int_empty L_compactG A cap w).mono ?_
    rintro e w' ⟨rfl, rfl⟩
    rw [nil_c]
    exact ⟨rfl, IRow.nil _ _ _, Below.refl _ _⟩
  · by_cases h0 : zs.length = 0
    · obtain rfl := List.eq_nil_of_length_eq_zero h0
      refine (AnyG.slices_Compact_int_empty L_compactG (some ⟨g, 0, none⟩) cap w).mono ?_
      rintro e w' ⟨rfl, rfl⟩
      rw [nil_c]
      exact ⟨rfl, IRow.nil _ _ _, Below.refl _ _⟩
    have hc : zs.length ≤ cap := by omega
    have hms : (zs.mergeSort fun x y => decide (x ≤ y)).length = zs.length := List.length_mergeSort _
    have hmw : ∀ x ∈ (zs.mergeSort fun x y => decide (x ≤ y)), I63 x := fun x hx => hw x (List.mem_mergeSort.1 hx)
    have hml := (compactUp_spec _ (sorted_ms zs) _ (Nat.le_refl _)).1
    rw [← hms]
    rw [← hms] at hc hl
    have hsm : ∀ x ∈ Lib.compact (zs.mergeSort fun x y => decide (x ≤ y)), I63 x := fun x hx => by
      obtain ⟨j, hj, e⟩ := (hml x).1 hx
      rw [← e]
      simp only [List.getElem!_toArray]
      rw [getElem!_pos _ j hj]
      exact hmw _ (List.getElem_mem hj)
    generalize (zs.mergeSort fun x y => decide (x ≤ y)) = ms at *
    have hcl := compact_len ms
    refine (AnyG.slices_Compact_int L_compactG g 0 cap ms w hh (by omega) hc).mono ?_
    rintro e w' ⟨rfl, q, rfl⟩
    have hh2 : Go.Sort.Holds (Value.int .i64) (Go.Sort.ahead w q) g 0 ms.toArray := hh
    have hp := Go.Sort.holds_putRow (Value.int .i64) (Go.Sort.ahead w q) g 0 ms.toArray (Lib.compact ms ++ List.replicate (ms.length - (Lib.compact ms).length) 0).toArray hh2 (by simp; omega)
    refine ⟨rfl, ⟨hsm, fun hl0 => ⟨g, 0, rfl, by simpa [Go.Sort.putRow, Go.Sort.mapBlock, Go.Sort.ahead] using hlt, fun i hi => ?_⟩⟩, Lib.below_putRow (Below.refl B w) hB⟩
    rw [(hp i (by simp; omega)).1]
    simp [hi, show i < (Lib.compact ms).length + (ms.length - (Lib.compact ms).length) by omega, List.getElem_append_left hi]
set_option maxRecDepth 100000 in
set_option maxHeartbeats 4000000 in
theorem search_none (A : Option Addr) (cap : Nat) (p : Int) : Calls Tryz.prog 77 #[.slice A 0 cap, .int .i64 p] w fun e w' => e = .returned (.tuple #[.int .i64 0, .bool false]) ∧ w' = w := by
  go_enter Tryz.func77, Tryz.ntmps77
  go_wp2_with fail
  go_loopw [7, 8] (fun ii jj wr => ii = .int .i64 0 ∧ jj = .int .i64 0 ∧ wr = w) (fun ii jj _ => 0)
  case atStart => exact ⟨rfl, rfl, rfl⟩
  case round =>
    obtain ⟨rfl, rfl, rfl⟩ := hrel
    go_wp2
    go_ret2
    exact ⟨rfl, rfl⟩
theorem search_any {A : Option Addr} {g : List Int} (cap : Nat) (hr : IRow w w.heap.size A g) (hs : g.Pairwise (· ≤ ·)) (hl : g.length ≤ 100000) (p : Int) : Calls Tryz.prog 77 #[.slice A g.length cap, .int .i64 p] w fun e w' => e = .returned (.tuple #[.int .i64 (g.countP (· < p) : Nat), .bool (g.contains p)]) ∧ Below w.heap.size w w' := by
  by_cases h0 : 0 < g.length
  · obtain ⟨b, off, rfl, hb, hc⟩ := hr.at_ h0
    have key := AnyG.slices_BinarySearch_int L_searchG b off g.length cap g p w (Nat.le_refl _) (by omega) hc (by rw [List.take_length]; exact hs)
    rw [List.take_length] at key
    refine Calls.mono key ?_
    rintro e w' ⟨rfl, q, rfl⟩
    exact ⟨rfl, (by repeat (first | exact Below.refl _ _ | assumption | (refine below_drewN ?_ _) | (refine Below.drew ?_) | (refine Below.alloc ?_ (by first | omega | (simp; omega) | simp) _) | (refine Below.setCell ?_ (by first | omega | (simp; omega) | simp) _) | (refine below_trans ?_ (by assumption) (by first | omega | (simp; omega) | simp))))⟩
  · obtain rfl : g = [] := List.eq_nil_of_length_eq_zero (by omega)
    refine (search_none A cap p).mono ?_
    rintro e w' ⟨rfl, rfl⟩
    exact ⟨rfl, Below.refl _ _⟩
set_option maxRecDepth 100000 in
set_option maxHeartbeats 4000000 in
theorem label_any {A : Option Addr} {g : List Int} (cap : Nat) (hr : IRow w w.heap.size A g) (hs : g.Pairwise (· ≤ ·)) (hl : g.length ≤ 100000) (p : Int) (hL : Lw w) : Calls Tryz.prog 47 #[.slice A g.length cap, .int .i64 p] w fun e w' => e = .returned (.string (bs (labG g p))) ∧ Below w.heap.size w w' := by
  have HS := Lib.hid fun (W : World) (h : IRow W W.heap.size A g) => search_any (w := W) cap h hs hl p
  have hcp : g.countP (· < p) ≤ g.length := List.countP_le_length
  have HI := Lib.hid fun (W : World) hL => itoa_nat (w := W) ((g.countP (· < p) : Nat) : Int) (by omega) (by omega) hL
  simp only [Int.toNat_natCast] at HI
  have hsz := digs_size (g.countP (· < p))
  have HW : Hid (bs (labG g p) = if g.contains p then ⟨#[76]⟩ ++ bs (digs (g.countP (· < p))) else bs []) := Lib.hid (by
    unfold labG
    split
    · rw [show (⟨#[76]⟩ : ByteArray) = bs [76] from rfl, bs_append]; rfl
    · rfl)
  clear hs
  generalize bs (labG g p) = RW at *
  generalize bs (digs (g.countP (· < p))) = D at *
  generalize g.countP (· < p) = N at *
  have z1 : ¬ (9223372036854775807 < 1 + D.size) := by omega
  cases hq : g.contains p with
  | true =>
    rw [hq] at HS
    have hw := HW.out
    rw [hq, if_pos rfl] at hw
    have HW2 := Lib.hid hw
    clear hw HW hq hcp hsz
    go_enter Tryz.func47, Tryz.ntmps47
    go_wp2_with fail
    go_at_call 77
    refine (HS.out _ (hr.later (by repeat (first | exact Below.refl _ _ | assumption | (refine below_drewN ?_ _) | (refine Below.drew ?_) | (refine Below.alloc ?_ (by first | omega | (simp; omega) | simp) _) | (refine Below.setCell ?_ (by first | omega | (simp; omega) | simp) _) | (refine below_trans ?_ (by assumption) (by first | omega | (simp; omega) | simp)))))).mono ?_
    rintro e w1 ⟨rfl, hb_w1⟩
    obtain ⟨hc_w1, hf_w1⟩ := bcell hb_w1; have hs_w1 := hb_w1.size; (try simp only [World.size_alloc, World.size_setCell, World.size_drew, World.heap_drewN] at hs_w1)
    go_wp2_with fail
    go_at_call 32
    refine (HI.out _ (hL.later (by repeat (first | exact Below.refl _ _ | assumption | (refine below_drewN ?_ _) | (refine Below.drew ?_) | (refine Below.alloc ?_ (by first | omega | (simp; omega) | simp) _) | (refine Below.setCell ?_ (by first | omega | (simp; omega) | simp) _) | (refine below_trans ?_ (by assumption) (by first | omega | (simp; omega) | simp)))))).mono ?_
    rintro e w2 ⟨rfl, hb_w2⟩
    obtain ⟨hc_w2, hf_w2⟩ := bcell hb_w2; have hs_w2 := hb_w2.size; (try simp only [World.size_alloc, World.size_setCell, World.size_drew, World.heap_drewN] at hs_w2)
    go_wp2
    go_ret
    rw [HW2.out]
    exact ⟨rfl, (by repeat (first | exact Below.refl _ _ | assumption | (refine below_drewN ?_ _) | (refine Below.drew ?_) | (refine Below.alloc ?_ (by first | omega | (simp; omega) | simp) _) | (refine Below.setCell ?_ (by first | omega | (simp; omega) | simp) _) | (refine below_trans ?_ (by assumption) (by first | omega | (simp; omega) | simp))))⟩
  | false =>
    rw [hq] at HS
    have hw := HW.out
    rw [hq, if_neg (by simp)] at hw
    have HW2 := Lib.hid hw
    clear hw HW hq hcp hsz
    go_enter Tryz.func47, Tryz.ntmps47
    go_wp2_with fail
    go_at_call 77
    refine (HS.out _ (hr.later (by repeat (first | exact Below.refl _ _ | assumption | (refine below_drewN ?_ _) | (refine Below.drew ?_) | (refine Below.alloc ?_ (by first | omega | (simp; omega) | simp) _) | (refine Below.setCell ?_ (by first | omega | (simp; omega) | simp) _) | (refine below_trans ?_ (by assumption) (by first | omega | (simp; omega) | simp)))))).mono ?_
    rintro e w1 ⟨rfl, hb_w1⟩
    obtain ⟨hc_w1, hf_w1⟩ := bcell hb_w1; have hs_w1 := hb_w1.size; (try simp only [World.size_alloc, World.size_setCell, World.size_drew, World.heap_drewN] at hs_w1)
    go_wp2
    go_ret
    rw [HW2.out]
    exact ⟨rfl, (by repeat (first | exact Below.refl _ _ | assumption | (refine below_drewN ?_ _) | (refine Below.drew ?_) | (refine Below.alloc ?_ (by first | omega | (simp; omega) | simp) _) | (refine Below.setCell ?_ (by first | omega | (simp; omega) | simp) _) | (refine below_trans ?_ (by assumption) (by first | omega | (simp; omega) | simp))))⟩
theorem labG_len (g : List Int) (p : Int) : (labG g p).length ≤ 21 := by
  unfold labG
  split
  · have := digF_len 20 (g.countP (· < p))
    unfold digs
    rw [List.length_cons]
    omega
  · simp
theorem lblG_eq (g : List Int) (p : Int) : lblG g p = if labG g p = [] then [] else labG g p ++ [58, 10] := by
  unfold lblG labG
  split
  · rw [if_neg (by simp)]
  · rw [if_pos rfl]
set_option maxRecDepth 100000 in
set_option maxHeartbeats 4000000 in
theorem labelLine_any {A : Option Addr} {g : List Int} (cap : Nat) (hr : IRow w w.heap.size A g) (hs : g.Pairwise (· ≤ ·)) (hl : g.length ≤ 100000) (p : Int) (hL : Lw w) : Calls Tryz.prog 46 #[.slice A g.length cap, .int .i64 p] w fun e w' => e = .returned (.string (bs (lblG g p))) ∧ Below w.heap.size w w' := by
  have HB := Lib.hid fun (W : World) (h : IRow W W.heap.size A g) hL => label_any (w := W) cap h hs hl p hL
  have hll := labG_len g p
  rw [lblG_eq]
  clear hs
  generalize labG g p = lb at *
  by_cases h : lb = []
  · subst h
    rw [if_pos rfl]
    go_enter Tryz.func46, Tryz.ntmps46
    go_wp2_with fail
    go_at_call 47
    refine (HB.out _ (hr.later (by repeat (first | exact Below.refl _ _ | assumption | (refine below_drewN ?_ _) | (refine Below.drew ?_) | (refine Below.alloc ?_ (by first | omega | (simp; omega) | simp) _) | (refine Below.setCell ?_ (by first | omega | (simp; omega) | simp) _) | (refine below_trans ?_ (by assumption) (by first | omega | (simp; omega) | simp))))) (hL.later (by repeat (first | exact Below.refl _ _ | assumption | (refine below_drewN ?_ _) | (refine Below.drew ?_) | (refine Below.alloc ?_ (by first | omega | (simp; omega) | simp) _) | (refine Below.setCell ?_ (by first | omega | (simp; omega) | simp) _) | (refine below_trans ?_ (by assumption) (by first | omega | (simp; omega) | simp)))))).mono ?_
    rintro e w1 ⟨rfl, hb_w1⟩
    obtain ⟨hc_w1, hf_w1⟩ := bcell hb_w1; have hs_w1 := hb_w1.size; (try simp only [World.size_alloc, World.size_setCell, World.size_drew, World.heap_drewN] at hs_w1)
    have e1 : (bs []).toList.isEmpty = true := by rw [ByteArray.toList_eq, bs_data]; rfl
    go_wp2
    go_ret
    exact ⟨rfl, (by repeat (first | exact Below.refl _ _ | assumption | (refine below_drewN ?_ _) | (refine Below.drew ?_) | (refine Below.alloc ?_ (by first | omega | (simp; omega) | simp) _) | (refine Below.setCell ?_ (by first | omega | (simp; omega) | simp) _) | (refine below_trans ?_ (by assumption) (by first | omega | (simp; omega) | simp))))⟩
  · rw [if_neg h, ← bs_append]
    have e1 : (bs lb).toList.isEmpty = false := by rw [ByteArray.toList_eq, bs_data]; simpa using h
    have z1 : ¬ (9223372036854775807 < (bs lb).size + 2) := by rw [bs_size]; omega
    have hq : bs [58, 10] = ⟨#[58, 10]⟩ := rfl
    rw [hq]
    clear h hq
    generalize bs lb = D at *
    go_enter Tryz.func46, Tryz.ntmps46
    go_wp2_with fail
    go_at_call 47
    refine (HB.out _ (hr.later (by repeat (first | exact Below.refl _ _ | assumption | (refine below_drewN ?_ _) | (refine Below.drew ?_) | (refine Below.alloc ?_ (by first | omega | (simp; omega) | simp) _) | (refine Below.setCell ?_ (by first | omega | (simp; omega) | simp) _) | (refine below_trans ?_ (by assumption) (by first | omega | (simp; omega) | simp))))) (hL.later (by repeat (first | exact Below.refl _ _ | assumption | (refine below_drewN ?_ _) | (refine Below.drew ?_) | (refine Below.alloc ?_ (by first | omega | (simp; omega) | simp) _) | (refine Below.setCell ?_ (by first | omega | (simp; omega) | simp) _) | (refine below_trans ?_ (by assumption) (by first | omega | (simp; omega) | simp)))))).mono ?_
    rintro e w1 ⟨rfl, hb_w1⟩
    obtain ⟨hc_w1, hf_w1⟩ := bcell hb_w1; have hs_w1 := hb_w1.size; (try simp only [World.size_alloc, World.size_setCell, World.size_drew, World.heap_drewN] at hs_w1)
    go_wp2
    go_ret
    exact ⟨rfl, (by repeat (first | exact Below.refl _ _ | assumption | (refine below_drewN ?_ _) | (refine Below.drew ?_) | (refine Below.alloc ?_ (by first | omega | (simp; omega) | simp) _) | (refine Below.setCell ?_ (by first | omega | (simp; omega) | simp) _) | (refine below_trans ?_ (by assumption) (by first | omega | (simp; omega) | simp))))⟩
set_option maxRecDepth 100000 in
set_option maxHeartbeats 4000000 in
theorem goalsOf_any {A : Option Addr} {l : List In} (cap : Nat) (hr : PRow w w.heap.size A l) (hl : l.length ≤ 256) (hx : JTo l) (hL : Lw w) : Calls Tryz.prog 44 #[.slice A l.length cap] w fun e w' => ∃ G gc, e = .returned (.slice G (goalsL l).length gc) ∧ IRow w' w'.heap.size G (goalsL l) ∧ Below w.heap.size w w' := by
  have HT := Lib.hid fun k (hk : k < l.length) => tosL_next l k hk
  have HN := Lib.hid fun k => tosL_len (l.take k)
  have HE : Hid (tosL (l.take l.length) = tosL l) := Lib.hid (by rw [List.take_length])
  have HW : Hid (∀ x ∈ tosL l, I63 x) := Lib.hid fun x hx' => by
    unfold tosL at hx'
    rw [List.mem_map] at hx'
    obtain ⟨y, hy, rfl⟩ := hx'
    exact hx y (List.mem_filter.1 hy).1
  clear hx
  unfold goalsL
  go_enter Tryz.func44, Tryz.ntmps44
  go_wp2_with fail
  go_loopw [3, 8] (fun ll ii wr => ∃ (k n : Nat) (R : Option Addr) (rc : Nat), ii = .int .i64 (k : Nat) ∧ k ≤ l.length ∧ n = (tosL (l.take k)).length ∧ ll = .slice R n rc ∧ Hid (wr.ownsRow w.heap.size 3 1 (.slice R n rc) n (ivals (tosL (l.take k)))) ∧ Below w.heap.size w wr) (fun ll ii _ => l.length - (intOf ii).toNat)
  case atStart => exact ⟨0, 0, none, 0, rfl, Nat.zero_le _, rfl, rfl, Lib.hid (World.ownsRow_nil _ _ _ _), (by repeat (first | exact Below.refl _ _ | assumption | (refine below_drewN ?_ _) | (refine Below.drew ?_) | (refine Below.alloc ?_ (by first | omega | (simp; omega) | simp) _) | (refine Below.setCell ?_ (by first | omega | (simp; omega) | simp) _) | (refine below_trans ?_ (by assumption) (by first | omega | (simp; omega) | simp))))⟩
  case round =>
    obtain ⟨k, n, R, rc, rfl, hk, hn, rfl, OW, hb_wr⟩ := hrel
    have hsr := hb_wr.size
    have hn256 : n ≤ 256 := by have := HN.out k; rw [← hn, List.length_take] at this; omega
    have HNN := Lib.hid hn
    clear hn
    by_cases hlt : k < l.length
    · obtain ⟨b, off, rfl, hbb, hc⟩ := (hr.later hb_wr).at_ (by omega)
      have c5 := hc k hlt
      clear hc
      have hk0 : (0 : Int) ≤ (k : Int) := by omega
      have hk1 : (k : Int) < (l.length : Int) := by omega
      have hx1 := HT.out k hlt
      have HX := Lib.hid hx1
      clear hx1
      generalize nthI l k = d at *
      have HJ := Lib.hid fun (W : World) hL => jumps_any (w := W) d hL
      obtain ⟨c0, c1, c2, c3, c4, c5, c6, c7, c8, c9, c10⟩ := c5
      go_wp2_with fail
      go_at_call 73
      refine (HJ.out _ (hL.later (by repeat (first | exact Below.refl _ _ | assumption | (refine below_drewN ?_ _) | (refine Below.drew ?_) | (refine Below.alloc ?_ (by first | omega | (simp; omega) | simp) _) | (refine Below.setCell ?_ (by first | omega | (simp; omega) | simp) _) | (refine below_trans ?_ (by assumption) (by first | omega | (simp; omega) | simp)))))).mono ?_
      rintro e w2 ⟨rfl, hb_w2⟩
      obtain ⟨hc_w2, hf_w2⟩ := bcell hb_w2; have hz_w2_wr_0 : wr.heap.size < w2.heap.size := (by have hzz := hb_w2.size; (try simp only [World.size_alloc, World.size_setCell, World.size_drew, World.heap_drewN] at hzz); omega); have hs_w2 := hb_w2.size; (try simp only [World.size_alloc, World.size_setCell, World.size_drew, World.heap_drewN] at hs_w2)
      have OW2 := Lib.hid (owns_laterG OW.out (show Below wr.heap.size wr w2 from below_trans (Below.alloc (Below.refl _ _) (Nat.le_refl _) _) hb_w2 (by simp)))
      have f5 := (In11.new wr d 37).later hb_w2
      obtain ⟨d0, d1, d2, d3, d4, d5, d6, d7, d8, d9, d10⟩ := f5
      simp only [Nat.zero_add] at d0 d1 d2 d3 d4 d5 d6 d7 d8 d9 d10
      clear OW
      cases hq : jumpsI d with
      | false =>
        have hx2 := HX.out
        rw [hq] at hx2
        simp only [Bool.false_eq_true, if_false, List.append_nil] at hx2
        have HX2 := Lib.hid hx2
        clear hx2 HX
        go_wp2
        go_roundw
        case rel => exact ⟨k + 1, n, R, rc, by go_num, by omega, by rw [HX2.out]; exact HNN.out, rfl, by rw [HX2.out]; exact OW2, (by repeat (first | exact Below.refl _ _ | assumption | (refine below_drewN ?_ _) | (refine Below.drew ?_) | (refine Below.alloc ?_ (by first | omega | (simp; omega) | simp) _) | (refine Below.setCell ?_ (by first | omega | (simp; omega) | simp) _) | (refine below_trans ?_ (by assumption) (by first | omega | (simp; omega) | simp))))⟩
        case measure => simp [intOf]; omega
      | true =>
        have hx2 := HX.out
        rw [hq] at hx2
        simp only [if_true] at hx2
        have HX2 := Lib.hid hx2
        clear hx2 HX
        go_wp2_with (at_builtin; refine wpList_appendG ?_ (.tmp 14) (.tmp 17) ?_ w.heap.size R rc n (ivals (tosL (l.take k))) ?_ (owns_laterG OW2.out (show Below w2.heap.size w2 _ from (by repeat (first | exact Below.refl _ _ | assumption | (refine below_drewN ?_ _) | (refine Below.drew ?_) | (refine Below.alloc ?_ (by first | omega | (simp; omega) | simp) _) | (refine Below.setCell ?_ (by first | omega | (simp; omega) | simp) _) | (refine below_trans ?_ (by assumption) (by first | omega | (simp; omega) | simp)))))) (some ⟨w2.heap.size, 0, none⟩) 1 1 [.int .i64 d.to] ?_ rfl (fun _ => ⟨w2.heap.size, 0, rfl, fl_lies w2 [.int .i64 d.to] _⟩) (by intro u hu; simp at hu; subst hu; rfl) (by omega) (by simp; omega) ?_; rfl; rfl; rfl; rfl; intro A7 cap7 w7 hown7 hg7 hb_w7 hat7; have hs7 := hb_w7.size)
        have hiv : ivals (tosL (l.take k)) ++ [.int .i64 d.to] = ivals (tosL (l.take (k + 1))) := by rw [HX2.out]; simp [ivals]
        rw [hiv] at hown7
        have OW7 := Lib.hid hown7
        clear hown7 hiv
        go_roundw
        case rel => exact ⟨k + 1, n + 1, A7, cap7, by go_num, by omega, by rw [HX2.out, List.length_append, ← HNN.out]; rfl, rfl, OW7, (by repeat (first | exact Below.refl _ _ | assumption | (refine below_drewN ?_ _) | (refine Below.drew ?_) | (refine Below.alloc ?_ (by first | omega | (simp; omega) | simp) _) | (refine Below.setCell ?_ (by first | omega | (simp; omega) | simp) _) | (refine below_trans ?_ (by assumption) (by first | omega | (simp; omega) | simp))))⟩
        case measure => simp [intOf]; omega
    · obtain rfl : k = l.length := by omega
      have hn2 := HNN.out
      rw [HE.out] at hn2
      have OW2 := OW.out
      rw [HE.out] at OW2
      have hcap : n ≤ rc ∨ n = 0 := by
        obtain ⟨_, ⟨h1, h2⟩ | ⟨g, cap', cur, e, hB, hg, hc, _⟩⟩ := id OW2
        · exact .inr h2
        · injection e with e1 e2 e3
          subst e3
          exact .inl hc
      have HS := Lib.hid (sort_any (w := wr) w.heap.size hn2.symm (by omega) hsr OW2)
      have HC := Lib.hid fun (W : World) h => compact_any (w := W) (A := R) (cap := rc) w.heap.size hn2.symm (by omega) hcap HW.out h
      have HN2 := Lib.hid hn2
      clear OW OW2 hn2 HNN HE hcap HT HN
      go_wp2_with fail
      go_at_call 74
      refine HS.out.mono ?_
      rintro e w5 ⟨rfl, hor, hb_w5⟩
      have hor5 : tosL l = [] ∨ ∃ g, R = some ⟨g, 0, none⟩ ∧ w.heap.size ≤ g ∧ g < w5.heap.size ∧ Go.Sort.Holds (Value.int .i64) w5 g 0 ((tosL l).mergeSort fun x y => decide (x ≤ y)).toArray := hor.imp (fun h => h.1) id
      have HO5 := Lib.hid hor5
      have b5 : Below w.heap.size w w5 := below_trans hb_wr hb_w5 (Nat.le_refl _)
      clear hor hor5 HS
      go_wp2_with fail
      go_at_call 75
      refine (HC.out _ HO5.out).mono ?_
      rintro e w6 ⟨rfl, hor6, hb_w6⟩
      have HO6 := Lib.hid hor6
      have b6 : Below w.heap.size w w6 := below_trans b5 hb_w6 (Nat.le_refl _)
      clear hor6
      go_wp2
      go_ret
      exact ⟨R, rc, rfl, HO6.out, b6⟩
end
end Go.Proofs.YtggaijdbaplfiaaGreatDoor
