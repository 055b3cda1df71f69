/- What the start laid, and what it gives; contracts of strconv.Itoa and of package script: line. -/
import Derived.Test.YtklbamkafldagaaDoorSe8
import Derived.Lib.AppendIntMem
import Derived.Lib.LaidTab
namespace Go.Proofs.YtklbamkafldagaaDoor
open Go.RowKit
set_option linter.unusedVariables false
set_option linter.unusedSimpArgs false

/-- the table of tens, the two errors of strconv, and a number that the library keeps, as the start laid them -/
structure Lw (w : World) : Prop where
  tab : Lib.TabIs Tryd.prog w "internal/strconv.uint64pow10" .u64 Lib.pow10Tab
  mx : ∃ m, w.cell? ⟨0, 0, none⟩ = some (.int .i64 m)
  syn : ∃ te pe, w.cell? ⟨3, 0, none⟩ = some (.iface te pe)
  rng : ∃ te pe, w.cell? ⟨4, 0, none⟩ = some (.iface te pe)
theorem tab_later {n : String} {k : IntKind} {zs : List Int} {w w' : World} (hg : (Tryd.prog.globalNamed n).isSome = true) (h : Lib.TabIs Tryd.prog w n k zs) (hb : Below w.heap.size w w') : Lib.TabIs Tryd.prog w' n k zs := by
  obtain ⟨g, hg⟩ := Option.isSome_iff_exists.1 hg
  have hv : w.var? Tryd.prog n = some (zs.map fun z => Value.int k z).toArray := h
  show w'.var? Tryd.prog n = _
  rw [← hv]
  simp only [World.var?, hg] at hv ⊢
  rcases Nat.lt_or_ge g w.heap.size with hlt | hge
  · simp [hb.block g hlt]
  · simp [Array.getElem?_eq_none hge] at hv
theorem cell_later {w w' : World} {p : Addr} {v : Value} (h : w.cell? p = some v) (hp : p.spot = none) (hb : Below w.heap.size w w') : w'.cell? p = some v := by
  obtain ⟨b, o, s⟩ := p
  simp only at hp
  subst hp
  exact (hb.cell (p := ⟨b, o, none⟩) (World.block_lt_of_cell? w _ h)).trans h
theorem Lw.later {w w' : World} (h : Lw w) (hb : Below w.heap.size w w') : Lw w' := by
  obtain ⟨h1, ⟨m, h2⟩, ⟨t3, p3, h3⟩, ⟨t4, p4, h4⟩⟩ := h
  exact ⟨tab_later (by kernel_rfl) h1 hb, ⟨m, cell_later h2 rfl hb⟩, ⟨t3, p3, cell_later h3 rfl hb⟩, ⟨t4, p4, cell_later h4 rfl hb⟩⟩
theorem bs_size (l : List UInt8) : (bs l).size = l.length := by simp [bs, ByteArray.size]
section
variable {w : World}
theorem itoa_any (n : Int) (h0 : -9223372036854775808 ≤ n) (h1 : n ≤ 9223372036854775807) (hL : Lw w) : Calls Tryd.prog 42 #[.int .i64 n] w fun e w' => e = .returned (.string (bs (Lib.itoa n))) ∧ Below w.heap.size w w' := by
  refine (L_strconv_Itoa n h0 h1 w hL.tab).mono ?_
  rintro e w' ⟨rfl, k, os, rfl⟩
  exact ⟨rfl, Lib.below_grow _ _ (Nat.le_refl _) _ _⟩
theorem itoa_nat (n : Int) (h0 : 0 ≤ n) (h1 : n ≤ 9223372036854775807) (hL : Lw w) : Calls Tryd.prog 42 #[.int .i64 n] w fun e w' => e = .returned (.string (bs (digs n.toNat))) ∧ Below w.heap.size w w' := by
  rw [← itoa_eq n h0 (by omega)]
  exact itoa_any n (by omega) h1 hL
theorem name_agg (a : Bool) (b c d n : Int) (h : okE ⟨a, b, c, d, n⟩ = true) : Calls Tryd.prog 36 #[.agg #[.bool a, .int .i64 b, .int .u8 c, .int .i64 d, .int .i64 n]] w fun r w' => r = .returned (.string (bs (nmE ⟨a, b, c, d, n⟩))) ∧ Below w.heap.size w w' := name_any ⟨a, b, c, d, n⟩ h
set_option maxHeartbeats 4000000 in
theorem line_any (e : Ev) (h : okE e = true) (hL : Lw w) : Calls Tryd.prog 27 #[evv e] w fun r w' => r = .returned (.string (bs (lineE e))) ∧ Below w.heap.size w w' := by
  obtain ⟨n1, n2, _⟩ := (okE_iff e).1 h
  obtain ⟨a, b, c, d, n⟩ := e
  have HN := Lib.hid fun (w : World) => name_agg (w := w) a b c d n h
  simp only at n1 n2
  have HT := Lib.hid fun (w : World) hL => itoa_nat (w := w) n (by omega) (by omega) hL
  unfold evv
  simp only
  by_cases h1 : n = 1
  · have e1 : (n == 1) = true := by simpa using h1
    have e2 : lineE ⟨a, b, c, d, n⟩ = nmE ⟨a, b, c, d, n⟩ := by unfold lineE; rw [if_pos h1]
    rw [e2]
    clear h n1 n2 h1 e2 HT
    generalize nmE ⟨a, b, c, d, n⟩ = N at *
    go_enter Tryd.func27, Tryd.ntmps27
    go_wp2_with fail
    go_at_call 36
    refine (HN.out _).mono ?_
    rintro e w1 ⟨rfl, hb_w1⟩
    obtain ⟨hc_w1, hf_w1⟩ := bcell hb_w1; have hz_w1_w_0 : w.heap.size < w1.heap.size := (by have hzz := hb_w1.size; (try simp only [World.size_alloc, World.size_setCell, World.size_drew, World.heap_drewN] at hzz); omega); have hs_w1 := hb_w1.size; (try simp only [World.size_alloc, World.size_setCell, World.size_drew, World.heap_drewN] at hs_w1)
    go_wp2
    go_ret
    exact ⟨rfl, (by repeat (first | exact Below.refl _ _ | assumption | (refine below_drewN ?_ _) | (refine Below.drew ?_) | (refine Below.alloc ?_ (by first | omega | (simp; omega) | simp) _) | (refine Below.setCell ?_ (by first | omega | (simp; omega) | simp) _) | (refine below_trans ?_ (by assumption) (by first | omega | (simp; omega) | simp))))⟩
  · have e1 : (n == 1) = false := by simpa using h1
    have e2 : lineE ⟨a, b, c, d, n⟩ = nmE ⟨a, b, c, d, n⟩ ++ star ++ digs n.toNat := by unfold lineE; rw [if_neg h1]
    have hn6 := (okE_name h).2.2.2.2
    have hd20 := digF_len 20 n.toNat
    have z1 : ¬ (9223372036854775807 < (bs (nmE ⟨a, b, c, d, n⟩)).size + 3) := by rw [bs_size]; omega
    have z2 : ¬ (9223372036854775807 < (bs (nmE ⟨a, b, c, d, n⟩)).size + 3 + (bs (digs n.toNat)).size) := by
      rw [bs_size, bs_size]
      unfold digs
      omega
    rw [e2, ← bs_append, ← bs_append]
    clear hn6 hd20
    clear h n1 n2 h1 e2
    generalize nmE ⟨a, b, c, d, n⟩ = N at *
    generalize digs n.toNat = D at *
    go_enter Tryd.func27, Tryd.ntmps27
    go_wp2_with fail
    refine wp_region_held_drew (S := (fun X : World => X.cell? ⟨w.heap.size, 0, none⟩ = some (.bool a) ∧ X.cell? ⟨w.heap.size, 1, none⟩ = some (.int .i64 b) ∧ X.cell? ⟨w.heap.size, 2, none⟩ = some (.int .u8 c) ∧ X.cell? ⟨w.heap.size, 3, none⟩ = some (.int .i64 d) ∧ X.cell? ⟨w.heap.size, 4, none⟩ = some (.int .i64 n))) (by kernel_rfl) ?_ (fun hHeld => ?_)
    · (try dsimp only); refine ⟨?_, ?_, ?_, ?_, ?_⟩ <;> first | assumption | (simp [go_sem]; done) | exact (World.cell?_alloc_lt _ _ ⟨_, _, _⟩ (by first | omega | (simp; omega) | simp)).trans (by assumption)
    refine wpAnyH_take (i := 0) (v := ?_) rfl (by kernel_rfl) (by kernel_rfl) (by kernel_rfl) (fun _ _ _ h => h) (Or.inl ⟨by rfl, ?_⟩) (by assumption) ?_
    rotate_left
    · (intro w hSw; (try dsimp only at hSw); go_simp; first | done | with_reducible rfl)
    try simp only [Act.put, List.getElem_toArray, List.getElem_cons_zero, List.getElem_cons_succ, List.setIfInBounds_toArray, List.set_cons_zero, List.set_cons_succ]
    refine wpAnyH_take (i := 3) (v := ?_) rfl (by kernel_rfl) (by kernel_rfl) (by kernel_rfl) (fun _ _ _ h => h) (Or.inl ⟨by rfl, ?_⟩) (by assumption) ?_
    rotate_left
    · (intro w hSw; (try dsimp only at hSw); go_simp; first | done | with_reducible rfl)
    try simp only [Act.put, List.getElem_toArray, List.getElem_cons_zero, List.getElem_cons_succ, List.setIfInBounds_toArray, List.set_cons_zero, List.set_cons_succ]
    refine wpAnyH_take (i := 4) (v := ?_) rfl (by kernel_rfl) (by kernel_rfl) (by kernel_rfl) (fun _ _ _ h => h) (Or.inl ⟨by rfl, ?_⟩) (by assumption) ?_
    rotate_left
    · (intro w hSw; (try dsimp only at hSw); go_simp; first | done | with_reducible rfl)
    try simp only [Act.put, List.getElem_toArray, List.getElem_cons_zero, List.getElem_cons_succ, List.setIfInBounds_toArray, List.set_cons_zero, List.set_cons_succ]
    refine wpAnyH_ready (rs := [1]) (by kernel_rfl) (by simp) ?_
    refine AllReadyH.cons rfl (fun K hK => ?_) AllReadyH.nil
    try simp only [List.getElem_toArray, List.getElem_cons_zero, List.getElem_cons_succ]
    go_simp
    go_at_call 36
    refine (HN.out _).mono ?_
    rintro e w2 ⟨rfl, hb_w2⟩
    have hs_w2 : w.heap.size < w2.heap.size := (by have := hb_w2.size; (try simp only [World.size_drew, World.heap_drewN, World.size_alloc] at this); omega)
    have mw20 : w2.cell? ⟨w.heap.size, 0, none⟩ = some (.bool a) := (hb_w2.cell (p := ⟨w.heap.size, 0, none⟩) (by first | omega | (simp; omega) | simp)).trans (by first | assumption | (simp [go_sem]; done) | exact (World.cell?_alloc_lt _ _ ⟨_, _, _⟩ (by first | omega | (simp; omega) | simp)).trans (by assumption))
    have mw21 : w2.cell? ⟨w.heap.size, 1, none⟩ = some (.int .i64 b) := (hb_w2.cell (p := ⟨w.heap.size, 1, none⟩) (by first | omega | (simp; omega) | simp)).trans (by first | assumption | (simp [go_sem]; done) | exact (World.cell?_alloc_lt _ _ ⟨_, _, _⟩ (by first | omega | (simp; omega) | simp)).trans (by assumption))
    have mw22 : w2.cell? ⟨w.heap.size, 2, none⟩ = some (.int .u8 c) := (hb_w2.cell (p := ⟨w.heap.size, 2, none⟩) (by first | omega | (simp; omega) | simp)).trans (by first | assumption | (simp [go_sem]; done) | exact (World.cell?_alloc_lt _ _ ⟨_, _, _⟩ (by first | omega | (simp; omega) | simp)).trans (by assumption))
    have mw23 : w2.cell? ⟨w.heap.size, 3, none⟩ = some (.int .i64 d) := (hb_w2.cell (p := ⟨w.heap.size, 3, none⟩) (by first | omega | (simp; omega) | simp)).trans (by first | assumption | (simp [go_sem]; done) | exact (World.cell?_alloc_lt _ _ ⟨_, _, _⟩ (by first | omega | (simp; omega) | simp)).trans (by assumption))
    have mw24 : w2.cell? ⟨w.heap.size, 4, none⟩ = some (.int .i64 n) := (hb_w2.cell (p := ⟨w.heap.size, 4, none⟩) (by first | omega | (simp; omega) | simp)).trans (by first | assumption | (simp [go_sem]; done) | exact (World.cell?_alloc_lt _ _ ⟨_, _, _⟩ (by first | omega | (simp; omega) | simp)).trans (by assumption))
    try go_wp2_with fail
    refine hK.out _ _ ?_ (fun hHeld => ?_)
    · (try dsimp only); refine ⟨?_, ?_, ?_, ?_, ?_⟩ <;> first | assumption | (simp [go_sem]; done) | exact (World.cell?_alloc_lt _ _ ⟨_, _, _⟩ (by first | omega | (simp; omega) | simp)).trans (by assumption)
    clear hK K
    try simp only [Act.put, List.getElem_toArray, List.getElem_cons_zero, List.getElem_cons_succ, List.setIfInBounds_toArray, List.set_cons_zero, List.set_cons_succ]
    refine wpAnyH_take (i := 2) (v := ?_) rfl (by kernel_rfl) (by kernel_rfl) (by kernel_rfl) (fun _ _ _ h => h) (Or.inl ⟨by rfl, ?_⟩) (by assumption) ?_
    rotate_left
    · (intro w hSw; (try dsimp only at hSw); go_simp; first | done | with_reducible rfl)
    try simp only [Act.put, List.getElem_toArray, List.getElem_cons_zero, List.getElem_cons_succ, List.setIfInBounds_toArray, List.set_cons_zero, List.set_cons_succ]
    refine wpAnyH_ready (rs := [5]) (by kernel_rfl) (by simp) ?_
    refine AllReadyH.cons rfl (fun K hK => ?_) AllReadyH.nil
    try simp only [List.getElem_toArray, List.getElem_cons_zero, List.getElem_cons_succ]
    go_simp
    go_at_call 42
    refine (HT.out _ (hL.later (by repeat (first | exact Below.refl _ _ | assumption | (refine below_drewN ?_ _) | (refine Below.drew ?_) | (refine Below.alloc ?_ (by first | omega | (simp; omega) | simp) _) | (refine Below.setCell ?_ (by first | omega | (simp; omega) | simp) _) | (refine below_trans ?_ (by assumption) (by first | omega | (simp; omega) | simp)))))).mono ?_
    rintro e w3 ⟨rfl, hb_w3⟩
    have hs_w3 : w2.heap.size ≤ w3.heap.size := (by have := hb_w3.size; (try simp only [World.size_drew, World.heap_drewN, World.size_alloc] at this); omega)
    have mw30 : w3.cell? ⟨w.heap.size, 0, none⟩ = some (.bool a) := (hb_w3.cell (p := ⟨w.heap.size, 0, none⟩) (by first | omega | (simp; omega) | simp)).trans (by first | assumption | (simp [go_sem]; done) | exact (World.cell?_alloc_lt _ _ ⟨_, _, _⟩ (by first | omega | (simp; omega) | simp)).trans (by assumption))
    have mw31 : w3.cell? ⟨w.heap.size, 1, none⟩ = some (.int .i64 b) := (hb_w3.cell (p := ⟨w.heap.size, 1, none⟩) (by first | omega | (simp; omega) | simp)).trans (by first | assumption | (simp [go_sem]; done) | exact (World.cell?_alloc_lt _ _ ⟨_, _, _⟩ (by first | omega | (simp; omega) | simp)).trans (by assumption))
    have mw32 : w3.cell? ⟨w.heap.size, 2, none⟩ = some (.int .u8 c) := (hb_w3.cell (p := ⟨w.heap.size, 2, none⟩) (by first | omega | (simp; omega) | simp)).trans (by first | assumption | (simp [go_sem]; done) | exact (World.cell?_alloc_lt _ _ ⟨_, _, _⟩ (by first | omega | (simp; omega) | simp)).trans (by assumption))
    have mw33 : w3.cell? ⟨w.heap.size, 3, none⟩ = some (.int .i64 d) := (hb_w3.cell (p := ⟨w.heap.size, 3, none⟩) (by first | omega | (simp; omega) | simp)).trans (by first | assumption | (simp [go_sem]; done) | exact (World.cell?_alloc_lt _ _ ⟨_, _, _⟩ (by first | omega | (simp; omega) | simp)).trans (by assumption))
    have mw34 : w3.cell? ⟨w.heap.size, 4, none⟩ = some (.int .i64 n) := (hb_w3.cell (p := ⟨w.heap.size, 4, none⟩) (by first | omega | (simp; omega) | simp)).trans (by first | assumption | (simp [go_sem]; done) | exact (World.cell?_alloc_lt _ _ ⟨_, _, _⟩ (by first | omega | (simp; omega) | simp)).trans (by assumption))
    try go_wp2_with fail
    refine hK.out _ _ ?_ (fun hHeld => ?_)
    · (try dsimp only); refine ⟨?_, ?_, ?_, ?_, ?_⟩ <;> first | assumption | (simp [go_sem]; done) | exact (World.cell?_alloc_lt _ _ ⟨_, _, _⟩ (by first | omega | (simp; omega) | simp)).trans (by assumption)
    clear hK K
    try simp only [Act.put, List.getElem_toArray, List.getElem_cons_zero, List.getElem_cons_succ, List.setIfInBounds_toArray, List.set_cons_zero, List.set_cons_succ]
    refine wpAnyH_take (i := 6) (v := ?_) rfl (by kernel_rfl) (by kernel_rfl) (by kernel_rfl) (fun _ _ _ h => h) (Or.inl ⟨by rfl, ?_⟩) (by assumption) ?_
    rotate_left
    · (intro w hSw; (try dsimp only at hSw); go_simp; first | done | with_reducible rfl)
    try simp only [Act.put, List.getElem_toArray, List.getElem_cons_zero, List.getElem_cons_succ, List.setIfInBounds_toArray, List.set_cons_zero, List.set_cons_succ]
    refine wpAnyH_take (i := 7) (v := ?_) rfl (by kernel_rfl) (by kernel_rfl) (by kernel_rfl) (fun _ _ _ h => h) (Or.inl ⟨by rfl, ?_⟩) (by assumption) ?_
    rotate_left
    · (intro w hSw; (try dsimp only at hSw); go_simp; first | done | with_reducible rfl)
    try simp only [Act.put, List.getElem_toArray, List.getElem_cons_zero, List.getElem_cons_succ, List.setIfInBounds_toArray, List.set_cons_zero, List.set_cons_succ]
    refine wpAnyH_done (by kernel_rfl) ?_ _
    go_wp2
    go_ret
    exact ⟨rfl, (by repeat (first | exact Below.refl _ _ | assumption | (refine below_drewN ?_ _) | (refine Below.drew ?_) | (refine Below.alloc ?_ (by first | omega | (simp; omega) | simp) _) | (refine Below.setCell ?_ (by first | omega | (simp; omega) | simp) _) | (refine below_trans ?_ (by assumption) (by first | omega | (simp; omega) | simp))))⟩
end
end Go.Proofs.YtklbamkafldagaaDoor
