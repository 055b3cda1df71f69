/- Contracts of package script: named, names.parse. -/
import Derived.Test.YtklbamkafldagaaDoorSe10
namespace Go.Proofs.YtklbamkafldagaaDoor
open Go.RowKit
set_option linter.unusedVariables false
set_option linter.unusedSimpArgs false

theorem sgl_okE (k : Nat) (hk : k < 16) : okE (nthE sgl k) = true := by
  have := sgl_ok (nthE sgl k) (nthE_mem sgl k (by simpa [sgl] using hk))
  exact this.1
def NamR (w : World) (e : Ending) (w' : World) : Prop := ∃ M, e = .returned (.map (some M)) ∧ NamesM w' M sgl ∧ w.heap.size ≤ M ∧ Below w.heap.size w w'
theorem names_up {W : World} {M : Nat} {l : List Ev} (e : Ev) (h : NamesM W M l) (hl : l.length ≤ 100) (hn : (nmE e).length ≤ 100) :
    ∃ w', (Instr.mapUpdate 45 (.map (some M)) (.string (bs (nmE e))) (evv e)).run Tryd.prog W = .ok () w' ∧ NamesM w' M (l ++ [e]) ∧ W.grownBy w' (some M) := by
  have hk := skeyOf (s := bs (nmE e)) (by rw [bs_size]; unfold maxLen; omega)
  rw [bs_data] at hk
  obtain ⟨w', h1, h2, h3⟩ := World.ownsMap.update h skey names_ty (by unfold maxLen; omega) hk (evElem_mk e)
  refine ⟨w', h1, ?_, h3⟩
  unfold NamesM
  rw [namesD_snoc, List.length_append, List.length_singleton]
  exact h2
section
variable {w : World}
set_option maxRecDepth 100000 in
set_option maxHeartbeats 4000000 in
theorem named_any : Calls Tryd.prog 22 #[] w fun e w' => NamR w e w' := by
  unfold NamR
  have hmm := @run_makeMap Tryd.prog
  go_enter Tryd.func22, Tryd.ntmps22
  go_wp2_with fail
  go_at_call 33
  refine (singles_any).mono ?_
  rintro e w1 ⟨S, scap, rfl, oS, hb_w1⟩
  obtain ⟨hc_w1, hf_w1⟩ := bcell hb_w1; have hz_w1_w_0 : w.heap.size < w1.heap.size := (by have hzz := hb_w1.size; (try simp only [World.size_alloc, World.size_setCell, World.size_drew, World.heap_drewN] at hzz); omega); have hs_w1 := hb_w1.size; (try simp only [World.size_alloc, World.size_setCell, World.size_drew, World.heap_drewN] at hs_w1)
  have rS : ERow w1 w1.heap.size S sgl := ERow.of_owns (cap := scap) (show OwnsE w1 (w.heap.size + 1) (.slice S sgl.length scap) sgl from (by have h9 := oS; simp only [World.size_alloc] at h9; exact h9))
  have m1 : NamesM w1 w.heap.size [] := by
    have h0 : NamesM (w.alloc (.map #[] 0)) w.heap.size [] := World.ownsMap_made _ _ _ _
    exact h0.later hb_w1
  have HS9 : Hid (∀ b off, S = some ⟨b, off, none⟩ → w.heap.size < b) := Lib.hid (fun b off e => by
    obtain ⟨_, ⟨e1, e2⟩ | ⟨g, cap', cur, e1, hB, _⟩⟩ := id oS
    · injection e1 with e1; rw [e1] at e; cases e
    · injection e1 with e1
      rw [e1] at e
      injection e with e
      injection e with e _
      subst e
      simp only [World.size_alloc] at hB
      omega)
  clear oS
  have hbA : Below w.heap.size w w1 := (by repeat (first | exact Below.refl _ _ | assumption | (refine below_drewN ?_ _) | (refine Below.drew ?_) | (refine Below.alloc ?_ (by first | omega | (simp; omega) | simp) _) | (refine Below.setCell ?_ (by first | omega | (simp; omega) | simp) _) | (refine below_trans ?_ (by assumption) (by first | omega | (simp; omega) | simp))))
  clear hb_w1
  go_wp2_with fail
  go_loopw [7] (fun ii wr => ∃ k : Nat, ii = .int .i64 (k : Nat) ∧ k ≤ 16 ∧ NamesM wr w.heap.size (sgl.take k) ∧ ERow wr w1.heap.size S sgl ∧ w1.heap.size ≤ wr.heap.size ∧ Below w.heap.size w wr) (fun ii _ => 16 - (intOf ii).toNat)
  case atStart => exact ⟨0, rfl, Nat.zero_le _, m1, rS, Nat.le_refl _, hbA⟩
  case round =>
    clear m1 rS hbA
    obtain ⟨k, rfl, hk, om, rSr, hszr, hb_wr⟩ := hrel
    have OM := Lib.hid om
    clear om
    by_cases hlt : k < 16
    · obtain ⟨b, off, rfl, hbb, hc⟩ := rSr.at_ (by decide)
      have c5 := hc k (by simpa [sgl] using hlt)
      have HC9 := Lib.hid hc
      clear hc
      have hok := sgl_okE k hlt
      have HTK := Lib.hid (take_nthE sgl k (by simpa [sgl] using hlt))
      have HUP := Lib.hid fun (W : World) (h : NamesM W w.heap.size (sgl.take k)) => names_up (nthE sgl k) h (by rw [List.length_take]; omega) (by have := (okE_name hok).2.2.2.2; omega)
      have hk0 : (0 : Int) ≤ (k : Int) := by omega
      have hk1 : (k : Int) < 16 := by omega
      have hbM := HS9.out b off rfl
      clear rSr
      generalize nthE sgl k = x at *
      obtain ⟨a, b', c, d, n⟩ := x
      obtain ⟨c0, c1, c2, c3, c4⟩ := c5
      simp only at c0 c1 c2 c3 c4
      have HN := Lib.hid fun (w : World) => name_agg (w := w) a b' c d n hok
      clear hok
      unfold evv at HUP
      simp only at HUP
      generalize nmE ⟨a, b', c, d, n⟩ = N at *
      have hMlt := OM.out.lt
      go_wp2_with fail
      refine wp_region_held_drew (S := (fun X : World => X.cell? ⟨wr.heap.size, 0, none⟩ = some (.bool a) ∧ X.cell? ⟨wr.heap.size, 1, none⟩ = some (.int .i64 b') ∧ X.cell? ⟨wr.heap.size, 2, none⟩ = some (.int .u8 c) ∧ X.cell? ⟨wr.heap.size, 3, none⟩ = some (.int .i64 d) ∧ X.cell? ⟨wr.heap.size, 4, none⟩ = some (.int .i64 n))) (by kernel_rfl) ?_ (fun hHeld => ?_)
      · (try dsimp only); refine ⟨?_, ?_, ?_, ?_, ?_⟩ <;> first | assumption | (simp [go_sem]; done) | exact (World.cell?_alloc_lt _ _ ⟨_, _, _⟩ (by first | omega | (simp; omega) | simp)).trans (by assumption)
      refine wpAnyH_take (i := 0) (v := ?_) rfl (by kernel_rfl) (by kernel_rfl) (by kernel_rfl) (fun _ _ _ h => h) (Or.inl ⟨by rfl, ?_⟩) (by assumption) ?_
      rotate_left
      · (intro w hSw; (try dsimp only at hSw); go_simp; first | done | with_reducible rfl)
      try simp only [Act.put, List.getElem_toArray, List.getElem_cons_zero, List.getElem_cons_succ, List.setIfInBounds_toArray, List.set_cons_zero, List.set_cons_succ]
      refine wpAnyH_take (i := 1) (v := ?_) rfl (by kernel_rfl) (by kernel_rfl) (by kernel_rfl) (fun _ _ _ h => h) (Or.inl ⟨by rfl, ?_⟩) (by assumption) ?_
      rotate_left
      · (intro w hSw; (try dsimp only at hSw); go_simp; first | done | with_reducible rfl)
      try simp only [Act.put, List.getElem_toArray, List.getElem_cons_zero, List.getElem_cons_succ, List.setIfInBounds_toArray, List.set_cons_zero, List.set_cons_succ]
      refine wpAnyH_take (i := 3) (v := ?_) rfl (by kernel_rfl) (by kernel_rfl) (by kernel_rfl) (fun _ _ _ h => h) (Or.inl ⟨by rfl, ?_⟩) (by assumption) ?_
      rotate_left
      · (intro w hSw; (try dsimp only at hSw); go_simp; first | done | with_reducible rfl)
      try simp only [Act.put, List.getElem_toArray, List.getElem_cons_zero, List.getElem_cons_succ, List.setIfInBounds_toArray, List.set_cons_zero, List.set_cons_succ]
      refine wpAnyH_ready (rs := [2]) (by kernel_rfl) (by simp) ?_
      refine AllReadyH.cons rfl (fun K hK => ?_) AllReadyH.nil
      try simp only [List.getElem_toArray, List.getElem_cons_zero, List.getElem_cons_succ]
      go_simp
      go_at_call 36
      refine (HN.out _).mono ?_
      rintro e w2 ⟨rfl, hb_w2⟩
      have hs_w2 : wr.heap.size < w2.heap.size := (by have := hb_w2.size; (try simp only [World.size_drew, World.heap_drewN, World.size_alloc] at this); omega)
      have mw20 : w2.cell? ⟨wr.heap.size, 0, none⟩ = some (.bool a) := (hb_w2.cell (p := ⟨wr.heap.size, 0, none⟩) (by first | omega | (simp; omega) | simp)).trans (by first | assumption | (simp [go_sem]; done) | exact (World.cell?_alloc_lt _ _ ⟨_, _, _⟩ (by first | omega | (simp; omega) | simp)).trans (by assumption))
      have mw21 : w2.cell? ⟨wr.heap.size, 1, none⟩ = some (.int .i64 b') := (hb_w2.cell (p := ⟨wr.heap.size, 1, none⟩) (by first | omega | (simp; omega) | simp)).trans (by first | assumption | (simp [go_sem]; done) | exact (World.cell?_alloc_lt _ _ ⟨_, _, _⟩ (by first | omega | (simp; omega) | simp)).trans (by assumption))
      have mw22 : w2.cell? ⟨wr.heap.size, 2, none⟩ = some (.int .u8 c) := (hb_w2.cell (p := ⟨wr.heap.size, 2, none⟩) (by first | omega | (simp; omega) | simp)).trans (by first | assumption | (simp [go_sem]; done) | exact (World.cell?_alloc_lt _ _ ⟨_, _, _⟩ (by first | omega | (simp; omega) | simp)).trans (by assumption))
      have mw23 : w2.cell? ⟨wr.heap.size, 3, none⟩ = some (.int .i64 d) := (hb_w2.cell (p := ⟨wr.heap.size, 3, none⟩) (by first | omega | (simp; omega) | simp)).trans (by first | assumption | (simp [go_sem]; done) | exact (World.cell?_alloc_lt _ _ ⟨_, _, _⟩ (by first | omega | (simp; omega) | simp)).trans (by assumption))
      have mw24 : w2.cell? ⟨wr.heap.size, 4, none⟩ = some (.int .i64 n) := (hb_w2.cell (p := ⟨wr.heap.size, 4, none⟩) (by first | omega | (simp; omega) | simp)).trans (by first | assumption | (simp [go_sem]; done) | exact (World.cell?_alloc_lt _ _ ⟨_, _, _⟩ (by first | omega | (simp; omega) | simp)).trans (by assumption))
      have OM2 := (OM.out.later (show Below wr.heap.size wr w2 from (by repeat (first | exact Below.refl _ _ | assumption | (refine below_drewN ?_ _) | (refine Below.drew ?_) | (refine Below.alloc ?_ (by first | omega | (simp; omega) | simp) _) | (refine Below.setCell ?_ (by first | omega | (simp; omega) | simp) _) | (refine below_trans ?_ (by assumption) (by first | omega | (simp; omega) | simp))))))
      obtain ⟨w4, hrun, OM4, hgr4⟩ := HUP.out w2 OM2
      have HG4 := Lib.hid hgr4
      have HO4 := Lib.hid OM4
      have h4c : ∀ o, w4.cell? ⟨wr.heap.size, o, none⟩ = w2.cell? ⟨wr.heap.size, o, none⟩ := fun o => World.cell?_of_block (hgr4.block _ hs_w2 (by intro e9; simp only [Option.some.injEq] at e9; have e7 := OM.out.lt; omega))
      clear OM4 hgr4 OM2
      try go_wp2_with fail
      refine hK.out _ _ ?_ (fun hHeld => ?_)
      · (try dsimp only); refine ⟨?_, ?_, ?_, ?_, ?_⟩ <;> first | assumption | (simp [go_sem]; done) | exact (World.cell?_alloc_lt _ _ ⟨_, _, _⟩ (by first | omega | (simp; omega) | simp)).trans (by assumption)
      clear hK K
      try simp only [Act.put, List.getElem_toArray, List.getElem_cons_zero, List.getElem_cons_succ, List.setIfInBounds_toArray, List.set_cons_zero, List.set_cons_succ]
      refine wpAnyH_ready (rs := [4]) (by kernel_rfl) (by simp) ?_
      refine AllReadyH.cons rfl (fun K hK => ?_) AllReadyH.nil
      try simp only [List.getElem_toArray, List.getElem_cons_zero, List.getElem_cons_succ]
      go_simp
      refine hK.out _ _ ?_ (fun hHeld => ?_)
      · (try dsimp only); refine ⟨?_, ?_, ?_, ?_, ?_⟩ <;> exact (h4c _).trans (by assumption)
      clear hK K
      try simp only [Act.put, List.getElem_toArray, List.getElem_cons_zero, List.getElem_cons_succ, List.setIfInBounds_toArray, List.set_cons_zero, List.set_cons_succ]
      refine wpAnyH_done (by kernel_rfl) ?_ _
      go_wp2
      go_roundw
      case rel =>
        have hb2 : Below wr.heap.size wr w2 := (by repeat (first | exact Below.refl _ _ | assumption | (refine below_drewN ?_ _) | (refine Below.drew ?_) | (refine Below.alloc ?_ (by first | omega | (simp; omega) | simp) _) | (refine Below.setCell ?_ (by first | omega | (simp; omega) | simp) _) | (refine below_trans ?_ (by assumption) (by first | omega | (simp; omega) | simp))))
        have hs4 := HG4.out.size
        refine ⟨k + 1, by go_num, by omega, by rw [HTK.out]; exact HO4.out, ⟨fun _ => ⟨b, off, rfl, hbb, fun i hi => (HC9.out i hi).keep (fun o => ?_)⟩⟩, by omega, ?_⟩
        · rw [World.cell?_of_block (HG4.out.block b (by omega) (by intro e9; simp only [Option.some.injEq] at e9; omega))]
          exact hb2.cell (p := ⟨b, o, none⟩) (show b < wr.heap.size by omega)
        · exact (show Below w.heap.size w w2 from below_trans hb_wr hb2 (by omega)).grown HG4.out (by omega) (fun k9 hk9 => by simp only [Option.some.injEq] at hk9; omega)
      case measure => simp [intOf]; omega
    · obtain rfl : k = 16 := by omega
      go_wp2
      go_ret
      exact ⟨_, rfl, OM.out, Nat.le_refl _, hb_wr⟩
end
end Go.Proofs.YtklbamkafldagaaDoor
