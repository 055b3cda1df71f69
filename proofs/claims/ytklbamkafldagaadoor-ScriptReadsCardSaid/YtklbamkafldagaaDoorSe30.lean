/- Contracts of the document's package: Fold. -/
import Derived.Test.YtklbamkafldagaaDoorSe29
namespace Go.Proofs.YtklbamkafldagaaDoor
open Go.RowKit
set_option linter.unusedVariables false
set_option linter.unusedSimpArgs false
section
variable {w : World}
theorem last_row {w : World} {B g cap m : Nat} {a : List Ev} {x : Ev} (hm : a.length = m) (h : w.ownsRow B 41 5 (.slice (some ⟨g, 0, none⟩) (m + 1) cap) (m + 1) (flatE (a ++ [x]))) : Ev5 w g (m * 5) x ∧ B ≤ g := by
  refine ⟨?_, ?_⟩
  · have hl9 : (a ++ [x]).length = m + 1 := by simp [hm]
    have h9 : OwnsE w B (.slice (some ⟨g, 0, none⟩) (a ++ [x]).length cap) (a ++ [x]) := by unfold OwnsE; rw [hl9]; exact h
    obtain ⟨b, off, e9, _, hc⟩ := (ERow.of_owns h9).at_ (by omega)
    injection e9 with e9
    injection e9 with e91 e92
    subst e91 e92
    have := hc m (by omega)
    rw [Nat.zero_add, nthE_get _ _ (by omega)] at this
    rw [List.getElem_append_right (by omega)] at this
    simpa [hm] using this
  · obtain ⟨_, ⟨e9, _⟩ | ⟨g', _, _, e9, h2, _⟩⟩ := id h
    · cases e9
    · injection e9 with e9
      injection e9 with e9
      injection e9 with e9
      omega
set_option maxRecDepth 100000 in
set_option maxHeartbeats 8000000 in
theorem xfold_any {A : Option Addr} {l : List Ev} (cap : Nat) (hr : ERow w w.heap.size A l) (hl : l.length ≤ 17592186044416) (hk : ∀ e ∈ l, 0 ≤ e.k) (L : List Ev) (y : Int) (hy : (OkL l ∧ L = foldL l ∧ y = 0) ∨ (¬ OkL l ∧ L = [] ∧ y = 2)) :
    Calls Tryd.prog 15 #[.slice A l.length cap] w fun e w' => LstR w L y e w' := by
  unfold LstR
  rcases hy with ⟨hok, rfl, rfl⟩ | ⟨hok, rfl, rfl⟩
  · have HC := Lib.hid fun (w : World) hr => xcheck_any (w := w) (A := A) (l := l) cap hr hl hk 0 (.inl ⟨hok, rfl⟩)
    have hA : OkA l := hok.2
    have h4096 := hok.1
    have hgd : Tryd.prog.eqGuardType Tryd.prog.depth 41 = false := by kernel_rfl
    clear hok hk
    go_enter Tryd.func15, Tryd.ntmps15
    go_wp2_with fail
    go_at_call 21
    refine (HC.out _ (hr.later (by repeat (first | exact Below.refl _ _ | assumption | (refine below_drewN ?_ _) | (refine Below.drew ?_) | (refine Below.alloc ?_ (by first | omega | (simp; omega) | simp) _) | (refine Below.setCell ?_ (by first | omega | (simp; omega) | simp) _) | (refine below_trans ?_ (by assumption) (by first | omega | (simp; omega) | simp)))))).mono ?_
    rintro e w1 ⟨rfl, hb_w1⟩
    obtain ⟨hc_w1, hf_w1⟩ := bcell hb_w1; have hs_w1 := hb_w1.size; (try simp only [World.size_alloc, World.size_setCell, World.size_drew, World.heap_drewN] at hs_w1)
    have hr1 := hr.later hb_w1
    have hs01 := hb_w1.size
    go_wp2_with fail
    go_loopw [4, 14] (fun ll ii wr => ∃ (k : Nat) (F : Option Addr) (fc : Nat), ii = .int .i64 (k : Nat) ∧ k ≤ l.length ∧ ll = .slice F (foldL (l.take k)).length fc ∧ wr.ownsRow w1.heap.size 41 5 (.slice F (foldL (l.take k)).length fc) (foldL (l.take k)).length (flatE (foldL (l.take k))) ∧ Below w1.heap.size w1 wr) (fun ll ii _ => l.length - (intOf ii).toNat)
    case atStart => exact ⟨0, none, 0, rfl, Nat.zero_le _, rfl, World.ownsRow_nil _ _ _ _, (by repeat (first | exact Below.refl _ _ | assumption | (refine below_drewN ?_ _) | (refine Below.drew ?_) | (refine Below.alloc ?_ (by first | omega | (simp; omega) | simp) _) | (refine Below.setCell ?_ (by first | omega | (simp; omega) | simp) _) | (refine below_trans ?_ (by assumption) (by first | omega | (simp; omega) | simp))))⟩
    case round =>
      obtain ⟨k, F, fc, rfl, hk, rfl, own, hb_wr⟩ := hrel
      have hsr := hb_wr.size
      have OW := Lib.hid own
      clear own
      by_cases hlt : k < l.length
      · obtain ⟨b, off, rfl, hbb, hc⟩ := (hr1.later hb_wr).at_ (by omega)
        have c5 := hc k hlt
        clear hc
        have he : okE (nthE l k) = true := hA _ (nthE_mem l k hlt)
        have HT := Lib.hid (foldL_take k hlt)
        have hoA : OkA (foldL (l.take k)) := okA_foldL (hA.take k)
        have hlen : (foldL (l.take k)).length ≤ 4096 := by
          have := length_foldL (l.take k)
          rw [List.length_take] at this
          omega
        have hk0 : (0 : Int) ≤ (k : Int) := by omega
        have hk1 : (k : Int) < (l.length : Int) := by omega
        have hkl : k + 1 ≤ l.length := hlt
        clear hlt
        generalize foldL (l.take k) = acc at *
        generalize nthE l k = d at *
        obtain ⟨n1, n2, _⟩ := (okE_iff _).1 he
        rcases nil_or_snoc acc with rfl | ⟨a, x, rfl⟩
        · obtain ⟨e1, e2, e3, e4, e5⟩ := d
          obtain ⟨c0, c1, c2, c3, c4⟩ := c5
          simp only at c0 c1 c2 c3 c4
          have HT2 : Hid (foldL (l.take (k + 1)) = [⟨e1, e2, e3, e4, e5⟩]) := Lib.hid (by rw [HT.out, fold1_nil])
          clear HT hoA he hlen n1 n2
          rw [List.length_nil] at OW ⊢
          go_wp2_with fail
          refine wp_region_held_drew (S := (fun X : World => X.cell? ⟨wr.heap.size, 0, none⟩ = some (.bool e1) ∧ X.cell? ⟨wr.heap.size, 1, none⟩ = some (.int .i64 e2) ∧ X.cell? ⟨wr.heap.size, 2, none⟩ = some (.int .u8 e3) ∧ X.cell? ⟨wr.heap.size, 3, none⟩ = some (.int .i64 e4) ∧ X.cell? ⟨wr.heap.size, 4, none⟩ = some (.int .i64 e5))) (by kernel_rfl) ?_ (fun hHeld => ?_)
          · (try dsimp only); refine ⟨?_, ?_, ?_, ?_, ?_⟩ <;> first | assumption | (simp [go_sem]; done) | exact (World.cell?_alloc_lt _ _ ⟨_, _, _⟩ (by first | omega | (simp; omega) | simp)).trans (by assumption)
          refine wpAnyH_take (i := 0) (v := ?_) rfl (by kernel_rfl) (by kernel_rfl) (by kernel_rfl) (fun _ _ _ h => h) (Or.inl ⟨by rfl, ?_⟩) (by assumption) ?_
          rotate_left
          · (intro w hSw; (try dsimp only at hSw); go_simp; first | done | with_reducible rfl)
          try simp only [Act.put, List.getElem_toArray, List.getElem_cons_zero, List.getElem_cons_succ, List.setIfInBounds_toArray, List.set_cons_zero, List.set_cons_succ]
          refine wpAnyH_take (i := 1) (v := ?_) rfl (by kernel_rfl) (by kernel_rfl) (by kernel_rfl) (fun _ _ _ h => h) (Or.inl ⟨by rfl, ?_⟩) (by assumption) ?_
          rotate_left
          · (intro w hSw; (try dsimp only at hSw); go_simp; first | done | with_reducible rfl)
          try simp only [Act.put, List.getElem_toArray, List.getElem_cons_zero, List.getElem_cons_succ, List.setIfInBounds_toArray, List.set_cons_zero, List.set_cons_succ]
          refine wpAnyH_take (i := 2) (v := ?_) rfl (by kernel_rfl) (by kernel_rfl) (by kernel_rfl) (fun _ _ _ h => h) (Or.inl ⟨by rfl, ?_⟩) (by assumption) ?_
          rotate_left
          · (intro w hSw; (try dsimp only at hSw); go_simp; first | done | with_reducible rfl)
          try simp only [Act.put, List.getElem_toArray, List.getElem_cons_zero, List.getElem_cons_succ, List.setIfInBounds_toArray, List.set_cons_zero, List.set_cons_succ]
          refine wpAnyH_take (i := 3) (v := undef) rfl (by kernel_rfl) (by kernel_rfl) (by kernel_rfl) (fun _ _ _ h => h) (Or.inr ⟨by rfl, rfl⟩) (by assumption) ?_
          try simp only [Act.put, List.getElem_toArray, List.getElem_cons_zero, List.getElem_cons_succ, List.setIfInBounds_toArray, List.set_cons_zero, List.set_cons_succ]
          refine wpAnyH_take (i := 4) (v := undef) rfl (by kernel_rfl) (by kernel_rfl) (by kernel_rfl) (fun _ _ _ h => h) (Or.inr ⟨by rfl, rfl⟩) (by assumption) ?_
          try simp only [Act.put, List.getElem_toArray, List.getElem_cons_zero, List.getElem_cons_succ, List.setIfInBounds_toArray, List.set_cons_zero, List.set_cons_succ]
          refine wpAnyH_take (i := 5) (v := undef) rfl (by kernel_rfl) (by kernel_rfl) (by kernel_rfl) (fun _ _ _ h => h) (Or.inr ⟨by rfl, rfl⟩) (by assumption) ?_
          try simp only [Act.put, List.getElem_toArray, List.getElem_cons_zero, List.getElem_cons_succ, List.setIfInBounds_toArray, List.set_cons_zero, List.set_cons_succ]
          refine wpAnyH_take (i := 6) (v := undef) rfl (by kernel_rfl) (by kernel_rfl) (by kernel_rfl) (fun _ _ _ h => h) (Or.inr ⟨by rfl, rfl⟩) (by assumption) ?_
          try simp only [Act.put, List.getElem_toArray, List.getElem_cons_zero, List.getElem_cons_succ, List.setIfInBounds_toArray, List.set_cons_zero, List.set_cons_succ]
          refine wpAnyH_take (i := 7) (v := undef) rfl (by kernel_rfl) (by kernel_rfl) (by kernel_rfl) (fun _ _ _ h => h) (Or.inr ⟨by rfl, rfl⟩) (by assumption) ?_
          try simp only [Act.put, List.getElem_toArray, List.getElem_cons_zero, List.getElem_cons_succ, List.setIfInBounds_toArray, List.set_cons_zero, List.set_cons_succ]
          refine wpAnyH_take (i := 8) (v := undef) rfl (by kernel_rfl) (by kernel_rfl) (by kernel_rfl) (fun _ _ _ h => h) (Or.inr ⟨by rfl, rfl⟩) (by assumption) ?_
          try simp only [Act.put, List.getElem_toArray, List.getElem_cons_zero, List.getElem_cons_succ, List.setIfInBounds_toArray, List.set_cons_zero, List.set_cons_succ]
          refine wpAnyH_take (i := 9) (v := undef) rfl (by kernel_rfl) (by kernel_rfl) (by kernel_rfl) (fun _ _ _ h => h) (Or.inr ⟨by rfl, rfl⟩) (by assumption) ?_
          try simp only [Act.put, List.getElem_toArray, List.getElem_cons_zero, List.getElem_cons_succ, List.setIfInBounds_toArray, List.set_cons_zero, List.set_cons_succ]
          refine wpAnyH_ready (rs := [10]) (by kernel_rfl) (by simp) ?_
          refine AllReadyH.cons rfl (fun K hK => ?_) AllReadyH.nil
          try simp only [List.getElem_toArray, List.getElem_cons_zero, List.getElem_cons_succ]
          go_simp
          refine hK.out _ _ ?_ (fun hHeld => ?_)
          · (try dsimp only); refine ⟨?_, ?_, ?_, ?_, ?_⟩ <;> first | assumption | (simp [go_sem]; done) | exact (World.cell?_alloc_lt _ _ ⟨_, _, _⟩ (by first | omega | (simp; omega) | simp)).trans (by assumption)
          clear hK K
          try simp only [Act.put, List.getElem_toArray, List.getElem_cons_zero, List.getElem_cons_succ, List.setIfInBounds_toArray, List.set_cons_zero, List.set_cons_succ]
          refine wpAnyH_done (by kernel_rfl) ?_ _
          have HLI : Hid (∀ j u, (flatE [⟨e1, e2, e3, e4, e5⟩])[j]? = some u → ((wr.alloc (.cells #[.bool e1, .int .i64 e2, .int .u8 e3, .int .i64 e4, .int .i64 e5] 41)).alloc (.cells #[.bool e1, .int .i64 e2, .int .u8 e3, .int .i64 e4, .int .i64 e5] 41)).cell? ⟨wr.heap.size + 1, 0 + j, none⟩ = some u) := Lib.hid (by
            have h := fl_lies (wr.alloc (.cells #[.bool e1, .int .i64 e2, .int .u8 e3, .int .i64 e4, .int .i64 e5] 41)) (flatE [⟨e1, e2, e3, e4, e5⟩]) 41
            rw [World.size_alloc] at h
            exact h)
          go_wp2_with (at_builtin; refine wpList_appendE ?_ (.tmp 32) (.tmp 34) ?_ w1.heap.size F fc 0 [] ?_ (owns_laterE OW.out (show Below wr.heap.size wr _ from (by repeat (first | exact Below.refl _ _ | assumption | (refine below_drewN ?_ _) | (refine Below.drew ?_) | (refine Below.alloc ?_ (by first | omega | (simp; omega) | simp) _) | (refine Below.setCell ?_ (by first | omega | (simp; omega) | simp) _) | (refine below_trans ?_ (by assumption) (by first | omega | (simp; omega) | simp)))))) (some ⟨wr.heap.size + 1, 0, none⟩) 1 1 (flatE [⟨e1, e2, e3, e4, e5⟩]) ?_ rfl (fun _ => ⟨wr.heap.size + 1, 0, rfl, fl_liesG _ _ (by simp) (flatE [⟨e1, e2, e3, e4, e5⟩]) _⟩) (flatE_one _) (by omega) (by simp; omega) ?_; rfl; rfl; rfl; rfl; intro A7 cap7 w7 hown7 hg7 hb_w7 hat7; have hs7 := hb_w7.size)
          have HB7 := Lib.hid (show Below w1.heap.size w1 w7 from below_trans (show Below w1.heap.size w1 _ from (by repeat (first | exact Below.refl _ _ | assumption | (refine below_drewN ?_ _) | (refine Below.drew ?_) | (refine Below.alloc ?_ (by first | omega | (simp; omega) | simp) _) | (refine Below.setCell ?_ (by first | omega | (simp; omega) | simp) _) | (refine below_trans ?_ (by assumption) (by first | omega | (simp; omega) | simp))))) hb_w7 (Nat.le_refl _))
          have HO7 := Lib.hid hown7
          clear hown7 hb_w7 hg7
          go_roundw
          case rel => exact ⟨k + 1, A7, cap7, by go_num, hkl, by rw [HT2.out]; rfl, by rw [HT2.out]; exact HO7.out, HB7.out⟩
          case measure => simp [intOf]; omega
        · obtain ⟨m, hm⟩ : ∃ m, a.length = m := ⟨_, rfl⟩
          have hlen9 : (a ++ [x]).length = m + 1 := by simp [hm]
          have hx : okE x = true := OkA.last hoA
          rw [hlen9] at OW hlen ⊢
          obtain ⟨g, rfl⟩ : ∃ g, F = some ⟨g, 0, none⟩ := by
            obtain ⟨_, ⟨e9, h0⟩ | ⟨g, cap', cur, e9, _⟩⟩ := OW.out
            · omega
            · injection e9 with e1 _ e3
              exact ⟨g, e1⟩
          obtain ⟨hrow, hBg⟩ := last_row hm OW.out
          have hglt := hrow.lt
          have HF := Lib.hid (fold1_snoc a x d)
          obtain ⟨q1, q2, _⟩ := (okE_iff x).1 hx
          have hlk : one x = one d ∨ one x ≠ one d := Decidable.em _
          obtain ⟨e1, e2, e3, e4, e5⟩ := d
          obtain ⟨c0, c1, c2, c3, c4⟩ := c5
          obtain ⟨x1, x2, x3, x4, x5⟩ := x
          simp only at q1 q2 n1 n2 c0 c1 c2 c3 c4
          clear hx he hoA
          obtain ⟨p0, p1, p2, p3, p4⟩ := hrow
          simp only at p0 p1 p2 p3 p4
          have hm0 : (0 : Int) ≤ (m : Int) := by omega
          have hm1 : (m : Int) < (m : Int) + 1 := by omega
          have z0 : decide ((m : Int) < 0) = false := decide_eq_false (by omega)
          have zw : IntKind.i64.wrap (m : Int) = (m : Int) := by unfold IntKind.wrap; simp [IntKind.signed, IntKind.bits]; omega
          rcases hlk with hlk | hlk
          · have HLK := Lib.hid fun (w : World) => xlike_any (w := w) x1 x2 x3 x4 x5 e1 e2 e3 e4 e5 true ⟨fun _ => hlk, fun _ => rfl⟩
            go_wp2_with fail
            refine wp_region_held_drew (S := (fun X : World => X.cell? ⟨wr.heap.size, 0, none⟩ = some (.bool e1) ∧ X.cell? ⟨wr.heap.size, 1, none⟩ = some (.int .i64 e2) ∧ X.cell? ⟨wr.heap.size, 2, none⟩ = some (.int .u8 e3) ∧ X.cell? ⟨wr.heap.size, 3, none⟩ = some (.int .i64 e4) ∧ X.cell? ⟨wr.heap.size, 4, none⟩ = some (.int .i64 e5) ∧ X.cell? ⟨g, m * 5, none⟩ = some (.bool x1) ∧ X.cell? ⟨g, m * 5 + 1, none⟩ = some (.int .i64 x2) ∧ X.cell? ⟨g, m * 5 + 2, none⟩ = some (.int .u8 x3) ∧ X.cell? ⟨g, m * 5 + 3, none⟩ = some (.int .i64 x4) ∧ X.cell? ⟨g, m * 5 + 4, none⟩ = some (.int .i64 x5))) (by kernel_rfl) ?_ (fun hHeld => ?_)
            · (try dsimp only); refine ⟨?_, ?_, ?_, ?_, ?_, ?_, ?_, ?_, ?_, ?_⟩ <;> first | assumption | (simp [go_sem]; done) | exact (World.cell?_alloc_lt _ _ ⟨_, _, _⟩ (by first | omega | (simp; omega) | simp)).trans (by assumption)
            refine wpAnyH_take (i := 0) (v := ?_) rfl (by kernel_rfl) (by kernel_rfl) (by kernel_rfl) (fun _ _ _ h => h) (Or.inl ⟨by rfl, ?_⟩) (by assumption) ?_
            rotate_left
            · (intro w hSw; (try dsimp only at hSw); go_simp; first | done | with_reducible rfl)
            try simp only [Act.put, List.getElem_toArray, List.getElem_cons_zero, List.getElem_cons_succ, List.setIfInBounds_toArray, List.set_cons_zero, List.set_cons_succ]
            refine wpAnyH_take (i := 1) (v := ?_) rfl (by kernel_rfl) (by kernel_rfl) (by kernel_rfl) (fun _ _ _ h => h) (Or.inl ⟨by rfl, ?_⟩) (by assumption) ?_
            rotate_left
            · (intro w hSw; (try dsimp only at hSw); go_simp; first | done | with_reducible rfl)
            try simp only [Act.put, List.getElem_toArray, List.getElem_cons_zero, List.getElem_cons_succ, List.setIfInBounds_toArray, List.set_cons_zero, List.set_cons_succ]
            refine wpAnyH_take (i := 2) (v := ?_) rfl (by kernel_rfl) (by kernel_rfl) (by kernel_rfl) (fun _ _ _ h => h) (Or.inl ⟨by rfl, ?_⟩) (by assumption) ?_
            rotate_left
            · (intro w hSw; (try dsimp only at hSw); go_simp; first | done | with_reducible rfl)
            try simp only [Act.put, List.getElem_toArray, List.getElem_cons_zero, List.getElem_cons_succ, List.setIfInBounds_toArray, List.set_cons_zero, List.set_cons_succ]
            refine wpAnyH_take (i := 3) (v := ?_) rfl (by kernel_rfl) (by kernel_rfl) (by kernel_rfl) (fun _ _ _ h => h) (Or.inl ⟨by rfl, ?_⟩) (by assumption) ?_
            rotate_left
            · (intro w hSw; (try dsimp only at hSw); go_simp; first | done | with_reducible rfl)
            try simp only [Act.put, List.getElem_toArray, List.getElem_cons_zero, List.getElem_cons_succ, List.setIfInBounds_toArray, List.set_cons_zero, List.set_cons_succ]
            refine wpAnyH_take (i := 4) (v := ?_) rfl (by kernel_rfl) (by kernel_rfl) (by kernel_rfl) (fun _ _ _ h => h) (Or.inl ⟨by rfl, ?_⟩) (by assumption) ?_
            rotate_left
            · (intro w hSw; (try dsimp only at hSw); go_simp; first | done | with_reducible rfl)
            try simp only [Act.put, List.getElem_toArray, List.getElem_cons_zero, List.getElem_cons_succ, List.setIfInBounds_toArray, List.set_cons_zero, List.set_cons_succ]
            refine wpAnyH_take (i := 5) (v := ?_) rfl (by kernel_rfl) (by kernel_rfl) (by kernel_rfl) (fun _ _ _ h => h) (Or.inl ⟨by rfl, ?_⟩) (by assumption) ?_
            rotate_left
            · (intro w hSw; (try dsimp only at hSw); go_simp; first | done | with_reducible rfl)
            try simp only [Act.put, List.getElem_toArray, List.getElem_cons_zero, List.getElem_cons_succ, List.setIfInBounds_toArray, List.set_cons_zero, List.set_cons_succ]
            refine wpAnyH_take (i := 6) (v := ?_) rfl (by kernel_rfl) (by kernel_rfl) (by kernel_rfl) (fun _ _ _ h => h) (Or.inl ⟨by rfl, ?_⟩) (by assumption) ?_
            rotate_left
            · (intro w hSw; (try dsimp only at hSw); go_simp; first | done | with_reducible rfl)
            try simp only [Act.put, List.getElem_toArray, List.getElem_cons_zero, List.getElem_cons_succ, List.setIfInBounds_toArray, List.set_cons_zero, List.set_cons_succ]
            refine wpAnyH_take (i := 7) (v := ?_) rfl (by kernel_rfl) (by kernel_rfl) (by kernel_rfl) (fun _ _ _ h => h) (Or.inl ⟨by rfl, ?_⟩) (by assumption) ?_
            rotate_left
            · (intro w hSw; (try dsimp only at hSw); go_simp; first | done | with_reducible rfl)
            try simp only [Act.put, List.getElem_toArray, List.getElem_cons_zero, List.getElem_cons_succ, List.setIfInBounds_toArray, List.set_cons_zero, List.set_cons_succ]
            refine wpAnyH_ready (rs := [8]) (by kernel_rfl) (by simp) ?_
            refine AllReadyH.cons rfl (fun K hK => ?_) AllReadyH.nil
            try simp only [List.getElem_toArray, List.getElem_cons_zero, List.getElem_cons_succ]
            go_simp
            go_at_call 31
            refine (HLK.out _).mono ?_
            rintro e w3 ⟨rfl, hb_w3⟩
            have hs_w3 : wr.heap.size < w3.heap.size := (by have := hb_w3.size; (try simp only [World.size_drew, World.heap_drewN, World.size_alloc] at this); omega)
            have mw30 : w3.cell? ⟨wr.heap.size, 0, none⟩ = some (.bool e1) := (hb_w3.cell (p := ⟨wr.heap.size, 0, none⟩) (by first | omega | (simp; omega) | simp)).trans (by first | assumption | (simp [go_sem]; done) | exact (World.cell?_alloc_lt _ _ ⟨_, _, _⟩ (by first | omega | (simp; omega) | simp)).trans (by assumption))
            have mw31 : w3.cell? ⟨wr.heap.size, 1, none⟩ = some (.int .i64 e2) := (hb_w3.cell (p := ⟨wr.heap.size, 1, none⟩) (by first | omega | (simp; omega) | simp)).trans (by first | assumption | (simp [go_sem]; done) | exact (World.cell?_alloc_lt _ _ ⟨_, _, _⟩ (by first | omega | (simp; omega) | simp)).trans (by assumption))
            have mw32 : w3.cell? ⟨wr.heap.size, 2, none⟩ = some (.int .u8 e3) := (hb_w3.cell (p := ⟨wr.heap.size, 2, none⟩) (by first | omega | (simp; omega) | simp)).trans (by first | assumption | (simp [go_sem]; done) | exact (World.cell?_alloc_lt _ _ ⟨_, _, _⟩ (by first | omega | (simp; omega) | simp)).trans (by assumption))
            have mw33 : w3.cell? ⟨wr.heap.size, 3, none⟩ = some (.int .i64 e4) := (hb_w3.cell (p := ⟨wr.heap.size, 3, none⟩) (by first | omega | (simp; omega) | simp)).trans (by first | assumption | (simp [go_sem]; done) | exact (World.cell?_alloc_lt _ _ ⟨_, _, _⟩ (by first | omega | (simp; omega) | simp)).trans (by assumption))
            have mw34 : w3.cell? ⟨wr.heap.size, 4, none⟩ = some (.int .i64 e5) := (hb_w3.cell (p := ⟨wr.heap.size, 4, none⟩) (by first | omega | (simp; omega) | simp)).trans (by first | assumption | (simp [go_sem]; done) | exact (World.cell?_alloc_lt _ _ ⟨_, _, _⟩ (by first | omega | (simp; omega) | simp)).trans (by assumption))
            have mw35 : w3.cell? ⟨g, m * 5, none⟩ = some (.bool x1) := (hb_w3.cell (p := ⟨g, m * 5, none⟩) (by first | omega | (simp; omega) | simp)).trans (by first | assumption | (simp [go_sem]; done) | exact (World.cell?_alloc_lt _ _ ⟨_, _, _⟩ (by first | omega | (simp; omega) | simp)).trans (by assumption))
            have mw36 : w3.cell? ⟨g, m * 5 + 1, none⟩ = some (.int .i64 x2) := (hb_w3.cell (p := ⟨g, m * 5 + 1, none⟩) (by first | omega | (simp; omega) | simp)).trans (by first | assumption | (simp [go_sem]; done) | exact (World.cell?_alloc_lt _ _ ⟨_, _, _⟩ (by first | omega | (simp; omega) | simp)).trans (by assumption))
            have mw37 : w3.cell? ⟨g, m * 5 + 2, none⟩ = some (.int .u8 x3) := (hb_w3.cell (p := ⟨g, m * 5 + 2, none⟩) (by first | omega | (simp; omega) | simp)).trans (by first | assumption | (simp [go_sem]; done) | exact (World.cell?_alloc_lt _ _ ⟨_, _, _⟩ (by first | omega | (simp; omega) | simp)).trans (by assumption))
            have mw38 : w3.cell? ⟨g, m * 5 + 3, none⟩ = some (.int .i64 x4) := (hb_w3.cell (p := ⟨g, m * 5 + 3, none⟩) (by first | omega | (simp; omega) | simp)).trans (by first | assumption | (simp [go_sem]; done) | exact (World.cell?_alloc_lt _ _ ⟨_, _, _⟩ (by first | omega | (simp; omega) | simp)).trans (by assumption))
            have mw39 : w3.cell? ⟨g, m * 5 + 4, none⟩ = some (.int .i64 x5) := (hb_w3.cell (p := ⟨g, m * 5 + 4, none⟩) (by first | omega | (simp; omega) | simp)).trans (by first | assumption | (simp [go_sem]; done) | exact (World.cell?_alloc_lt _ _ ⟨_, _, _⟩ (by first | omega | (simp; omega) | simp)).trans (by assumption))
            try go_wp2_with fail
            refine hK.out _ _ ?_ (fun hHeld => ?_)
            · (try dsimp only); refine ⟨?_, ?_, ?_, ?_, ?_, ?_, ?_, ?_, ?_, ?_⟩ <;> first | assumption | (simp [go_sem]; done) | exact (World.cell?_alloc_lt _ _ ⟨_, _, _⟩ (by first | omega | (simp; omega) | simp)).trans (by assumption)
            clear hK K
            try simp only [Act.put, List.getElem_toArray, List.getElem_cons_zero, List.getElem_cons_succ, List.setIfInBounds_toArray, List.set_cons_zero, List.set_cons_succ]
            refine wpAnyH_take (i := 9) (v := ?_) rfl (by kernel_rfl) (by kernel_rfl) (by kernel_rfl) (fun _ _ _ h => h) (Or.inl ⟨by rfl, ?_⟩) (by assumption) ?_
            rotate_left
            · (intro w hSw; (try dsimp only at hSw); go_simp; first | done | with_reducible rfl)
            try simp only [Act.put, List.getElem_toArray, List.getElem_cons_zero, List.getElem_cons_succ, List.setIfInBounds_toArray, List.set_cons_zero, List.set_cons_succ]
            refine wpAnyH_ready (rs := [10]) (by kernel_rfl) (by simp) ?_
            refine AllReadyH.cons rfl (fun K hK => ?_) AllReadyH.nil
            try simp only [List.getElem_toArray, List.getElem_cons_zero, List.getElem_cons_succ]
            go_simp
            refine hK.out _ _ ?_ (fun hHeld => ?_)
            · (try dsimp only); refine ⟨?_, ?_, ?_, ?_, ?_, ?_, ?_, ?_, ?_, ?_⟩ <;> first | assumption | (simp [go_sem]; done) | exact (World.cell?_alloc_lt _ _ ⟨_, _, _⟩ (by first | omega | (simp; omega) | simp)).trans (by assumption)
            clear hK K
            try simp only [Act.put, List.getElem_toArray, List.getElem_cons_zero, List.getElem_cons_succ, List.setIfInBounds_toArray, List.set_cons_zero, List.set_cons_succ]
            refine wpAnyH_done (by kernel_rfl) ?_ _
            have hb3 : Below wr.heap.size wr w3 := (by repeat (first | exact Below.refl _ _ | assumption | (refine below_drewN ?_ _) | (refine Below.drew ?_) | (refine Below.alloc ?_ (by first | omega | (simp; omega) | simp) _) | (refine Below.setCell ?_ (by first | omega | (simp; omega) | simp) _) | (refine below_trans ?_ (by assumption) (by first | omega | (simp; omega) | simp))))
            have OW3 := Lib.hid (owns_laterE OW.out hb3)
            have hfz : w3.frozen? ⟨g, m * 5 + 4, none⟩ = false := ownsE_frozen OW3.out _
            have hfe : w3.frozen? ⟨wr.heap.size, 4, none⟩ = false := (hb_w3.frozen (p := ⟨wr.heap.size, 4, none⟩) (by simp)).trans (by simp [go_sem])
            have zs : IntKind.i64.wrap (x5 + e5) = x5 + e5 := by unfold IntKind.wrap; simp [IntKind.signed, IntKind.bits]; omega
            have hb13 : Below w1.heap.size w1 w3 := below_trans hb_wr hb3 hsr
            clear hb_w3
            have hgw : g ≠ wr.heap.size := by omega
            by_cases hs : x5 + e5 ≤ 4096
            · have d1 : decide (x5 + e5 ≤ 4096) = true := decide_eq_true hs
              have HF2 : Hid (fold1 (a ++ [⟨x1, x2, x3, x4, x5⟩]) ⟨e1, e2, e3, e4, e5⟩ = a ++ [⟨x1, x2, x3, x4, x5 + e5⟩]) := Lib.hid (by rw [HF.out, if_pos hlk]; exact if_pos hs)
              clear HF hlk
              have HSN := Lib.hid (flatE_setn a ⟨x1, x2, x3, x4, x5⟩ (x5 + e5))
              have HLEN : Hid ((a ++ [(⟨x1, x2, x3, x4, x5 + e5⟩ : Ev)]).length = m + 1) := Lib.hid (by simp [hm])
              have HM := Lib.hid hm
              clear hlen9 hm
              go_wp2_with fail
              go_quiet (fail)
              go_wp2
              go_roundw
              case rel =>
                refine ⟨k + 1, some ⟨g, 0, none⟩, fc, by go_num, hkl, by rw [HT.out, HF2.out, HLEN.out], ?_, Below.setCell (Below.drewN9 hb13 nq) hBg _⟩
                rw [HT.out, HF2.out, HLEN.out]
                have h9 := ownsE_set (show (w3.drewN nq).ownsRow w1.heap.size 41 5 (.slice (some ⟨g, 0, none⟩) (m + 1) fc) (m + 1) (flatE (a ++ [⟨x1, x2, x3, x4, x5⟩])) from OW3.out) (j := m * 5 + 4) (by omega) (.int .i64 (x5 + e5))
                have h8 := HSN.out
                rw [HM.out] at h8
                rw [h8] at h9
                exact h9
              case measure => simp [intOf]; omega
            · have d1 : decide (x5 + e5 ≤ 4096) = false := decide_eq_false hs
              have HF2 : Hid (fold1 (a ++ [⟨x1, x2, x3, x4, x5⟩]) ⟨e1, e2, e3, e4, e5⟩ = (a ++ [⟨x1, x2, x3, x4, 4096⟩]) ++ [⟨e1, e2, e3, e4, x5 + e5 - 4096⟩]) := Lib.hid (by rw [HF.out, if_pos hlk, List.append_assoc]; exact if_neg hs)
              clear HF hlk
              have zd : IntKind.i64.wrap (x5 + e5 - 4096) = x5 + e5 - 4096 := by unfold IntKind.wrap; simp [IntKind.signed, IntKind.bits]; omega
              have HSN := Lib.hid (flatE_setn a ⟨x1, x2, x3, x4, x5⟩ 4096)
              have HFE := Lib.hid (flatE_append (a ++ [⟨x1, x2, x3, x4, 4096⟩]) [⟨e1, e2, e3, e4, x5 + e5 - 4096⟩])
              have HLEN : Hid (((a ++ [(⟨x1, x2, x3, x4, 4096⟩ : Ev)]) ++ [(⟨e1, e2, e3, e4, x5 + e5 - 4096⟩ : Ev)]).length = m + 1 + 1) := Lib.hid (by simp [hm])
              have HM := Lib.hid hm
              clear hlen9 hm
              have h9 := fun nq => ownsE_set (show (w3.drewN nq).ownsRow w1.heap.size 41 5 (.slice (some ⟨g, 0, none⟩) (m + 1) fc) (m + 1) (flatE (a ++ [⟨x1, x2, x3, x4, x5⟩])) from OW3.out) (j := m * 5 + 4) (by omega) (.int .i64 4096)
              have h8 := HSN.out
              rw [HM.out] at h8
              rw [h8] at h9
              have H9 := Lib.hid fun nq => ownsE_far (h9 nq) (p := ⟨wr.heap.size, 4, none⟩) (by simp [Value.ownBlock]; exact hgw) (.int .i64 (x5 + e5 - 4096))
              clear h8 h9
              go_wp2_with fail
              go_quiet (fail)
              go_wp2_with (at_builtin; refine wpList_appendE ?_ (.tmp 58) (.tmp 60) ?_ w1.heap.size (some ⟨g, 0, none⟩) fc (m + 1) (flatE (a ++ [⟨x1, x2, x3, x4, 4096⟩])) ?_ (owns_laterE (H9.out nq) (Below.alloc (Below.refl _ _) (Nat.le_refl _) _)) (some ⟨w3.heap.size, 0, none⟩) 1 1 (flatE [⟨e1, e2, e3, e4, x5 + e5 - 4096⟩]) ?_ rfl (fun _ => ⟨w3.heap.size, 0, rfl, fl_liesG _ _ (by simp) (flatE [⟨e1, e2, e3, e4, x5 + e5 - 4096⟩]) _⟩) (flatE_one _) (by omega) (by simp; omega) ?_; rfl; rfl; rfl; rfl; intro A7 cap7 w7 hown7 hg7 hb_w7 hat7; have hs7 := hb_w7.size)
              have HB7 := Lib.hid (show Below w1.heap.size w1 w7 from below_trans (Below.setCell (Below.setCell (Below.drewN9 hb13 nq) (show w1.heap.size ≤ g from hBg) _) (show w1.heap.size ≤ wr.heap.size from hsr) _) (show Below w1.heap.size _ w7 from below_trans (Below.alloc (Below.refl _ _) (by simp; omega) _) hb_w7 (Nat.le_refl _)) (Nat.le_refl _))
              have HO7 := Lib.hid hown7
              clear hown7 hb_w7 hg7
              go_roundw
              case rel => exact ⟨k + 1, A7, cap7, by go_num, hkl, by rw [HT.out, HF2.out, HLEN.out], by rw [HT.out, HF2.out, HLEN.out, HFE.out]; exact HO7.out, HB7.out⟩
              case measure => simp [intOf]; omega
          · have HLK := Lib.hid fun (w : World) => xlike_any (w := w) x1 x2 x3 x4 x5 e1 e2 e3 e4 e5 false ⟨fun h => (by cases h), fun h => absurd h hlk⟩
            have HF2 : Hid (fold1 (a ++ [⟨x1, x2, x3, x4, x5⟩]) ⟨e1, e2, e3, e4, e5⟩ = (a ++ [⟨x1, x2, x3, x4, x5⟩]) ++ [⟨e1, e2, e3, e4, e5⟩]) := Lib.hid (by rw [HF.out, if_neg hlk]; simp)
            have HFE := Lib.hid (flatE_append (a ++ [⟨x1, x2, x3, x4, x5⟩]) [⟨e1, e2, e3, e4, e5⟩])
            have HLEN : Hid (((a ++ [(⟨x1, x2, x3, x4, x5⟩ : Ev)]) ++ [(⟨e1, e2, e3, e4, e5⟩ : Ev)]).length = m + 1 + 1) := Lib.hid (by simp [hm])
            clear HF hlk q1 q2 n1 n2 hlen9 hm
            go_wp2_with fail
            refine wp_region_held_drew (S := (fun X : World => X.cell? ⟨wr.heap.size, 0, none⟩ = some (.bool e1) ∧ X.cell? ⟨wr.heap.size, 1, none⟩ = some (.int .i64 e2) ∧ X.cell? ⟨wr.heap.size, 2, none⟩ = some (.int .u8 e3) ∧ X.cell? ⟨wr.heap.size, 3, none⟩ = some (.int .i64 e4) ∧ X.cell? ⟨wr.heap.size, 4, none⟩ = some (.int .i64 e5) ∧ X.cell? ⟨g, m * 5, none⟩ = some (.bool x1) ∧ X.cell? ⟨g, m * 5 + 1, none⟩ = some (.int .i64 x2) ∧ X.cell? ⟨g, m * 5 + 2, none⟩ = some (.int .u8 x3) ∧ X.cell? ⟨g, m * 5 + 3, none⟩ = some (.int .i64 x4) ∧ X.cell? ⟨g, m * 5 + 4, none⟩ = some (.int .i64 x5))) (by kernel_rfl) ?_ (fun hHeld => ?_)
            · (try dsimp only); refine ⟨?_, ?_, ?_, ?_, ?_, ?_, ?_, ?_, ?_, ?_⟩ <;> first | assumption | (simp [go_sem]; done) | exact (World.cell?_alloc_lt _ _ ⟨_, _, _⟩ (by first | omega | (simp; omega) | simp)).trans (by assumption)
            refine wpAnyH_take (i := 0) (v := ?_) rfl (by kernel_rfl) (by kernel_rfl) (by kernel_rfl) (fun _ _ _ h => h) (Or.inl ⟨by rfl, ?_⟩) (by assumption) ?_
            rotate_left
            · (intro w hSw; (try dsimp only at hSw); go_simp; first | done | with_reducible rfl)
            try simp only [Act.put, List.getElem_toArray, List.getElem_cons_zero, List.getElem_cons_succ, List.setIfInBounds_toArray, List.set_cons_zero, List.set_cons_succ]
            refine wpAnyH_take (i := 1) (v := ?_) rfl (by kernel_rfl) (by kernel_rfl) (by kernel_rfl) (fun _ _ _ h => h) (Or.inl ⟨by rfl, ?_⟩) (by assumption) ?_
            rotate_left
            · (intro w hSw; (try dsimp only at hSw); go_simp; first | done | with_reducible rfl)
            try simp only [Act.put, List.getElem_toArray, List.getElem_cons_zero, List.getElem_cons_succ, List.setIfInBounds_toArray, List.set_cons_zero, List.set_cons_succ]
            refine wpAnyH_take (i := 2) (v := ?_) rfl (by kernel_rfl) (by kernel_rfl) (by kernel_rfl) (fun _ _ _ h => h) (Or.inl ⟨by rfl, ?_⟩) (by assumption) ?_
            rotate_left
            · (intro w hSw; (try dsimp only at hSw); go_simp; first | done | with_reducible rfl)
            try simp only [Act.put, List.getElem_toArray, List.getElem_cons_zero, List.getElem_cons_succ, List.setIfInBounds_toArray, List.set_cons_zero, List.set_cons_succ]
            refine wpAnyH_take (i := 3) (v := ?_) rfl (by kernel_rfl) (by kernel_rfl) (by kernel_rfl) (fun _ _ _ h => h) (Or.inl ⟨by rfl, ?_⟩) (by assumption) ?_
            rotate_left
            · (intro w hSw; (try dsimp only at hSw); go_simp; first | done | with_reducible rfl)
            try simp only [Act.put, List.getElem_toArray, List.getElem_cons_zero, List.getElem_cons_succ, List.setIfInBounds_toArray, List.set_cons_zero, List.set_cons_succ]
            refine wpAnyH_take (i := 4) (v := ?_) rfl (by kernel_rfl) (by kernel_rfl) (by kernel_rfl) (fun _ _ _ h => h) (Or.inl ⟨by rfl, ?_⟩) (by assumption) ?_
            rotate_left
            · (intro w hSw; (try dsimp only at hSw); go_simp; first | done | with_reducible rfl)
            try simp only [Act.put, List.getElem_toArray, List.getElem_cons_zero, List.getElem_cons_succ, List.setIfInBounds_toArray, List.set_cons_zero, List.set_cons_succ]
            refine wpAnyH_take (i := 5) (v := ?_) rfl (by kernel_rfl) (by kernel_rfl) (by kernel_rfl) (fun _ _ _ h => h) (Or.inl ⟨by rfl, ?_⟩) (by assumption) ?_
            rotate_left
            · (intro w hSw; (try dsimp only at hSw); go_simp; first | done | with_reducible rfl)
            try simp only [Act.put, List.getElem_toArray, List.getElem_cons_zero, List.getElem_cons_succ, List.setIfInBounds_toArray, List.set_cons_zero, List.set_cons_succ]
            refine wpAnyH_take (i := 6) (v := ?_) rfl (by kernel_rfl) (by kernel_rfl) (by kernel_rfl) (fun _ _ _ h => h) (Or.inl ⟨by rfl, ?_⟩) (by assumption) ?_
            rotate_left
            · (intro w hSw; (try dsimp only at hSw); go_simp; first | done | with_reducible rfl)
            try simp only [Act.put, List.getElem_toArray, List.getElem_cons_zero, List.getElem_cons_succ, List.setIfInBounds_toArray, List.set_cons_zero, List.set_cons_succ]
            refine wpAnyH_take (i := 7) (v := ?_) rfl (by kernel_rfl) (by kernel_rfl) (by kernel_rfl) (fun _ _ _ h => h) (Or.inl ⟨by rfl, ?_⟩) (by assumption) ?_
            rotate_left
            · (intro w hSw; (try dsimp only at hSw); go_simp; first | done | with_reducible rfl)
            try simp only [Act.put, List.getElem_toArray, List.getElem_cons_zero, List.getElem_cons_succ, List.setIfInBounds_toArray, List.set_cons_zero, List.set_cons_succ]
            refine wpAnyH_ready (rs := [8]) (by kernel_rfl) (by simp) ?_
            refine AllReadyH.cons rfl (fun K hK => ?_) AllReadyH.nil
            try simp only [List.getElem_toArray, List.getElem_cons_zero, List.getElem_cons_succ]
            go_simp
            go_at_call 31
            refine (HLK.out _).mono ?_
            rintro e w3 ⟨rfl, hb_w3⟩
            have hs_w3 : wr.heap.size < w3.heap.size := (by have := hb_w3.size; (try simp only [World.size_drew, World.heap_drewN, World.size_alloc] at this); omega)
            have mw30 : w3.cell? ⟨wr.heap.size, 0, none⟩ = some (.bool e1) := (hb_w3.cell (p := ⟨wr.heap.size, 0, none⟩) (by first | omega | (simp; omega) | simp)).trans (by first | assumption | (simp [go_sem]; done) | exact (World.cell?_alloc_lt _ _ ⟨_, _, _⟩ (by first | omega | (simp; omega) | simp)).trans (by assumption))
            have mw31 : w3.cell? ⟨wr.heap.size, 1, none⟩ = some (.int .i64 e2) := (hb_w3.cell (p := ⟨wr.heap.size, 1, none⟩) (by first | omega | (simp; omega) | simp)).trans (by first | assumption | (simp [go_sem]; done) | exact (World.cell?_alloc_lt _ _ ⟨_, _, _⟩ (by first | omega | (simp; omega) | simp)).trans (by assumption))
            have mw32 : w3.cell? ⟨wr.heap.size, 2, none⟩ = some (.int .u8 e3) := (hb_w3.cell (p := ⟨wr.heap.size, 2, none⟩) (by first | omega | (simp; omega) | simp)).trans (by first | assumption | (simp [go_sem]; done) | exact (World.cell?_alloc_lt _ _ ⟨_, _, _⟩ (by first | omega | (simp; omega) | simp)).trans (by assumption))
            have mw33 : w3.cell? ⟨wr.heap.size, 3, none⟩ = some (.int .i64 e4) := (hb_w3.cell (p := ⟨wr.heap.size, 3, none⟩) (by first | omega | (simp; omega) | simp)).trans (by first | assumption | (simp [go_sem]; done) | exact (World.cell?_alloc_lt _ _ ⟨_, _, _⟩ (by first | omega | (simp; omega) | simp)).trans (by assumption))
            have mw34 : w3.cell? ⟨wr.heap.size, 4, none⟩ = some (.int .i64 e5) := (hb_w3.cell (p := ⟨wr.heap.size, 4, none⟩) (by first | omega | (simp; omega) | simp)).trans (by first | assumption | (simp [go_sem]; done) | exact (World.cell?_alloc_lt _ _ ⟨_, _, _⟩ (by first | omega | (simp; omega) | simp)).trans (by assumption))
            have mw35 : w3.cell? ⟨g, m * 5, none⟩ = some (.bool x1) := (hb_w3.cell (p := ⟨g, m * 5, none⟩) (by first | omega | (simp; omega) | simp)).trans (by first | assumption | (simp [go_sem]; done) | exact (World.cell?_alloc_lt _ _ ⟨_, _, _⟩ (by first | omega | (simp; omega) | simp)).trans (by assumption))
            have mw36 : w3.cell? ⟨g, m * 5 + 1, none⟩ = some (.int .i64 x2) := (hb_w3.cell (p := ⟨g, m * 5 + 1, none⟩) (by first | omega | (simp; omega) | simp)).trans (by first | assumption | (simp [go_sem]; done) | exact (World.cell?_alloc_lt _ _ ⟨_, _, _⟩ (by first | omega | (simp; omega) | simp)).trans (by assumption))
            have mw37 : w3.cell? ⟨g, m * 5 + 2, none⟩ = some (.int .u8 x3) := (hb_w3.cell (p := ⟨g, m * 5 + 2, none⟩) (by first | omega | (simp; omega) | simp)).trans (by first | assumption | (simp [go_sem]; done) | exact (World.cell?_alloc_lt _ _ ⟨_, _, _⟩ (by first | omega | (simp; omega) | simp)).trans (by assumption))
            have mw38 : w3.cell? ⟨g, m * 5 + 3, none⟩ = some (.int .i64 x4) := (hb_w3.cell (p := ⟨g, m * 5 + 3, none⟩) (by first | omega | (simp; omega) | simp)).trans (by first | assumption | (simp [go_sem]; done) | exact (World.cell?_alloc_lt _ _ ⟨_, _, _⟩ (by first | omega | (simp; omega) | simp)).trans (by assumption))
            have mw39 : w3.cell? ⟨g, m * 5 + 4, none⟩ = some (.int .i64 x5) := (hb_w3.cell (p := ⟨g, m * 5 + 4, none⟩) (by first | omega | (simp; omega) | simp)).trans (by first | assumption | (simp [go_sem]; done) | exact (World.cell?_alloc_lt _ _ ⟨_, _, _⟩ (by first | omega | (simp; omega) | simp)).trans (by assumption))
            try go_wp2_with fail
            refine hK.out _ _ ?_ (fun hHeld => ?_)
            · (try dsimp only); refine ⟨?_, ?_, ?_, ?_, ?_, ?_, ?_, ?_, ?_, ?_⟩ <;> first | assumption | (simp [go_sem]; done) | exact (World.cell?_alloc_lt _ _ ⟨_, _, _⟩ (by first | omega | (simp; omega) | simp)).trans (by assumption)
            clear hK K
            try simp only [Act.put, List.getElem_toArray, List.getElem_cons_zero, List.getElem_cons_succ, List.setIfInBounds_toArray, List.set_cons_zero, List.set_cons_succ]
            refine wpAnyH_take (i := 9) (v := ?_) rfl (by kernel_rfl) (by kernel_rfl) (by kernel_rfl) (fun _ _ _ h => h) (Or.inl ⟨by rfl, ?_⟩) (by assumption) ?_
            rotate_left
            · (intro w hSw; (try dsimp only at hSw); go_simp; first | done | with_reducible rfl)
            try simp only [Act.put, List.getElem_toArray, List.getElem_cons_zero, List.getElem_cons_succ, List.setIfInBounds_toArray, List.set_cons_zero, List.set_cons_succ]
            refine wpAnyH_ready (rs := [10]) (by kernel_rfl) (by simp) ?_
            refine AllReadyH.cons rfl (fun K hK => ?_) AllReadyH.nil
            try simp only [List.getElem_toArray, List.getElem_cons_zero, List.getElem_cons_succ]
            go_simp
            refine hK.out _ _ ?_ (fun hHeld => ?_)
            · (try dsimp only); refine ⟨?_, ?_, ?_, ?_, ?_, ?_, ?_, ?_, ?_, ?_⟩ <;> first | assumption | (simp [go_sem]; done) | exact (World.cell?_alloc_lt _ _ ⟨_, _, _⟩ (by first | omega | (simp; omega) | simp)).trans (by assumption)
            clear hK K
            try simp only [Act.put, List.getElem_toArray, List.getElem_cons_zero, List.getElem_cons_succ, List.setIfInBounds_toArray, List.set_cons_zero, List.set_cons_succ]
            refine wpAnyH_done (by kernel_rfl) ?_ _
            have hb3 : Below wr.heap.size wr w3 := (by repeat (first | exact Below.refl _ _ | assumption | (refine below_drewN ?_ _) | (refine Below.drew ?_) | (refine Below.alloc ?_ (by first | omega | (simp; omega) | simp) _) | (refine Below.setCell ?_ (by first | omega | (simp; omega) | simp) _) | (refine below_trans ?_ (by assumption) (by first | omega | (simp; omega) | simp))))
            have OW3 := Lib.hid (owns_laterE OW.out hb3)
            have hb13 : Below w1.heap.size w1 w3 := below_trans hb_wr hb3 hsr
            clear hb_w3
            go_wp2_with (at_builtin; refine wpList_appendE ?_ (.tmp 32) (.tmp 34) ?_ w1.heap.size (some ⟨g, 0, none⟩) fc (m + 1) (flatE (a ++ [⟨x1, x2, x3, x4, x5⟩])) ?_ (owns_laterE OW3.out (show Below w3.heap.size w3 _ from (by repeat (first | exact Below.refl _ _ | assumption | (refine below_drewN ?_ _) | (refine Below.drew ?_) | (refine Below.alloc ?_ (by first | omega | (simp; omega) | simp) _) | (refine Below.setCell ?_ (by first | omega | (simp; omega) | simp) _) | (refine below_trans ?_ (by assumption) (by first | omega | (simp; omega) | simp)))))) (some ⟨w3.heap.size, 0, none⟩) 1 1 (flatE [⟨e1, e2, e3, e4, e5⟩]) ?_ rfl (fun _ => ⟨w3.heap.size, 0, rfl, fl_liesG _ _ rfl (flatE [⟨e1, e2, e3, e4, e5⟩]) _⟩) (flatE_one _) (by omega) (by simp; omega) ?_; rfl; rfl; rfl; rfl; intro A7 cap7 w7 hown7 hg7 hb_w7 hat7; have hs7 := hb_w7.size)
            have HB7 := Lib.hid (show Below w1.heap.size w1 w7 from below_trans (show Below w1.heap.size w1 _ from (by repeat (first | exact Below.refl _ _ | assumption | (refine below_drewN ?_ _) | (refine Below.drew ?_) | (refine Below.alloc ?_ (by first | omega | (simp; omega) | simp) _) | (refine Below.setCell ?_ (by first | omega | (simp; omega) | simp) _) | (refine below_trans ?_ (by assumption) (by first | omega | (simp; omega) | simp))))) hb_w7 (Nat.le_refl _))
            have HO7 := Lib.hid hown7
            clear hown7 hb_w7 hg7
            go_roundw
            case rel => exact ⟨k + 1, A7, cap7, by go_num, hkl, by rw [HT.out, HF2.out, HLEN.out], by rw [HT.out, HF2.out, HLEN.out, HFE.out]; exact HO7.out, HB7.out⟩
            case measure => simp [intOf]; omega
      · obtain rfl : k = l.length := by omega
        rw [List.take_length] at OW ⊢
        go_wp2
        go_ret2
        exact ⟨F, fc, rfl, owns_monoE OW.out hs01, (by repeat (first | exact Below.refl _ _ | assumption | (refine below_drewN ?_ _) | (refine Below.drew ?_) | (refine Below.alloc ?_ (by first | omega | (simp; omega) | simp) _) | (refine Below.setCell ?_ (by first | omega | (simp; omega) | simp) _) | (refine below_trans ?_ (by assumption) (by first | omega | (simp; omega) | simp))))⟩
  · have HC := Lib.hid fun (w : World) hr => xcheck_any (w := w) (A := A) (l := l) cap hr hl hk 2 (.inr ⟨hok, rfl⟩)
    clear hok hk
    go_enter Tryd.func15, Tryd.ntmps15
    go_wp2_with fail
    go_at_call 21
    refine (HC.out _ (hr.later (by repeat (first | exact Below.refl _ _ | assumption | (refine below_drewN ?_ _) | (refine Below.drew ?_) | (refine Below.alloc ?_ (by first | omega | (simp; omega) | simp) _) | (refine Below.setCell ?_ (by first | omega | (simp; omega) | simp) _) | (refine below_trans ?_ (by assumption) (by first | omega | (simp; omega) | simp)))))).mono ?_
    rintro e w1 ⟨rfl, hb_w1⟩
    obtain ⟨hc_w1, hf_w1⟩ := bcell hb_w1; have hs_w1 := hb_w1.size; (try simp only [World.size_alloc, World.size_setCell, World.size_drew, World.heap_drewN] at hs_w1)
    go_wp2
    go_ret2
    exact ⟨none, 0, rfl, own_nilE _ _ 0, (by repeat (first | exact Below.refl _ _ | assumption | (refine below_drewN ?_ _) | (refine Below.drew ?_) | (refine Below.alloc ?_ (by first | omega | (simp; omega) | simp) _) | (refine Below.setCell ?_ (by first | omega | (simp; omega) | simp) _) | (refine below_trans ?_ (by assumption) (by first | omega | (simp; omega) | simp))))⟩
end
end Go.Proofs.YtklbamkafldagaaDoor
