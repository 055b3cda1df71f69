/- Contracts of package script: fold. -/
import Derived.Test.YtklbamkafldagaaDoorSe15
namespace Go.Proofs.YtklbamkafldagaaDoor
open Go.RowKit Go.Lib
set_option linter.unusedVariables false
set_option linter.unusedSimpArgs false

theorem neqE (x y : Ev) (w : World) : (binOp .neq 41 (.agg (evc x).toArray) (.agg (evc y).toArray)).run Tryd.prog w = .ok (.bool (!decide (x = y))) w := by
  have hS : Tryd.prog.underlying 41 = some (.struct (Tryd.prog.fieldsOf 41)) := by kernel_rfl
  have hp : Tryd.prog.stoodInHeld 41 = false := by kernel_rfl
  have ub := Tryd.underlying4
  have ui := Tryd.underlying3
  have ab := Tryd.isAgg4
  have ai := Tryd.isAgg3
  have at9 := Tryd.isAgg39
  have zb := Tryd.sizeOf4
  have zi := Tryd.sizeOf3
  have zt := Tryd.sizeOf39
  obtain ⟨a, b, c, d, e⟩ := x
  obtain ⟨a', b', c', d', e'⟩ := y
  simp only [evc]
  rw [run_neq_struct]
  obtain ⟨D, hD⟩ : ∃ D : Nat, (10000 : Nat) = D + 3 := ⟨9997, rfl⟩
  rw [hD]
  clear hD
  have hT := eqTask D
  rw [run_equalIn_agg w (D + 2) 41 _ _ hS hp]
  simp only [Program.fieldsOf, Tryd.underlying41]
  go_simp
  by_cases h1 : a = a' <;> by_cases h2 : b = b' <;> by_cases h3 : c = c' <;> by_cases h4 : d = d' <;> by_cases h5 : e = e' <;> simp [h1, h2, h3, h4, h5]
theorem neq_agg (a b : Bool) (a2 b2 a3 b3 a4 b4 a5 b5 : Int) (w : World) (r : Bool) (hr : (⟨a, a2, a3, a4, a5⟩ : Ev) = ⟨b, b2, b3, b4, b5⟩ ↔ r = false) : (binOp .neq 41 (.agg #[.bool a, .int .i64 a2, .int .u8 a3, .int .i64 a4, .int .i64 a5]) (.agg #[.bool b, .int .i64 b2, .int .u8 b3, .int .i64 b4, .int .i64 b5])).run Tryd.prog w = .ok (.bool r) w := by
  have h := neqE ⟨a, a2, a3, a4, a5⟩ ⟨b, b2, b3, b4, b5⟩ w
  have e : (!decide ((⟨a, a2, a3, a4, a5⟩ : Ev) = ⟨b, b2, b3, b4, b5⟩)) = r := by
    cases r
    · simpa using hr.2 rfl
    · simp only [Bool.not_eq_true', decide_eq_false_iff_not]
      intro h9
      exact absurd (hr.1 h9) (by simp)
  rw [e] at h
  exact h
theorem ownsE_set {w : World} {B g cap n j : Nat} {xs : List Value} (h : w.ownsRow B 41 5 (.slice (some ⟨g, 0, none⟩) n cap) n xs) (hj : j < n * 5) (u : Value) :
    (w.setCell ⟨g, j, none⟩ u).ownsRow B 41 5 (.slice (some ⟨g, 0, none⟩) n cap) n (xs.set j u) := by
  obtain ⟨h0, ⟨h1, _⟩ | ⟨g', cap', cur, h1, h2, h3, h4, h5, h6, h7⟩⟩ := h
  · cases h1
  · injection h1 with e1 _ e3
    injection e1 with e1
    injection e1 with e1
    subst e1 e3
    refine ⟨by rw [List.length_set]; exact h0, .inr ⟨g, cap, cur.setIfInBounds j u, rfl, h2, ?_, h4, h5, by simpa using h6, ?_⟩⟩
    · exact Go.heap_setCell_same w g j cur _ u h3
    · rw [← h7]
      simp only [Array.toList_setIfInBounds]
      rw [List.take_set]
theorem ownsE_frozen {w : World} {B g cap n : Nat} {xs : List Value} (h : w.ownsRow B 41 5 (.slice (some ⟨g, 0, none⟩) n cap) n xs) (j : Nat) : w.frozen? ⟨g, j, none⟩ = false := by
  obtain ⟨h0, ⟨h1, _⟩ | ⟨g', cap', cur, h1, h2, h3, h4, h5, h6, h7⟩⟩ := h
  · cases h1
  · injection h1 with e1 _ e3
    injection e1 with e1
    injection e1 with e1
    subst e1
    simp [World.frozen?, h3]
theorem flatE_setn (a : List Ev) (x : Ev) (n : Int) : (flatE (a ++ [x])).set (a.length * 5 + 4) (.int .i64 n) = flatE (a ++ [tms x n]) := by
  rw [flatE_append, flatE_append, List.set_append_right _ _ (by rw [length_flatE]; omega), length_flatE, show a.length * 5 + 4 - a.length * 5 = 4 by omega]
  rfl
theorem ownsE_far {w : World} {B n : Nat} {v : Value} {xs : List Value} (h : w.ownsRow B 41 5 v n xs) {p : Addr} (hp : v.ownBlock ≠ some p.block) (u : Value) : (w.setCell p u).ownsRow B 41 5 v n xs :=
  h.kept (row := some p.block) ⟨rfl, rfl, rfl, by simp [World.setCell], fun k _ hk => Below.heap_setCell _ _ _ _ (fun e => hk (by simp [e]))⟩ (Or.inr hp)
theorem Below.drewN9 {B : Nat} {a w : World} (h : Below B a w) (n : Nat) : Below B a (w.drewN n) := below_drewN h n
def FolR (B : Nat) (w : World) (l : List Ev) (r : Ending) (w' : World) : Prop := ∃ A cap, r = .returned (.slice A l.length cap) ∧ w'.ownsRow B 41 5 (.slice A l.length cap) l.length (flatE l) ∧ Below B w w'
section
variable {w : World}
set_option maxHeartbeats 4000000 in
theorem fold_nil (B : Nat) (hB : B ≤ w.heap.size) (A : Option Addr) (cap : Nat) (h : w.ownsRow B 41 5 (.slice A 0 cap) 0 []) (e : Ev) : Calls Tryd.prog 30 #[.slice A 0 cap, evv e] w fun r w' => FolR B w [e] r w' := by
  unfold FolR
  obtain ⟨e1, e2, e3, e4, e5⟩ := e
  unfold evv
  simp only
  have OW := Lib.hid h
  clear h
  go_enter Tryd.func30, Tryd.ntmps30
  go_wp2_with fail
  refine wp_region_held_drew (S := (fun X : World => X.cell? ⟨w.heap.size, 0, none⟩ = some (.bool e1) ∧ X.cell? ⟨w.heap.size, 1, none⟩ = some (.int .i64 e2) ∧ X.cell? ⟨w.heap.size, 2, none⟩ = some (.int .u8 e3) ∧ X.cell? ⟨w.heap.size, 3, none⟩ = some (.int .i64 e4) ∧ X.cell? ⟨w.heap.size, 4, none⟩ = some (.int .i64 e5))) (by kernel_rfl) ?_ (fun hHeld => ?_)
  · (try dsimp only); refine ⟨?_, ?_, ?_, ?_, ?_⟩ <;> first | assumption | (simp [go_sem]; done) | exact (World.cell?_alloc_lt _ _ ⟨_, _, _⟩ (by first | omega | (simp; omega) | simp)).trans (by assumption)
  refine wpAnyH_take (i := 0) (v := ?_) rfl (by kernel_rfl) (by kernel_rfl) (by kernel_rfl) (fun _ _ _ h => h) (Or.inl ⟨by rfl, ?_⟩) (by assumption) ?_
  rotate_left
  · (intro w hSw; (try dsimp only at hSw); go_simp; first | done | with_reducible rfl)
  try simp only [Act.put, List.getElem_toArray, List.getElem_cons_zero, List.getElem_cons_succ, List.setIfInBounds_toArray, List.set_cons_zero, List.set_cons_succ]
  refine wpAnyH_take (i := 1) (v := ?_) rfl (by kernel_rfl) (by kernel_rfl) (by kernel_rfl) (fun _ _ _ h => h) (Or.inl ⟨by rfl, ?_⟩) (by assumption) ?_
  rotate_left
  · (intro w hSw; (try dsimp only at hSw); go_simp; first | done | with_reducible rfl)
  try simp only [Act.put, List.getElem_toArray, List.getElem_cons_zero, List.getElem_cons_succ, List.setIfInBounds_toArray, List.set_cons_zero, List.set_cons_succ]
  refine wpAnyH_take (i := 2) (v := ?_) rfl (by kernel_rfl) (by kernel_rfl) (by kernel_rfl) (fun _ _ _ h => h) (Or.inl ⟨by rfl, ?_⟩) (by assumption) ?_
  rotate_left
  · (intro w hSw; (try dsimp only at hSw); go_simp; first | done | with_reducible rfl)
  try simp only [Act.put, List.getElem_toArray, List.getElem_cons_zero, List.getElem_cons_succ, List.setIfInBounds_toArray, List.set_cons_zero, List.set_cons_succ]
  refine wpAnyH_take (i := 3) (v := ?_) rfl (by kernel_rfl) (by kernel_rfl) (by kernel_rfl) (fun _ _ _ h => h) (Or.inl ⟨by rfl, ?_⟩) (by assumption) ?_
  rotate_left
  · (intro w hSw; (try dsimp only at hSw); go_simp; first | done | with_reducible rfl)
  try simp only [Act.put, List.getElem_toArray, List.getElem_cons_zero, List.getElem_cons_succ, List.setIfInBounds_toArray, List.set_cons_zero, List.set_cons_succ]
  refine wpAnyH_take (i := 4) (v := undef) rfl (by kernel_rfl) (by kernel_rfl) (by kernel_rfl) (fun _ _ _ h => h) (Or.inr ⟨by rfl, rfl⟩) (by assumption) ?_
  try simp only [Act.put, List.getElem_toArray, List.getElem_cons_zero, List.getElem_cons_succ, List.setIfInBounds_toArray, List.set_cons_zero, List.set_cons_succ]
  refine wpAnyH_take (i := 5) (v := undef) rfl (by kernel_rfl) (by kernel_rfl) (by kernel_rfl) (fun _ _ _ h => h) (Or.inr ⟨by rfl, rfl⟩) (by assumption) ?_
  try simp only [Act.put, List.getElem_toArray, List.getElem_cons_zero, List.getElem_cons_succ, List.setIfInBounds_toArray, List.set_cons_zero, List.set_cons_succ]
  refine wpAnyH_take (i := 6) (v := undef) rfl (by kernel_rfl) (by kernel_rfl) (by kernel_rfl) (fun _ _ _ h => h) (Or.inr ⟨by rfl, rfl⟩) (by assumption) ?_
  try simp only [Act.put, List.getElem_toArray, List.getElem_cons_zero, List.getElem_cons_succ, List.setIfInBounds_toArray, List.set_cons_zero, List.set_cons_succ]
  refine wpAnyH_take (i := 7) (v := undef) rfl (by kernel_rfl) (by kernel_rfl) (by kernel_rfl) (fun _ _ _ h => h) (Or.inr ⟨by rfl, rfl⟩) (by assumption) ?_
  try simp only [Act.put, List.getElem_toArray, List.getElem_cons_zero, List.getElem_cons_succ, List.setIfInBounds_toArray, List.set_cons_zero, List.set_cons_succ]
  refine wpAnyH_take (i := 8) (v := undef) rfl (by kernel_rfl) (by kernel_rfl) (by kernel_rfl) (fun _ _ _ h => h) (Or.inr ⟨by rfl, rfl⟩) (by assumption) ?_
  try simp only [Act.put, List.getElem_toArray, List.getElem_cons_zero, List.getElem_cons_succ, List.setIfInBounds_toArray, List.set_cons_zero, List.set_cons_succ]
  refine wpAnyH_take (i := 9) (v := undef) rfl (by kernel_rfl) (by kernel_rfl) (by kernel_rfl) (fun _ _ _ h => h) (Or.inr ⟨by rfl, rfl⟩) (by assumption) ?_
  try simp only [Act.put, List.getElem_toArray, List.getElem_cons_zero, List.getElem_cons_succ, List.setIfInBounds_toArray, List.set_cons_zero, List.set_cons_succ]
  refine wpAnyH_take (i := 10) (v := undef) rfl (by kernel_rfl) (by kernel_rfl) (by kernel_rfl) (fun _ _ _ h => h) (Or.inr ⟨by rfl, rfl⟩) (by assumption) ?_
  try simp only [Act.put, List.getElem_toArray, List.getElem_cons_zero, List.getElem_cons_succ, List.setIfInBounds_toArray, List.set_cons_zero, List.set_cons_succ]
  refine wpAnyH_take (i := 11) (v := undef) rfl (by kernel_rfl) (by kernel_rfl) (by kernel_rfl) (fun _ _ _ h => h) (Or.inr ⟨by rfl, rfl⟩) (by assumption) ?_
  try simp only [Act.put, List.getElem_toArray, List.getElem_cons_zero, List.getElem_cons_succ, List.setIfInBounds_toArray, List.set_cons_zero, List.set_cons_succ]
  refine wpAnyH_take (i := 12) (v := undef) rfl (by kernel_rfl) (by kernel_rfl) (by kernel_rfl) (fun _ _ _ h => h) (Or.inr ⟨by rfl, rfl⟩) (by assumption) ?_
  try simp only [Act.put, List.getElem_toArray, List.getElem_cons_zero, List.getElem_cons_succ, List.setIfInBounds_toArray, List.set_cons_zero, List.set_cons_succ]
  refine wpAnyH_take (i := 13) (v := undef) rfl (by kernel_rfl) (by kernel_rfl) (by kernel_rfl) (fun _ _ _ h => h) (Or.inr ⟨by rfl, rfl⟩) (by assumption) ?_
  try simp only [Act.put, List.getElem_toArray, List.getElem_cons_zero, List.getElem_cons_succ, List.setIfInBounds_toArray, List.set_cons_zero, List.set_cons_succ]
  refine wpAnyH_ready (rs := [14]) (by kernel_rfl) (by simp) ?_
  refine AllReadyH.cons rfl (fun K hK => ?_) AllReadyH.nil
  try simp only [List.getElem_toArray, List.getElem_cons_zero, List.getElem_cons_succ]
  go_simp
  refine hK.out _ _ ?_ (fun hHeld => ?_)
  · (try dsimp only); refine ⟨?_, ?_, ?_, ?_, ?_⟩ <;> first | assumption | (simp [go_sem]; done) | exact (World.cell?_alloc_lt _ _ ⟨_, _, _⟩ (by first | omega | (simp; omega) | simp)).trans (by assumption)
  clear hK K
  try simp only [Act.put, List.getElem_toArray, List.getElem_cons_zero, List.getElem_cons_succ, List.setIfInBounds_toArray, List.set_cons_zero, List.set_cons_succ]
  refine wpAnyH_done (by kernel_rfl) ?_ _
  go_wp2_with (at_builtin; refine wpList_appendE ?_ (.tmp 22) (.tmp 24) ?_ B A cap 0 [] ?_ (owns_laterE OW.out (show Below w.heap.size w _ from (by repeat (first | exact Below.refl _ _ | assumption | (refine below_drewN ?_ _) | (refine Below.drew ?_) | (refine Below.alloc ?_ (by first | omega | (simp; omega) | simp) _) | (refine Below.setCell ?_ (by first | omega | (simp; omega) | simp) _) | (refine below_trans ?_ (by assumption) (by first | omega | (simp; omega) | simp)))))) (some ⟨w.heap.size + 1, 0, none⟩) 1 1 (flatE [⟨e1, e2, e3, e4, e5⟩]) ?_ rfl (fun _ => ⟨w.heap.size + 1, 0, rfl, fl_liesG _ _ (by simp) (flatE [⟨e1, e2, e3, e4, e5⟩]) _⟩) (flatE_one _) (by omega) (by simp; omega) ?_; rfl; rfl; rfl; rfl; intro A7 cap7 w7 hown7 hg7 hb_w7 hat7; have hs7 := hb_w7.size)
  have HB7 := Lib.hid (show Below B w w7 from (by repeat (first | exact Below.refl _ _ | assumption | (refine below_drewN ?_ _) | (refine Below.drew ?_) | (refine Below.alloc ?_ (by first | omega | (simp; omega) | simp) _) | (refine Below.setCell ?_ (by first | omega | (simp; omega) | simp) _) | (refine below_trans ?_ (by assumption) (by first | omega | (simp; omega) | simp)))))
  have HO7 := Lib.hid hown7
  clear hown7 hb_w7 hg7
  go_ret
  exact ⟨A7, cap7, rfl, HO7.out, HB7.out⟩
set_option maxRecDepth 100000 in
set_option maxHeartbeats 8000000 in
theorem fold_some (B : Nat) (hB : B ≤ w.heap.size) (a : List Ev) (x e : Ev) (g cap m : Nat) (hm : a.length = m) (h : w.ownsRow B 41 5 (.slice (some ⟨g, 0, none⟩) (m + 1) cap) (m + 1) (flatE (a ++ [x]))) (hx : okE x = true) (he : okE e = true) (hl : m < 4096) :
    Calls Tryd.prog 30 #[.slice (some ⟨g, 0, none⟩) (m + 1) cap, evv e] w fun r w' => FolR B w (fold1 (a ++ [x]) e) r w' := by
  unfold FolR
  have hrow : Ev5 w g (m * 5) x := by
    have hl9 : (a ++ [x]).length = m + 1 := by simp [hm]
    have h9 : OwnsE w B (.slice (some ⟨g, 0, none⟩) (a ++ [x]).length cap) (a ++ [x]) := by unfold OwnsE; rw [hl9]; exact h
    obtain ⟨b, off, e9, _, hc⟩ := (ERow.of_owns h9).at_ (by omega)
    injection e9 with e9
    injection e9 with e91 e92
    subst e91 e92
    have := hc m (by omega)
    rw [Nat.zero_add, nthE_get _ _ (by omega)] at this
    rw [List.getElem_append_right (by omega)] at this
    simpa using this
  have hglt := hrow.lt
  have hBg : B ≤ g := by
    obtain ⟨_, ⟨e9, _⟩ | ⟨g', _, _, e9, h2, _⟩⟩ := id h
    · cases e9
    · injection e9 with e9
      injection e9 with e9
      injection e9 with e9
      omega
  have HF := Lib.hid (fold1_snoc a x e)
  obtain ⟨q1, q2, _⟩ := (okE_iff x).1 hx
  obtain ⟨n1, n2, _⟩ := (okE_iff e).1 he
  have hlk : one x = one e ∨ one x ≠ one e := Decidable.em _
  obtain ⟨x1, x2, x3, x4, x5⟩ := x
  obtain ⟨e1, e2, e3, e4, e5⟩ := e
  simp only at q1 q2 n1 n2
  clear hx he
  obtain ⟨p0, p1, p2, p3, p4⟩ := hrow
  simp only at p0 p1 p2 p3 p4
  have hm0 : (0 : Int) ≤ (m : Int) := by omega
  have hm1 : (m : Int) < (m : Int) + 1 := by omega
  have z0 : ((m : Int) + 1 == 0) = false := by simp; omega
  have zw : IntKind.i64.wrap (m : Int) = (m : Int) := by unfold IntKind.wrap; simp [IntKind.signed, IntKind.bits]; omega
  have hgd : Tryd.prog.eqGuardType Tryd.prog.depth 41 = false := by kernel_rfl
  have OW := Lib.hid h
  clear h
  unfold evv
  simp only
  rcases hlk with hlk | hlk
  · have hne := fun w => neq_agg x1 e1 x2 e2 x3 e3 x4 e4 1 1 w false (by
      constructor
      · intro _; rfl
      · intro _; exact hlk)
    go_enter Tryd.func30, Tryd.ntmps30
    go_wp2_with fail
    refine wp_region_held_drew (S := (fun X : World => X.cell? ⟨w.heap.size, 0, none⟩ = some (.bool e1) ∧ X.cell? ⟨w.heap.size, 1, none⟩ = some (.int .i64 e2) ∧ X.cell? ⟨w.heap.size, 2, none⟩ = some (.int .u8 e3) ∧ X.cell? ⟨w.heap.size, 3, none⟩ = some (.int .i64 e4) ∧ X.cell? ⟨w.heap.size, 4, none⟩ = some (.int .i64 e5) ∧ X.cell? ⟨g, m * 5, none⟩ = some (.bool x1) ∧ X.cell? ⟨g, m * 5 + 1, none⟩ = some (.int .i64 x2) ∧ X.cell? ⟨g, m * 5 + 2, none⟩ = some (.int .u8 x3) ∧ X.cell? ⟨g, m * 5 + 3, none⟩ = some (.int .i64 x4) ∧ X.cell? ⟨g, m * 5 + 4, none⟩ = some (.int .i64 x5))) (by kernel_rfl) ?_ (fun hHeld => ?_)
    · (try dsimp only); refine ⟨?_, ?_, ?_, ?_, ?_, ?_, ?_, ?_, ?_, ?_⟩ <;> first | assumption | (simp [go_sem]; done) | exact (World.cell?_alloc_lt _ _ ⟨_, _, _⟩ (by first | omega | (simp; omega) | simp)).trans (by assumption)
    refine wpAnyH_take (i := 0) (v := ?_) rfl (by kernel_rfl) (by kernel_rfl) (by kernel_rfl) (fun _ _ _ h => h) (Or.inl ⟨by rfl, ?_⟩) (by assumption) ?_
    rotate_left
    · (intro w hSw; (try dsimp only at hSw); go_simp; first | done | with_reducible rfl)
    try simp only [Act.put, List.getElem_toArray, List.getElem_cons_zero, List.getElem_cons_succ, List.setIfInBounds_toArray, List.set_cons_zero, List.set_cons_succ]
    refine wpAnyH_take (i := 1) (v := ?_) rfl (by kernel_rfl) (by kernel_rfl) (by kernel_rfl) (fun _ _ _ h => h) (Or.inl ⟨by rfl, ?_⟩) (by assumption) ?_
    rotate_left
    · (intro w hSw; (try dsimp only at hSw); go_simp; first | done | with_reducible rfl)
    try simp only [Act.put, List.getElem_toArray, List.getElem_cons_zero, List.getElem_cons_succ, List.setIfInBounds_toArray, List.set_cons_zero, List.set_cons_succ]
    refine wpAnyH_take (i := 2) (v := ?_) rfl (by kernel_rfl) (by kernel_rfl) (by kernel_rfl) (fun _ _ _ h => h) (Or.inl ⟨by rfl, ?_⟩) (by assumption) ?_
    rotate_left
    · (intro w hSw; (try dsimp only at hSw); go_simp; first | done | with_reducible rfl)
    try simp only [Act.put, List.getElem_toArray, List.getElem_cons_zero, List.getElem_cons_succ, List.setIfInBounds_toArray, List.set_cons_zero, List.set_cons_succ]
    refine wpAnyH_take (i := 3) (v := ?_) rfl (by kernel_rfl) (by kernel_rfl) (by kernel_rfl) (fun _ _ _ h => h) (Or.inl ⟨by rfl, ?_⟩) (by assumption) ?_
    rotate_left
    · (intro w hSw; (try dsimp only at hSw); go_simp; first | done | with_reducible rfl)
    try simp only [Act.put, List.getElem_toArray, List.getElem_cons_zero, List.getElem_cons_succ, List.setIfInBounds_toArray, List.set_cons_zero, List.set_cons_succ]
    refine wpAnyH_take (i := 4) (v := ?_) rfl (by kernel_rfl) (by kernel_rfl) (by kernel_rfl) (fun _ _ _ h => h) (Or.inl ⟨by rfl, ?_⟩) (by assumption) ?_
    rotate_left
    · (intro w hSw; (try dsimp only at hSw); go_simp; first | done | with_reducible rfl)
    try simp only [Act.put, List.getElem_toArray, List.getElem_cons_zero, List.getElem_cons_succ, List.setIfInBounds_toArray, List.set_cons_zero, List.set_cons_succ]
    refine wpAnyH_take (i := 5) (v := ?_) rfl (by kernel_rfl) (by kernel_rfl) (by kernel_rfl) (fun _ _ _ h => h) (Or.inl ⟨by rfl, ?_⟩) (by assumption) ?_
    rotate_left
    · (intro w hSw; (try dsimp only at hSw); go_simp; first | done | with_reducible rfl)
    try simp only [Act.put, List.getElem_toArray, List.getElem_cons_zero, List.getElem_cons_succ, List.setIfInBounds_toArray, List.set_cons_zero, List.set_cons_succ]
    refine wpAnyH_take (i := 6) (v := ?_) rfl (by kernel_rfl) (by kernel_rfl) (by kernel_rfl) (fun _ _ _ h => h) (Or.inl ⟨by rfl, ?_⟩) (by assumption) ?_
    rotate_left
    · (intro w hSw; (try dsimp only at hSw); go_simp; first | done | with_reducible rfl)
    try simp only [Act.put, List.getElem_toArray, List.getElem_cons_zero, List.getElem_cons_succ, List.setIfInBounds_toArray, List.set_cons_zero, List.set_cons_succ]
    refine wpAnyH_take (i := 7) (v := ?_) rfl (by kernel_rfl) (by kernel_rfl) (by kernel_rfl) (fun _ _ _ h => h) (Or.inl ⟨by rfl, ?_⟩) (by assumption) ?_
    rotate_left
    · (intro w hSw; (try dsimp only at hSw); go_simp; first | done | with_reducible rfl)
    try simp only [Act.put, List.getElem_toArray, List.getElem_cons_zero, List.getElem_cons_succ, List.setIfInBounds_toArray, List.set_cons_zero, List.set_cons_succ]
    refine wpAnyH_take (i := 8) (v := ?_) rfl (by kernel_rfl) (by kernel_rfl) (by kernel_rfl) (fun _ _ _ h => h) (Or.inl ⟨by rfl, ?_⟩) (by assumption) ?_
    rotate_left
    · (intro w hSw; (try dsimp only at hSw); go_simp; first | done | with_reducible rfl)
    try simp only [Act.put, List.getElem_toArray, List.getElem_cons_zero, List.getElem_cons_succ, List.setIfInBounds_toArray, List.set_cons_zero, List.set_cons_succ]
    refine wpAnyH_take (i := 9) (v := ?_) rfl (by kernel_rfl) (by kernel_rfl) (by kernel_rfl) (fun _ _ _ h => h) (Or.inl ⟨by rfl, ?_⟩) (by assumption) ?_
    rotate_left
    · (intro w hSw; (try dsimp only at hSw); go_simp; first | done | with_reducible rfl)
    try simp only [Act.put, List.getElem_toArray, List.getElem_cons_zero, List.getElem_cons_succ, List.setIfInBounds_toArray, List.set_cons_zero, List.set_cons_succ]
    refine wpAnyH_take (i := 11) (v := ?_) rfl (by kernel_rfl) (by kernel_rfl) (by kernel_rfl) (fun _ _ _ h => h) (Or.inl ⟨by rfl, ?_⟩) (by assumption) ?_
    rotate_left
    · (intro w hSw; (try dsimp only at hSw); go_simp; first | done | with_reducible rfl)
    try simp only [Act.put, List.getElem_toArray, List.getElem_cons_zero, List.getElem_cons_succ, List.setIfInBounds_toArray, List.set_cons_zero, List.set_cons_succ]
    refine wpAnyH_ready (rs := [10]) (by kernel_rfl) (by simp) ?_
    refine AllReadyH.cons rfl (fun K hK => ?_) AllReadyH.nil
    try simp only [List.getElem_toArray, List.getElem_cons_zero, List.getElem_cons_succ]
    go_simp
    go_at_call 32
    refine (single_agg _ _ _ _ _).mono ?_
    rintro e w2 ⟨rfl, hb_w2⟩
    have hs_w2 : w.heap.size < w2.heap.size := (by have := hb_w2.size; (try simp only [World.size_drew, World.heap_drewN, World.size_alloc] at this); omega)
    have mw20 : w2.cell? ⟨w.heap.size, 0, none⟩ = some (.bool e1) := (hb_w2.cell (p := ⟨w.heap.size, 0, none⟩) (by first | omega | (simp; omega) | simp)).trans (by first | assumption | (simp [go_sem]; done) | exact (World.cell?_alloc_lt _ _ ⟨_, _, _⟩ (by first | omega | (simp; omega) | simp)).trans (by assumption))
    have mw21 : w2.cell? ⟨w.heap.size, 1, none⟩ = some (.int .i64 e2) := (hb_w2.cell (p := ⟨w.heap.size, 1, none⟩) (by first | omega | (simp; omega) | simp)).trans (by first | assumption | (simp [go_sem]; done) | exact (World.cell?_alloc_lt _ _ ⟨_, _, _⟩ (by first | omega | (simp; omega) | simp)).trans (by assumption))
    have mw22 : w2.cell? ⟨w.heap.size, 2, none⟩ = some (.int .u8 e3) := (hb_w2.cell (p := ⟨w.heap.size, 2, none⟩) (by first | omega | (simp; omega) | simp)).trans (by first | assumption | (simp [go_sem]; done) | exact (World.cell?_alloc_lt _ _ ⟨_, _, _⟩ (by first | omega | (simp; omega) | simp)).trans (by assumption))
    have mw23 : w2.cell? ⟨w.heap.size, 3, none⟩ = some (.int .i64 e4) := (hb_w2.cell (p := ⟨w.heap.size, 3, none⟩) (by first | omega | (simp; omega) | simp)).trans (by first | assumption | (simp [go_sem]; done) | exact (World.cell?_alloc_lt _ _ ⟨_, _, _⟩ (by first | omega | (simp; omega) | simp)).trans (by assumption))
    have mw24 : w2.cell? ⟨w.heap.size, 4, none⟩ = some (.int .i64 e5) := (hb_w2.cell (p := ⟨w.heap.size, 4, none⟩) (by first | omega | (simp; omega) | simp)).trans (by first | assumption | (simp [go_sem]; done) | exact (World.cell?_alloc_lt _ _ ⟨_, _, _⟩ (by first | omega | (simp; omega) | simp)).trans (by assumption))
    have mw25 : w2.cell? ⟨g, m * 5, none⟩ = some (.bool x1) := (hb_w2.cell (p := ⟨g, m * 5, none⟩) (by first | omega | (simp; omega) | simp)).trans (by first | assumption | (simp [go_sem]; done) | exact (World.cell?_alloc_lt _ _ ⟨_, _, _⟩ (by first | omega | (simp; omega) | simp)).trans (by assumption))
    have mw26 : w2.cell? ⟨g, m * 5 + 1, none⟩ = some (.int .i64 x2) := (hb_w2.cell (p := ⟨g, m * 5 + 1, none⟩) (by first | omega | (simp; omega) | simp)).trans (by first | assumption | (simp [go_sem]; done) | exact (World.cell?_alloc_lt _ _ ⟨_, _, _⟩ (by first | omega | (simp; omega) | simp)).trans (by assumption))
    have mw27 : w2.cell? ⟨g, m * 5 + 2, none⟩ = some (.int .u8 x3) := (hb_w2.cell (p := ⟨g, m * 5 + 2, none⟩) (by first | omega | (simp; omega) | simp)).trans (by first | assumption | (simp [go_sem]; done) | exact (World.cell?_alloc_lt _ _ ⟨_, _, _⟩ (by first | omega | (simp; omega) | simp)).trans (by assumption))
    have mw28 : w2.cell? ⟨g, m * 5 + 3, none⟩ = some (.int .i64 x4) := (hb_w2.cell (p := ⟨g, m * 5 + 3, none⟩) (by first | omega | (simp; omega) | simp)).trans (by first | assumption | (simp [go_sem]; done) | exact (World.cell?_alloc_lt _ _ ⟨_, _, _⟩ (by first | omega | (simp; omega) | simp)).trans (by assumption))
    have mw29 : w2.cell? ⟨g, m * 5 + 4, none⟩ = some (.int .i64 x5) := (hb_w2.cell (p := ⟨g, m * 5 + 4, none⟩) (by first | omega | (simp; omega) | simp)).trans (by first | assumption | (simp [go_sem]; done) | exact (World.cell?_alloc_lt _ _ ⟨_, _, _⟩ (by first | omega | (simp; omega) | simp)).trans (by assumption))
    try go_wp2_with fail
    refine hK.out _ _ ?_ (fun hHeld => ?_)
    · (try dsimp only); refine ⟨?_, ?_, ?_, ?_, ?_, ?_, ?_, ?_, ?_, ?_⟩ <;> first | assumption | (simp [go_sem]; done) | exact (World.cell?_alloc_lt _ _ ⟨_, _, _⟩ (by first | omega | (simp; omega) | simp)).trans (by assumption)
    clear hK K
    try simp only [Act.put, List.getElem_toArray, List.getElem_cons_zero, List.getElem_cons_succ, List.setIfInBounds_toArray, List.set_cons_zero, List.set_cons_succ]
    refine wpAnyH_ready (rs := [12]) (by kernel_rfl) (by simp) ?_
    refine AllReadyH.cons rfl (fun K hK => ?_) AllReadyH.nil
    try simp only [List.getElem_toArray, List.getElem_cons_zero, List.getElem_cons_succ]
    go_simp
    go_at_call 32
    refine (single_agg _ _ _ _ _).mono ?_
    rintro e w3 ⟨rfl, hb_w3⟩
    have hs_w3 : w2.heap.size ≤ w3.heap.size := (by have := hb_w3.size; (try simp only [World.size_drew, World.heap_drewN, World.size_alloc] at this); omega)
    have mw30 : w3.cell? ⟨w.heap.size, 0, none⟩ = some (.bool e1) := (hb_w3.cell (p := ⟨w.heap.size, 0, none⟩) (by first | omega | (simp; omega) | simp)).trans (by first | assumption | (simp [go_sem]; done) | exact (World.cell?_alloc_lt _ _ ⟨_, _, _⟩ (by first | omega | (simp; omega) | simp)).trans (by assumption))
    have mw31 : w3.cell? ⟨w.heap.size, 1, none⟩ = some (.int .i64 e2) := (hb_w3.cell (p := ⟨w.heap.size, 1, none⟩) (by first | omega | (simp; omega) | simp)).trans (by first | assumption | (simp [go_sem]; done) | exact (World.cell?_alloc_lt _ _ ⟨_, _, _⟩ (by first | omega | (simp; omega) | simp)).trans (by assumption))
    have mw32 : w3.cell? ⟨w.heap.size, 2, none⟩ = some (.int .u8 e3) := (hb_w3.cell (p := ⟨w.heap.size, 2, none⟩) (by first | omega | (simp; omega) | simp)).trans (by first | assumption | (simp [go_sem]; done) | exact (World.cell?_alloc_lt _ _ ⟨_, _, _⟩ (by first | omega | (simp; omega) | simp)).trans (by assumption))
    have mw33 : w3.cell? ⟨w.heap.size, 3, none⟩ = some (.int .i64 e4) := (hb_w3.cell (p := ⟨w.heap.size, 3, none⟩) (by first | omega | (simp; omega) | simp)).trans (by first | assumption | (simp [go_sem]; done) | exact (World.cell?_alloc_lt _ _ ⟨_, _, _⟩ (by first | omega | (simp; omega) | simp)).trans (by assumption))
    have mw34 : w3.cell? ⟨w.heap.size, 4, none⟩ = some (.int .i64 e5) := (hb_w3.cell (p := ⟨w.heap.size, 4, none⟩) (by first | omega | (simp; omega) | simp)).trans (by first | assumption | (simp [go_sem]; done) | exact (World.cell?_alloc_lt _ _ ⟨_, _, _⟩ (by first | omega | (simp; omega) | simp)).trans (by assumption))
    have mw35 : w3.cell? ⟨g, m * 5, none⟩ = some (.bool x1) := (hb_w3.cell (p := ⟨g, m * 5, none⟩) (by first | omega | (simp; omega) | simp)).trans (by first | assumption | (simp [go_sem]; done) | exact (World.cell?_alloc_lt _ _ ⟨_, _, _⟩ (by first | omega | (simp; omega) | simp)).trans (by assumption))
    have mw36 : w3.cell? ⟨g, m * 5 + 1, none⟩ = some (.int .i64 x2) := (hb_w3.cell (p := ⟨g, m * 5 + 1, none⟩) (by first | omega | (simp; omega) | simp)).trans (by first | assumption | (simp [go_sem]; done) | exact (World.cell?_alloc_lt _ _ ⟨_, _, _⟩ (by first | omega | (simp; omega) | simp)).trans (by assumption))
    have mw37 : w3.cell? ⟨g, m * 5 + 2, none⟩ = some (.int .u8 x3) := (hb_w3.cell (p := ⟨g, m * 5 + 2, none⟩) (by first | omega | (simp; omega) | simp)).trans (by first | assumption | (simp [go_sem]; done) | exact (World.cell?_alloc_lt _ _ ⟨_, _, _⟩ (by first | omega | (simp; omega) | simp)).trans (by assumption))
    have mw38 : w3.cell? ⟨g, m * 5 + 3, none⟩ = some (.int .i64 x4) := (hb_w3.cell (p := ⟨g, m * 5 + 3, none⟩) (by first | omega | (simp; omega) | simp)).trans (by first | assumption | (simp [go_sem]; done) | exact (World.cell?_alloc_lt _ _ ⟨_, _, _⟩ (by first | omega | (simp; omega) | simp)).trans (by assumption))
    have mw39 : w3.cell? ⟨g, m * 5 + 4, none⟩ = some (.int .i64 x5) := (hb_w3.cell (p := ⟨g, m * 5 + 4, none⟩) (by first | omega | (simp; omega) | simp)).trans (by first | assumption | (simp [go_sem]; done) | exact (World.cell?_alloc_lt _ _ ⟨_, _, _⟩ (by first | omega | (simp; omega) | simp)).trans (by assumption))
    try go_wp2_with fail
    refine hK.out _ _ ?_ (fun hHeld => ?_)
    · (try dsimp only); refine ⟨?_, ?_, ?_, ?_, ?_, ?_, ?_, ?_, ?_, ?_⟩ <;> first | assumption | (simp [go_sem]; done) | exact (World.cell?_alloc_lt _ _ ⟨_, _, _⟩ (by first | omega | (simp; omega) | simp)).trans (by assumption)
    clear hK K
    try simp only [Act.put, List.getElem_toArray, List.getElem_cons_zero, List.getElem_cons_succ, List.setIfInBounds_toArray, List.set_cons_zero, List.set_cons_succ]
    refine wpAnyH_take (i := 13) (v := ?_) rfl (by kernel_rfl) (by kernel_rfl) (by kernel_rfl) (fun _ _ _ h => h) (Or.inl ⟨by rfl, ?_⟩) (by assumption) ?_
    rotate_left
    · (intro w hSw; (try dsimp only at hSw); go_simp; first | done | with_reducible rfl)
    try simp only [Act.put, List.getElem_toArray, List.getElem_cons_zero, List.getElem_cons_succ, List.setIfInBounds_toArray, List.set_cons_zero, List.set_cons_succ]
    refine wpAnyH_ready (rs := [14]) (by kernel_rfl) (by simp) ?_
    refine AllReadyH.cons rfl (fun K hK => ?_) AllReadyH.nil
    try simp only [List.getElem_toArray, List.getElem_cons_zero, List.getElem_cons_succ]
    go_simp
    refine hK.out _ _ ?_ (fun hHeld => ?_)
    · (try dsimp only); refine ⟨?_, ?_, ?_, ?_, ?_, ?_, ?_, ?_, ?_, ?_⟩ <;> first | assumption | (simp [go_sem]; done) | exact (World.cell?_alloc_lt _ _ ⟨_, _, _⟩ (by first | omega | (simp; omega) | simp)).trans (by assumption)
    clear hK K
    try simp only [Act.put, List.getElem_toArray, List.getElem_cons_zero, List.getElem_cons_succ, List.setIfInBounds_toArray, List.set_cons_zero, List.set_cons_succ]
    refine wpAnyH_done (by kernel_rfl) ?_ _
    have hb3 : Below w.heap.size w w3 := (by repeat (first | exact Below.refl _ _ | assumption | (refine below_drewN ?_ _) | (refine Below.drew ?_) | (refine Below.alloc ?_ (by first | omega | (simp; omega) | simp) _) | (refine Below.setCell ?_ (by first | omega | (simp; omega) | simp) _) | (refine below_trans ?_ (by assumption) (by first | omega | (simp; omega) | simp))))
    have OW3 := Lib.hid (owns_laterE OW.out hb3)
    have hfz : w3.frozen? ⟨g, m * 5 + 4, none⟩ = false := ownsE_frozen OW3.out _
    have hfe : w3.frozen? ⟨w.heap.size, 4, none⟩ = false := by
      refine (hb_w3.frozen (p := ⟨w.heap.size, 4, none⟩) (by show w.heap.size < w2.heap.size; omega)).trans ((hb_w2.frozen (p := ⟨w.heap.size, 4, none⟩) (by simp)).trans (by simp [go_sem]))
    have zs : IntKind.i64.wrap (x5 + e5) = x5 + e5 := by unfold IntKind.wrap; simp [IntKind.signed, IntKind.bits]; omega
    clear hb_w2 hb_w3 hne
    have hgw : g ≠ w.heap.size := by omega
    by_cases hs : x5 + e5 ≤ 4096
    · have d1 : decide (4096 < x5 + e5) = false := decide_eq_false (by omega)
      have HF2 : Hid (fold1 (a ++ [⟨x1, x2, x3, x4, x5⟩]) ⟨e1, e2, e3, e4, e5⟩ = a ++ [⟨x1, x2, x3, x4, x5 + e5⟩]) := Lib.hid (by rw [HF.out, if_pos hlk]; exact if_pos hs)
      clear HF hlk
      have hmin : min (x5 + e5) 4096 = x5 + e5 := by omega
      have HSN := Lib.hid (flatE_setn a ⟨x1, x2, x3, x4, x5⟩ (x5 + e5))
      have hlen9 : (a ++ [(⟨x1, x2, x3, x4, x5 + e5⟩ : Ev)]).length = m + 1 := by simp [hm]
      have HLEN := Lib.hid hlen9
      have HM := Lib.hid hm
      clear hlen9 hm
      go_wp2_with fail
      go_quiet (fail)
      go_wp2
      go_ret
      rw [HF2.out, HLEN.out]
      refine ⟨some ⟨g, 0, none⟩, cap, rfl, ?_, Below.setCell (Below.drewN9 (below_trans (Below.refl B w) hb3 hB) nq) hBg _⟩
      have h9 := ownsE_set (show (w3.drewN nq).ownsRow B 41 5 (.slice (some ⟨g, 0, none⟩) (m + 1) cap) (m + 1) (flatE (a ++ [⟨x1, x2, x3, x4, x5⟩])) from OW3.out) (j := m * 5 + 4) (by omega) (.int .i64 (x5 + e5))
      have h8 := HSN.out
      rw [HM.out] at h8
      rw [h8] at h9
      exact h9
    · have d1 : decide (4096 < x5 + e5) = true := decide_eq_true (by omega)
      have HF2 : Hid (fold1 (a ++ [⟨x1, x2, x3, x4, x5⟩]) ⟨e1, e2, e3, e4, e5⟩ = (a ++ [⟨x1, x2, x3, x4, 4096⟩]) ++ [⟨e1, e2, e3, e4, x5 + e5 - 4096⟩]) := Lib.hid (by rw [HF.out, if_pos hlk, List.append_assoc]; exact if_neg hs)
      clear HF hlk
      have hmin : min (x5 + e5) 4096 = 4096 := by omega
      have zd : IntKind.i64.wrap (x5 + e5 - 4096) = x5 + e5 - 4096 := by unfold IntKind.wrap; simp [IntKind.signed, IntKind.bits]; omega
      have HSN := Lib.hid (flatE_setn a ⟨x1, x2, x3, x4, x5⟩ 4096)
      have HFE := Lib.hid (flatE_append (a ++ [⟨x1, x2, x3, x4, 4096⟩]) [⟨e1, e2, e3, e4, x5 + e5 - 4096⟩])
      have hlen9 : ((a ++ [(⟨x1, x2, x3, x4, 4096⟩ : Ev)]) ++ [(⟨e1, e2, e3, e4, x5 + e5 - 4096⟩ : Ev)]).length = m + 1 + 1 := by simp [hm]
      have HLEN := Lib.hid hlen9
      have HM := Lib.hid hm
      clear hlen9 hm
      have h9 := fun nq => ownsE_set (show (w3.drewN nq).ownsRow B 41 5 (.slice (some ⟨g, 0, none⟩) (m + 1) cap) (m + 1) (flatE (a ++ [⟨x1, x2, x3, x4, x5⟩])) from OW3.out) (j := m * 5 + 4) (by omega) (.int .i64 4096)
      have h8 := HSN.out
      rw [HM.out] at h8
      rw [h8] at h9
      have H9 := Lib.hid fun nq => ownsE_far (h9 nq) (p := ⟨w.heap.size, 4, none⟩) (by simp [Value.ownBlock]; exact hgw) (.int .i64 (x5 + e5 - 4096))
      clear h8 h9
      go_wp2_with fail
      go_quiet (fail)
      go_wp2_with (at_builtin; refine wpList_appendE ?_ (.tmp 48) (.tmp 50) ?_ B (some ⟨g, 0, none⟩) cap (m + 1) (flatE (a ++ [⟨x1, x2, x3, x4, 4096⟩])) ?_ (owns_laterE (H9.out nq) (Below.alloc (Below.refl _ _) (Nat.le_refl _) _)) (some ⟨w3.heap.size, 0, none⟩) 1 1 (flatE [⟨e1, e2, e3, e4, x5 + e5 - 4096⟩]) ?_ rfl (fun _ => ⟨w3.heap.size, 0, rfl, fl_liesG _ _ (by simp) (flatE [⟨e1, e2, e3, e4, x5 + e5 - 4096⟩]) _⟩) (flatE_one _) (by omega) (by simp; omega) ?_; rfl; rfl; rfl; rfl; intro A7 cap7 w7 hown7 hg7 hb_w7 hat7; have hs7 := hb_w7.size)
      go_ret
      rw [HF2.out, HLEN.out, HFE.out]
      have HB7 : Below B w w7 := below_trans (Below.setCell (Below.setCell (Below.drewN9 (below_trans (Below.refl B w) hb3 hB) nq) (show B ≤ g from hBg) _) (show B ≤ w.heap.size from hB) _) (show Below B _ w7 from below_trans (Below.alloc (Below.refl B _) (by simp; omega) _) hb_w7 (Nat.le_refl _)) (Nat.le_refl _)
      exact ⟨A7, cap7, rfl, hown7, HB7⟩
  · have hne := fun w => neq_agg x1 e1 x2 e2 x3 e3 x4 e4 1 1 w true (by
      constructor
      · intro h9; exact absurd h9 hlk
      · intro h9; cases h9)
    have HF2 : Hid (fold1 (a ++ [⟨x1, x2, x3, x4, x5⟩]) ⟨e1, e2, e3, e4, e5⟩ = (a ++ [⟨x1, x2, x3, x4, x5⟩]) ++ [⟨e1, e2, e3, e4, e5⟩]) := Lib.hid (by rw [HF.out, if_neg hlk]; simp)
    have HFE := Lib.hid (flatE_append (a ++ [⟨x1, x2, x3, x4, x5⟩]) [⟨e1, e2, e3, e4, e5⟩])
    have HLE : Hid ((fold1 (a ++ [⟨x1, x2, x3, x4, x5⟩]) ⟨e1, e2, e3, e4, e5⟩).length = m + 1 + 1) := Lib.hid (by rw [HF2.out]; simp [hm])
    clear HF hlk q1 q2 n1 n2
    go_enter Tryd.func30, Tryd.ntmps30
    go_wp2_with fail
    refine wp_region_held_drew (S := (fun X : World => X.cell? ⟨w.heap.size, 0, none⟩ = some (.bool e1) ∧ X.cell? ⟨w.heap.size, 1, none⟩ = some (.int .i64 e2) ∧ X.cell? ⟨w.heap.size, 2, none⟩ = some (.int .u8 e3) ∧ X.cell? ⟨w.heap.size, 3, none⟩ = some (.int .i64 e4) ∧ X.cell? ⟨w.heap.size, 4, none⟩ = some (.int .i64 e5) ∧ X.cell? ⟨g, m * 5, none⟩ = some (.bool x1) ∧ X.cell? ⟨g, m * 5 + 1, none⟩ = some (.int .i64 x2) ∧ X.cell? ⟨g, m * 5 + 2, none⟩ = some (.int .u8 x3) ∧ X.cell? ⟨g, m * 5 + 3, none⟩ = some (.int .i64 x4) ∧ X.cell? ⟨g, m * 5 + 4, none⟩ = some (.int .i64 x5))) (by kernel_rfl) ?_ (fun hHeld => ?_)
    · (try dsimp only); refine ⟨?_, ?_, ?_, ?_, ?_, ?_, ?_, ?_, ?_, ?_⟩ <;> first | assumption | (simp [go_sem]; done) | exact (World.cell?_alloc_lt _ _ ⟨_, _, _⟩ (by first | omega | (simp; omega) | simp)).trans (by assumption)
    refine wpAnyH_take (i := 0) (v := ?_) rfl (by kernel_rfl) (by kernel_rfl) (by kernel_rfl) (fun _ _ _ h => h) (Or.inl ⟨by rfl, ?_⟩) (by assumption) ?_
    rotate_left
    · (intro w hSw; (try dsimp only at hSw); go_simp; first | done | with_reducible rfl)
    try simp only [Act.put, List.getElem_toArray, List.getElem_cons_zero, List.getElem_cons_succ, List.setIfInBounds_toArray, List.set_cons_zero, List.set_cons_succ]
    refine wpAnyH_take (i := 1) (v := ?_) rfl (by kernel_rfl) (by kernel_rfl) (by kernel_rfl) (fun _ _ _ h => h) (Or.inl ⟨by rfl, ?_⟩) (by assumption) ?_
    rotate_left
    · (intro w hSw; (try dsimp only at hSw); go_simp; first | done | with_reducible rfl)
    try simp only [Act.put, List.getElem_toArray, List.getElem_cons_zero, List.getElem_cons_succ, List.setIfInBounds_toArray, List.set_cons_zero, List.set_cons_succ]
    refine wpAnyH_take (i := 2) (v := ?_) rfl (by kernel_rfl) (by kernel_rfl) (by kernel_rfl) (fun _ _ _ h => h) (Or.inl ⟨by rfl, ?_⟩) (by assumption) ?_
    rotate_left
    · (intro w hSw; (try dsimp only at hSw); go_simp; first | done | with_reducible rfl)
    try simp only [Act.put, List.getElem_toArray, List.getElem_cons_zero, List.getElem_cons_succ, List.setIfInBounds_toArray, List.set_cons_zero, List.set_cons_succ]
    refine wpAnyH_take (i := 3) (v := ?_) rfl (by kernel_rfl) (by kernel_rfl) (by kernel_rfl) (fun _ _ _ h => h) (Or.inl ⟨by rfl, ?_⟩) (by assumption) ?_
    rotate_left
    · (intro w hSw; (try dsimp only at hSw); go_simp; first | done | with_reducible rfl)
    try simp only [Act.put, List.getElem_toArray, List.getElem_cons_zero, List.getElem_cons_succ, List.setIfInBounds_toArray, List.set_cons_zero, List.set_cons_succ]
    refine wpAnyH_take (i := 4) (v := ?_) rfl (by kernel_rfl) (by kernel_rfl) (by kernel_rfl) (fun _ _ _ h => h) (Or.inl ⟨by rfl, ?_⟩) (by assumption) ?_
    rotate_left
    · (intro w hSw; (try dsimp only at hSw); go_simp; first | done | with_reducible rfl)
    try simp only [Act.put, List.getElem_toArray, List.getElem_cons_zero, List.getElem_cons_succ, List.setIfInBounds_toArray, List.set_cons_zero, List.set_cons_succ]
    refine wpAnyH_take (i := 5) (v := ?_) rfl (by kernel_rfl) (by kernel_rfl) (by kernel_rfl) (fun _ _ _ h => h) (Or.inl ⟨by rfl, ?_⟩) (by assumption) ?_
    rotate_left
    · (intro w hSw; (try dsimp only at hSw); go_simp; first | done | with_reducible rfl)
    try simp only [Act.put, List.getElem_toArray, List.getElem_cons_zero, List.getElem_cons_succ, List.setIfInBounds_toArray, List.set_cons_zero, List.set_cons_succ]
    refine wpAnyH_take (i := 6) (v := ?_) rfl (by kernel_rfl) (by kernel_rfl) (by kernel_rfl) (fun _ _ _ h => h) (Or.inl ⟨by rfl, ?_⟩) (by assumption) ?_
    rotate_left
    · (intro w hSw; (try dsimp only at hSw); go_simp; first | done | with_reducible rfl)
    try simp only [Act.put, List.getElem_toArray, List.getElem_cons_zero, List.getElem_cons_succ, List.setIfInBounds_toArray, List.set_cons_zero, List.set_cons_succ]
    refine wpAnyH_take (i := 7) (v := ?_) rfl (by kernel_rfl) (by kernel_rfl) (by kernel_rfl) (fun _ _ _ h => h) (Or.inl ⟨by rfl, ?_⟩) (by assumption) ?_
    rotate_left
    · (intro w hSw; (try dsimp only at hSw); go_simp; first | done | with_reducible rfl)
    try simp only [Act.put, List.getElem_toArray, List.getElem_cons_zero, List.getElem_cons_succ, List.setIfInBounds_toArray, List.set_cons_zero, List.set_cons_succ]
    refine wpAnyH_take (i := 8) (v := ?_) rfl (by kernel_rfl) (by kernel_rfl) (by kernel_rfl) (fun _ _ _ h => h) (Or.inl ⟨by rfl, ?_⟩) (by assumption) ?_
    rotate_left
    · (intro w hSw; (try dsimp only at hSw); go_simp; first | done | with_reducible rfl)
    try simp only [Act.put, List.getElem_toArray, List.getElem_cons_zero, List.getElem_cons_succ, List.setIfInBounds_toArray, List.set_cons_zero, List.set_cons_succ]
    refine wpAnyH_take (i := 9) (v := ?_) rfl (by kernel_rfl) (by kernel_rfl) (by kernel_rfl) (fun _ _ _ h => h) (Or.inl ⟨by rfl, ?_⟩) (by assumption) ?_
    rotate_left
    · (intro w hSw; (try dsimp only at hSw); go_simp; first | done | with_reducible rfl)
    try simp only [Act.put, List.getElem_toArray, List.getElem_cons_zero, List.getElem_cons_succ, List.setIfInBounds_toArray, List.set_cons_zero, List.set_cons_succ]
    refine wpAnyH_take (i := 11) (v := ?_) rfl (by kernel_rfl) (by kernel_rfl) (by kernel_rfl) (fun _ _ _ h => h) (Or.inl ⟨by rfl, ?_⟩) (by assumption) ?_
    rotate_left
    · (intro w hSw; (try dsimp only at hSw); go_simp; first | done | with_reducible rfl)
    try simp only [Act.put, List.getElem_toArray, List.getElem_cons_zero, List.getElem_cons_succ, List.setIfInBounds_toArray, List.set_cons_zero, List.set_cons_succ]
    refine wpAnyH_ready (rs := [10]) (by kernel_rfl) (by simp) ?_
    refine AllReadyH.cons rfl (fun K hK => ?_) AllReadyH.nil
    try simp only [List.getElem_toArray, List.getElem_cons_zero, List.getElem_cons_succ]
    go_simp
    go_at_call 32
    refine (single_agg _ _ _ _ _).mono ?_
    rintro e w2 ⟨rfl, hb_w2⟩
    have hs_w2 : w.heap.size < w2.heap.size := (by have := hb_w2.size; (try simp only [World.size_drew, World.heap_drewN, World.size_alloc] at this); omega)
    have mw20 : w2.cell? ⟨w.heap.size, 0, none⟩ = some (.bool e1) := (hb_w2.cell (p := ⟨w.heap.size, 0, none⟩) (by first | omega | (simp; omega) | simp)).trans (by first | assumption | (simp [go_sem]; done) | exact (World.cell?_alloc_lt _ _ ⟨_, _, _⟩ (by first | omega | (simp; omega) | simp)).trans (by assumption))
    have mw21 : w2.cell? ⟨w.heap.size, 1, none⟩ = some (.int .i64 e2) := (hb_w2.cell (p := ⟨w.heap.size, 1, none⟩) (by first | omega | (simp; omega) | simp)).trans (by first | assumption | (simp [go_sem]; done) | exact (World.cell?_alloc_lt _ _ ⟨_, _, _⟩ (by first | omega | (simp; omega) | simp)).trans (by assumption))
    have mw22 : w2.cell? ⟨w.heap.size, 2, none⟩ = some (.int .u8 e3) := (hb_w2.cell (p := ⟨w.heap.size, 2, none⟩) (by first | omega | (simp; omega) | simp)).trans (by first | assumption | (simp [go_sem]; done) | exact (World.cell?_alloc_lt _ _ ⟨_, _, _⟩ (by first | omega | (simp; omega) | simp)).trans (by assumption))
    have mw23 : w2.cell? ⟨w.heap.size, 3, none⟩ = some (.int .i64 e4) := (hb_w2.cell (p := ⟨w.heap.size, 3, none⟩) (by first | omega | (simp; omega) | simp)).trans (by first | assumption | (simp [go_sem]; done) | exact (World.cell?_alloc_lt _ _ ⟨_, _, _⟩ (by first | omega | (simp; omega) | simp)).trans (by assumption))
    have mw24 : w2.cell? ⟨w.heap.size, 4, none⟩ = some (.int .i64 e5) := (hb_w2.cell (p := ⟨w.heap.size, 4, none⟩) (by first | omega | (simp; omega) | simp)).trans (by first | assumption | (simp [go_sem]; done) | exact (World.cell?_alloc_lt _ _ ⟨_, _, _⟩ (by first | omega | (simp; omega) | simp)).trans (by assumption))
    have mw25 : w2.cell? ⟨g, m * 5, none⟩ = some (.bool x1) := (hb_w2.cell (p := ⟨g, m * 5, none⟩) (by first | omega | (simp; omega) | simp)).trans (by first | assumption | (simp [go_sem]; done) | exact (World.cell?_alloc_lt _ _ ⟨_, _, _⟩ (by first | omega | (simp; omega) | simp)).trans (by assumption))
    have mw26 : w2.cell? ⟨g, m * 5 + 1, none⟩ = some (.int .i64 x2) := (hb_w2.cell (p := ⟨g, m * 5 + 1, none⟩) (by first | omega | (simp; omega) | simp)).trans (by first | assumption | (simp [go_sem]; done) | exact (World.cell?_alloc_lt _ _ ⟨_, _, _⟩ (by first | omega | (simp; omega) | simp)).trans (by assumption))
    have mw27 : w2.cell? ⟨g, m * 5 + 2, none⟩ = some (.int .u8 x3) := (hb_w2.cell (p := ⟨g, m * 5 + 2, none⟩) (by first | omega | (simp; omega) | simp)).trans (by first | assumption | (simp [go_sem]; done) | exact (World.cell?_alloc_lt _ _ ⟨_, _, _⟩ (by first | omega | (simp; omega) | simp)).trans (by assumption))
    have mw28 : w2.cell? ⟨g, m * 5 + 3, none⟩ = some (.int .i64 x4) := (hb_w2.cell (p := ⟨g, m * 5 + 3, none⟩) (by first | omega | (simp; omega) | simp)).trans (by first | assumption | (simp [go_sem]; done) | exact (World.cell?_alloc_lt _ _ ⟨_, _, _⟩ (by first | omega | (simp; omega) | simp)).trans (by assumption))
    have mw29 : w2.cell? ⟨g, m * 5 + 4, none⟩ = some (.int .i64 x5) := (hb_w2.cell (p := ⟨g, m * 5 + 4, none⟩) (by first | omega | (simp; omega) | simp)).trans (by first | assumption | (simp [go_sem]; done) | exact (World.cell?_alloc_lt _ _ ⟨_, _, _⟩ (by first | omega | (simp; omega) | simp)).trans (by assumption))
    try go_wp2_with fail
    refine hK.out _ _ ?_ (fun hHeld => ?_)
    · (try dsimp only); refine ⟨?_, ?_, ?_, ?_, ?_, ?_, ?_, ?_, ?_, ?_⟩ <;> first | assumption | (simp [go_sem]; done) | exact (World.cell?_alloc_lt _ _ ⟨_, _, _⟩ (by first | omega | (simp; omega) | simp)).trans (by assumption)
    clear hK K
    try simp only [Act.put, List.getElem_toArray, List.getElem_cons_zero, List.getElem_cons_succ, List.setIfInBounds_toArray, List.set_cons_zero, List.set_cons_succ]
    refine wpAnyH_ready (rs := [12]) (by kernel_rfl) (by simp) ?_
    refine AllReadyH.cons rfl (fun K hK => ?_) AllReadyH.nil
    try simp only [List.getElem_toArray, List.getElem_cons_zero, List.getElem_cons_succ]
    go_simp
    go_at_call 32
    refine (single_agg _ _ _ _ _).mono ?_
    rintro e w3 ⟨rfl, hb_w3⟩
    have hs_w3 : w2.heap.size ≤ w3.heap.size := (by have := hb_w3.size; (try simp only [World.size_drew, World.heap_drewN, World.size_alloc] at this); omega)
    have mw30 : w3.cell? ⟨w.heap.size, 0, none⟩ = some (.bool e1) := (hb_w3.cell (p := ⟨w.heap.size, 0, none⟩) (by first | omega | (simp; omega) | simp)).trans (by first | assumption | (simp [go_sem]; done) | exact (World.cell?_alloc_lt _ _ ⟨_, _, _⟩ (by first | omega | (simp; omega) | simp)).trans (by assumption))
    have mw31 : w3.cell? ⟨w.heap.size, 1, none⟩ = some (.int .i64 e2) := (hb_w3.cell (p := ⟨w.heap.size, 1, none⟩) (by first | omega | (simp; omega) | simp)).trans (by first | assumption | (simp [go_sem]; done) | exact (World.cell?_alloc_lt _ _ ⟨_, _, _⟩ (by first | omega | (simp; omega) | simp)).trans (by assumption))
    have mw32 : w3.cell? ⟨w.heap.size, 2, none⟩ = some (.int .u8 e3) := (hb_w3.cell (p := ⟨w.heap.size, 2, none⟩) (by first | omega | (simp; omega) | simp)).trans (by first | assumption | (simp [go_sem]; done) | exact (World.cell?_alloc_lt _ _ ⟨_, _, _⟩ (by first | omega | (simp; omega) | simp)).trans (by assumption))
    have mw33 : w3.cell? ⟨w.heap.size, 3, none⟩ = some (.int .i64 e4) := (hb_w3.cell (p := ⟨w.heap.size, 3, none⟩) (by first | omega | (simp; omega) | simp)).trans (by first | assumption | (simp [go_sem]; done) | exact (World.cell?_alloc_lt _ _ ⟨_, _, _⟩ (by first | omega | (simp; omega) | simp)).trans (by assumption))
    have mw34 : w3.cell? ⟨w.heap.size, 4, none⟩ = some (.int .i64 e5) := (hb_w3.cell (p := ⟨w.heap.size, 4, none⟩) (by first | omega | (simp; omega) | simp)).trans (by first | assumption | (simp [go_sem]; done) | exact (World.cell?_alloc_lt _ _ ⟨_, _, _⟩ (by first | omega | (simp; omega) | simp)).trans (by assumption))
    have mw35 : w3.cell? ⟨g, m * 5, none⟩ = some (.bool x1) := (hb_w3.cell (p := ⟨g, m * 5, none⟩) (by first | omega | (simp; omega) | simp)).trans (by first | assumption | (simp [go_sem]; done) | exact (World.cell?_alloc_lt _ _ ⟨_, _, _⟩ (by first | omega | (simp; omega) | simp)).trans (by assumption))
    have mw36 : w3.cell? ⟨g, m * 5 + 1, none⟩ = some (.int .i64 x2) := (hb_w3.cell (p := ⟨g, m * 5 + 1, none⟩) (by first | omega | (simp; omega) | simp)).trans (by first | assumption | (simp [go_sem]; done) | exact (World.cell?_alloc_lt _ _ ⟨_, _, _⟩ (by first | omega | (simp; omega) | simp)).trans (by assumption))
    have mw37 : w3.cell? ⟨g, m * 5 + 2, none⟩ = some (.int .u8 x3) := (hb_w3.cell (p := ⟨g, m * 5 + 2, none⟩) (by first | omega | (simp; omega) | simp)).trans (by first | assumption | (simp [go_sem]; done) | exact (World.cell?_alloc_lt _ _ ⟨_, _, _⟩ (by first | omega | (simp; omega) | simp)).trans (by assumption))
    have mw38 : w3.cell? ⟨g, m * 5 + 3, none⟩ = some (.int .i64 x4) := (hb_w3.cell (p := ⟨g, m * 5 + 3, none⟩) (by first | omega | (simp; omega) | simp)).trans (by first | assumption | (simp [go_sem]; done) | exact (World.cell?_alloc_lt _ _ ⟨_, _, _⟩ (by first | omega | (simp; omega) | simp)).trans (by assumption))
    have mw39 : w3.cell? ⟨g, m * 5 + 4, none⟩ = some (.int .i64 x5) := (hb_w3.cell (p := ⟨g, m * 5 + 4, none⟩) (by first | omega | (simp; omega) | simp)).trans (by first | assumption | (simp [go_sem]; done) | exact (World.cell?_alloc_lt _ _ ⟨_, _, _⟩ (by first | omega | (simp; omega) | simp)).trans (by assumption))
    try go_wp2_with fail
    refine hK.out _ _ ?_ (fun hHeld => ?_)
    · (try dsimp only); refine ⟨?_, ?_, ?_, ?_, ?_, ?_, ?_, ?_, ?_, ?_⟩ <;> first | assumption | (simp [go_sem]; done) | exact (World.cell?_alloc_lt _ _ ⟨_, _, _⟩ (by first | omega | (simp; omega) | simp)).trans (by assumption)
    clear hK K
    try simp only [Act.put, List.getElem_toArray, List.getElem_cons_zero, List.getElem_cons_succ, List.setIfInBounds_toArray, List.set_cons_zero, List.set_cons_succ]
    refine wpAnyH_take (i := 13) (v := ?_) rfl (by kernel_rfl) (by kernel_rfl) (by kernel_rfl) (fun _ _ _ h => h) (Or.inl ⟨by rfl, ?_⟩) (by assumption) ?_
    rotate_left
    · (intro w hSw; (try dsimp only at hSw); go_simp; first | done | with_reducible rfl)
    try simp only [Act.put, List.getElem_toArray, List.getElem_cons_zero, List.getElem_cons_succ, List.setIfInBounds_toArray, List.set_cons_zero, List.set_cons_succ]
    refine wpAnyH_ready (rs := [14]) (by kernel_rfl) (by simp) ?_
    refine AllReadyH.cons rfl (fun K hK => ?_) AllReadyH.nil
    try simp only [List.getElem_toArray, List.getElem_cons_zero, List.getElem_cons_succ]
    go_simp
    refine hK.out _ _ ?_ (fun hHeld => ?_)
    · (try dsimp only); refine ⟨?_, ?_, ?_, ?_, ?_, ?_, ?_, ?_, ?_, ?_⟩ <;> first | assumption | (simp [go_sem]; done) | exact (World.cell?_alloc_lt _ _ ⟨_, _, _⟩ (by first | omega | (simp; omega) | simp)).trans (by assumption)
    clear hK K
    try simp only [Act.put, List.getElem_toArray, List.getElem_cons_zero, List.getElem_cons_succ, List.setIfInBounds_toArray, List.set_cons_zero, List.set_cons_succ]
    refine wpAnyH_done (by kernel_rfl) ?_ _
    have hb3 : Below w.heap.size w w3 := (by repeat (first | exact Below.refl _ _ | assumption | (refine below_drewN ?_ _) | (refine Below.drew ?_) | (refine Below.alloc ?_ (by first | omega | (simp; omega) | simp) _) | (refine Below.setCell ?_ (by first | omega | (simp; omega) | simp) _) | (refine below_trans ?_ (by assumption) (by first | omega | (simp; omega) | simp))))
    have OW3 := Lib.hid (owns_laterE OW.out hb3)
    clear hb_w2 hb_w3 hne
    go_wp2_with (at_builtin; refine wpList_appendE ?_ (.tmp 22) (.tmp 24) ?_ B (some ⟨g, 0, none⟩) cap (m + 1) (flatE (a ++ [⟨x1, x2, x3, x4, x5⟩])) ?_ (owns_laterE OW3.out (show Below w3.heap.size w3 _ from (by repeat (first | exact Below.refl _ _ | assumption | (refine below_drewN ?_ _) | (refine Below.drew ?_) | (refine Below.alloc ?_ (by first | omega | (simp; omega) | simp) _) | (refine Below.setCell ?_ (by first | omega | (simp; omega) | simp) _) | (refine below_trans ?_ (by assumption) (by first | omega | (simp; omega) | simp)))))) (some ⟨w3.heap.size, 0, none⟩) 1 1 (flatE [⟨e1, e2, e3, e4, e5⟩]) ?_ rfl (fun _ => ⟨w3.heap.size, 0, rfl, fl_liesG _ _ rfl (flatE [⟨e1, e2, e3, e4, e5⟩]) _⟩) (flatE_one _) (by omega) (by simp; omega) ?_; rfl; rfl; rfl; rfl; intro A7 cap7 w7 hown7 hg7 hb_w7 hat7; have hs7 := hb_w7.size)
    have HB7 := Lib.hid (show Below B w w7 from (by repeat (first | exact Below.refl _ _ | assumption | (refine below_drewN ?_ _) | (refine Below.drew ?_) | (refine Below.alloc ?_ (by first | omega | (simp; omega) | simp) _) | (refine Below.setCell ?_ (by first | omega | (simp; omega) | simp) _) | (refine below_trans ?_ (by assumption) (by first | omega | (simp; omega) | simp)))))
    have HO7 := Lib.hid hown7
    clear hown7 hb_w7 hg7
    go_ret
    rw [HLE.out, HF2.out, HFE.out]
    exact ⟨A7, cap7, rfl, HO7.out, HB7.out⟩
end
end Go.Proofs.YtklbamkafldagaaDoor
