/- Contracts of package pace: words are made, where the pacer lies. -/
import Derived.Test.YtkdbcoibapcmjaaN10
import Derived.Deep.RegionWith
import Derived.Deep.RegionHeld3
namespace Go.Proofs.Ytkdbcoibapcmjaa
open Go.RowKit
set_option linter.unusedVariables false
set_option linter.unusedSimpArgs false
set_option maxRecDepth 100000

theorem pcapped_int {x : Int} {m : Nat} (w : World) (h : x = (m : Int)) (hm : m < W64) : Calls Try.prog 45 #[.int .u64 x] w fun e w' => e = .returned (.int .u64 (cp m : Nat)) ∧ w = w' := by
  subst h; exact pcapped_any m w hm
theorem Own.seti {w : World} {B : Nat} {A : Option Addr} {ws : List Nat} (h : Own w B A ws) {g i x : Nat} {v : Int} (hA : A = some ⟨g, 0, .none⟩) (hi : i < ws.length) (hv : v = (x : Int)) (hx : x < W64) : Own (w.setCell ⟨g, i, .none⟩ (.int .u64 v)) B A (ws.set i x) := by
  subst hv; exact h.set_ hA hi hx
section
variable {w : World} {p : Pc} {b g B : Nat} (c : Nat)
set_option maxHeartbeats 4000000 in
theorem palloc_any (hk : OkP p) (hon : p.on = true) (hb : PBox w b p (some ⟨g, 0, none⟩) c) (hO : Own w B (some ⟨g, 0, none⟩) p.ds) (hgb : g ≠ b) (hcap : p.ds.length ≤ c) (k words : Nat) (hkl : k < p.ds.length) (hwd : words ≤ 1048576) :
    Calls Try.prog 37 #[.pointer (some ⟨b, 0, none⟩), .int .i64 (k : Nat), .int .u64 (words : Nat)] w fun e w' => e = .returned (.int .u64 (debtP p k words - min (debtP p k words) p.credit : Nat)) ∧ PBox w' b (allP p k words) (some ⟨g, 0, none⟩) c ∧ Off b g w w' ∧ Own w' B (some ⟨g, 0, none⟩) (allP p k words).ds := by
  have h1 := hk.est; have h2 := hk.room; have h3 := hk.credit; have h4 := hk.made; have h5 := (hk.on1 hon).2; have h6 := hk.len2
  have h7 : p.ds.getD k 0 ≤ 1099511627776 := by rw [getD_get _ _ hkl]; exact hk.ds _ (List.getElem_mem hkl)
  obtain ⟨g', e1, hBg, hg, hc⟩ := hO.at_ (by omega)
  obtain rfl : g = g' := by injection e1 with e1; injection e1
  obtain ⟨k0, kf⟩ := hc k hkl
  clear hc e1
  obtain ⟨d, hd⟩ : ∃ d, Hid (p.ds.getD k 0 = d) := ⟨_, rfl⟩
  rw [hd.out] at h7 k0
  obtain ⟨m, hm⟩ : ∃ m, words * p.est = m := ⟨_, rfl⟩
  have hm2 : m ≤ 1048576 * 1099511627776 := by rw [← hm]; exact prod_le hwd h1
  have hm3 : (words : Int) * (p.est : Int) = (m : Int) := by rw [← hm]; simp
  obtain ⟨z, hz⟩ : ∃ z, (m + p.room - 1) / p.room = z := ⟨_, rfl⟩
  have hz2 : z ≤ m + p.room - 1 := by rw [← hz]; exact Nat.div_le_self _ _
  have hz3 : ((m : Int) + (p.room : Int) - 1) / (p.room : Int) = (z : Int) := by rw [← hz, show (m : Int) + (p.room : Int) - 1 = ((m + p.room - 1 : Nat) : Int) by omega]; simp
  have hz4 : ((m : Int) + (p.room : Int) - 1).tdiv (p.room : Int) = (z : Int) := by rw [Int.tdiv_eq_ediv_of_nonneg (by omega)]; exact hz3
  have hne : ((p.room : Int) == 0) = false := by simp; omega
  have HD : Hid (debtP p k words = cp (d + z)) := Lib.hid (by unfold debtP owesP; rw [hd.out, hm, hz])
  have HA : Hid ((allP p k words) = ⟨p.pct, p.least, p.live, p.on, p.est, p.room, p.credit - min (debtP p k words) p.credit, p.done, cp (p.made + words), p.ds.set k (debtP p k words - min (debtP p k words) p.credit)⟩) := Lib.hid rfl
  have hOp := Lib.hid hO
  rw [HA.out, HD.out]
  have hne2 : ¬ (p.room = 0) := by omega
  have hcp := cp_le (d + z); have hcp2 := cp_le (p.made + words)
  have HC1 := Lib.hid fun (w : World) (x : Int) (hx : x = ((p.made + words : Nat) : Int)) => pcapped_int w hx (by unfold W64; omega)
  have HC2 := Lib.hid fun (w : World) (x : Int) (hx : x = ((d + z : Nat) : Int)) => pcapped_int w hx (by unfold W64; omega)
  have hmw : IntKind.u64.wrap (m : Int) = (m : Int) := by rw [IntKind.wrap_u64]; omega
  have hdz : IntKind.u64.wrap ((d : Int) + (z : Int)) = (d : Int) + (z : Int) := by rw [IntKind.wrap_u64]; omega
  have hmr : IntKind.u64.wrap ((m : Int) + (p.room : Int)) = (m : Int) + (p.room : Int) := by rw [IntKind.wrap_u64]; omega
  have hmr1 : IntKind.u64.wrap ((m : Int) + (p.room : Int) - 1) = (m : Int) + (p.room : Int) - 1 := by rw [IntKind.wrap_u64]; omega
  have hzw : IntKind.u64.wrap (z : Int) = (z : Int) := by rw [IntKind.wrap_u64]; omega
  generalize cp (d + z) = D at *
  generalize cp (p.made + words) = M at *
  clear hk hm hz HD HA hO
  unfold PBox at *
  obtain ⟨pct, least, live, on, est, room, credit, done, made, ds⟩ := p
  simp only at *
  subst hon
  have hlt := hb.lt
  have i1 : (k : Int) < (ds.length : Int) := by omega
  have i2 : (0 : Int) ≤ (k : Int) := by omega
  obtain ⟨n0, n1, n2, n3, n4, n5, n6, n7, n8, n9, nf⟩ := id hb
  go_enter Try.func37, Try.ntmps37
  go_wp2_with fail
  go_at_call 45
  refine (HC1.out _ _ (by simp)).mono ?_
  rintro e w1 ⟨rfl, rfl⟩
  go_wp2_with fail
  have m4 : (w.setCell ⟨b, 8, none⟩ (.int .u64 (M : Nat))).cell? ⟨b, 4, none⟩ = some (.int .u64 (est : Nat)) := (World.cell?_setCell_other _ _ _ _ (by simp)).trans n4
  have m5 : (w.setCell ⟨b, 8, none⟩ (.int .u64 (M : Nat))).cell? ⟨b, 5, none⟩ = some (.int .u64 (room : Nat)) := (World.cell?_setCell_other _ _ _ _ (by simp)).trans n5
  have mk : (w.setCell ⟨b, 8, none⟩ (.int .u64 (M : Nat))).cell? ⟨g, k, none⟩ = some (.int .u64 (d : Nat)) := (World.cell?_setCell_other _ _ _ _ (by intro e; injection e; omega)).trans k0
  have mf : (w.setCell ⟨b, 8, none⟩ (.int .u64 (M : Nat))).frozen? ⟨g, k, none⟩ = false := (World.frozen?_setCell _ _ _ _).trans kf
  have T1 := hb.set8 (.int .u64 (M : Nat))
  have O1 := hOp.out.off rfl (p := ⟨b, 8, none⟩) (show b ≠ g by omega) (.int .u64 (M : Nat))
  have f1 : Off b g w (w.setCell ⟨b, 8, none⟩ (.int .u64 (M : Nat))) := Off.set ⟨b, 8, none⟩ (.inl rfl) _
  generalize hW1 : w.setCell ⟨b, 8, none⟩ (.int .u64 (M : Nat)) = W1 at *
  refine wp_region_held_drew (S := (fun X : World => X.cell? ⟨b, 4, none⟩ = some (.int .u64 (est : Nat)) ∧ X.cell? ⟨b, 5, none⟩ = some (.int .u64 (room : Nat)))) (by kernel_rfl) ?_ (fun hHeld => ?_)
  · (try dsimp only); refine ⟨?_, ?_⟩ <;> first | assumption | (simp [go_sem]; done) | exact (World.cell?_alloc_lt _ _ ⟨_, _, _⟩ (by first | omega | (simp; omega) | simp)).trans (by assumption) | exact (World.cell?_setCell_other _ _ _ _ (by intro e; injection e; omega)).trans (by assumption)
  refine wpAnyH_take (i := 0) (v := ?_) rfl (by kernel_rfl) (by kernel_rfl) (by kernel_rfl) (fun _ _ _ h => h) (Or.inl ⟨by rfl, ?_⟩) (by assumption) ?_
  rotate_left
  · (intro w hSw; (try dsimp only at hSw); go_simp; first | done | with_reducible rfl)
  try simp only [Act.put, List.getElem_toArray, List.getElem_cons_zero, List.getElem_cons_succ, List.setIfInBounds_toArray, List.set_cons_zero, List.set_cons_succ]
  refine wpAnyH_take (i := 1) (v := ?_) rfl (by kernel_rfl) (by kernel_rfl) (by kernel_rfl) (fun _ _ _ h => h) (Or.inl ⟨by rfl, ?_⟩) (by assumption) ?_
  rotate_left
  · (intro w hSw; (try dsimp only at hSw); go_simp; first | done | with_reducible rfl)
  try simp only [Act.put, List.getElem_toArray, List.getElem_cons_zero, List.getElem_cons_succ, List.setIfInBounds_toArray, List.set_cons_zero, List.set_cons_succ]
  refine wpAnyH_take (i := 2) (v := ?_) rfl (by kernel_rfl) (by kernel_rfl) (by kernel_rfl) (fun _ _ _ h => h) (Or.inl ⟨by rfl, ?_⟩) (by assumption) ?_
  rotate_left
  · (intro w hSw; (try dsimp only at hSw); go_simp; first | done | with_reducible rfl)
  try simp only [Act.put, List.getElem_toArray, List.getElem_cons_zero, List.getElem_cons_succ, List.setIfInBounds_toArray, List.set_cons_zero, List.set_cons_succ]
  refine wpAnyH_take (i := 4) (v := ?_) rfl (by kernel_rfl) (by kernel_rfl) (by kernel_rfl) (fun _ _ _ h => h) (Or.inl ⟨by rfl, ?_⟩) (by assumption) ?_
  rotate_left
  · (intro w hSw; (try dsimp only at hSw); go_simp; first | done | with_reducible rfl)
  try simp only [Act.put, List.getElem_toArray, List.getElem_cons_zero, List.getElem_cons_succ, List.setIfInBounds_toArray, List.set_cons_zero, List.set_cons_succ]
  refine wpAnyH_take (i := 5) (v := ?_) rfl (by kernel_rfl) (by kernel_rfl) (by kernel_rfl) (fun _ _ _ h => h) (Or.inl ⟨by rfl, ?_⟩) (by assumption) ?_
  rotate_left
  · (intro w hSw; (try dsimp only at hSw); go_simp; first | done | with_reducible rfl)
  try simp only [Act.put, List.getElem_toArray, List.getElem_cons_zero, List.getElem_cons_succ, List.setIfInBounds_toArray, List.set_cons_zero, List.set_cons_succ]
  refine wpAnyH_take (i := 6) (v := ?_) rfl (by kernel_rfl) (by kernel_rfl) (by kernel_rfl) (fun _ _ _ h => h) (Or.inl ⟨by rfl, ?_⟩) (by assumption) ?_
  rotate_left
  · (intro w hSw; (try dsimp only at hSw); go_simp; first | done | with_reducible rfl)
  try simp only [Act.put, List.getElem_toArray, List.getElem_cons_zero, List.getElem_cons_succ, List.setIfInBounds_toArray, List.set_cons_zero, List.set_cons_succ]
  refine wpAnyH_take (i := 7) (v := ?_) rfl (by kernel_rfl) (by kernel_rfl) (by kernel_rfl) (fun _ _ _ h => h) (Or.inl ⟨by rfl, ?_⟩) (by assumption) ?_
  rotate_left
  · (intro w hSw; (try dsimp only at hSw); go_simp; first | done | with_reducible rfl)
  try simp only [Act.put, List.getElem_toArray, List.getElem_cons_zero, List.getElem_cons_succ, List.setIfInBounds_toArray, List.set_cons_zero, List.set_cons_succ]
  refine wpAnyH_take (i := 8) (v := ?_) rfl (by kernel_rfl) (by kernel_rfl) (by kernel_rfl) (fun _ _ _ h => h) (Or.inl ⟨by rfl, ?_⟩) (by assumption) ?_
  rotate_left
  · (intro w hSw; (try dsimp only at hSw); go_simp; first | done | with_reducible rfl)
  try simp only [Act.put, List.getElem_toArray, List.getElem_cons_zero, List.getElem_cons_succ, List.setIfInBounds_toArray, List.set_cons_zero, List.set_cons_succ]
  refine wpAnyH_take (i := 9) (v := ?_) rfl (by kernel_rfl) (by kernel_rfl) (by kernel_rfl) (fun _ _ _ h => h) (Or.inl ⟨by rfl, ?_⟩) (by assumption) ?_
  rotate_left
  · (intro w hSw; (try dsimp only at hSw); go_simp; first | done | with_reducible rfl)
  try simp only [Act.put, List.getElem_toArray, List.getElem_cons_zero, List.getElem_cons_succ, List.setIfInBounds_toArray, List.set_cons_zero, List.set_cons_succ]
  refine wpAnyH_take (i := 10) (v := ?_) rfl (by kernel_rfl) (by kernel_rfl) (by kernel_rfl) (fun _ _ _ h => h) (Or.inl ⟨by rfl, ?_⟩) (by assumption) ?_
  rotate_left
  · (intro w hSw; (try dsimp only at hSw); go_simp; first | done | with_reducible rfl)
  try simp only [Act.put, List.getElem_toArray, List.getElem_cons_zero, List.getElem_cons_succ, List.setIfInBounds_toArray, List.set_cons_zero, List.set_cons_succ]
  refine wpAnyH_take (i := 11) (v := ?_) rfl (by kernel_rfl) (by kernel_rfl) (by kernel_rfl) (fun _ _ _ h => h) (Or.inl ⟨by rfl, ?_⟩) (by assumption) ?_
  rotate_left
  · (intro w hSw; (try dsimp only at hSw); go_simp; first | done | with_reducible rfl)
  try simp only [Act.put, List.getElem_toArray, List.getElem_cons_zero, List.getElem_cons_succ, List.setIfInBounds_toArray, List.set_cons_zero, List.set_cons_succ]
  refine wpAnyH_take (i := 12) (v := ?_) rfl (by kernel_rfl) (by kernel_rfl) (by kernel_rfl) (fun _ _ _ h => h) (Or.inl ⟨by rfl, ?_⟩) (by assumption) ?_
  rotate_left
  · (intro w hSw; (try dsimp only at hSw); go_simp; first | done | with_reducible rfl)
  try simp only [Act.put, List.getElem_toArray, List.getElem_cons_zero, List.getElem_cons_succ, List.setIfInBounds_toArray, List.set_cons_zero, List.set_cons_succ]
  refine wpAnyH_take (i := 13) (v := ?_) rfl (by kernel_rfl) (by kernel_rfl) (by kernel_rfl) (fun _ _ _ h => h) (Or.inl ⟨by rfl, ?_⟩) (by assumption) ?_
  rotate_left
  · (intro w hSw; (try dsimp only at hSw); go_simp; first | done | with_reducible rfl)
  try simp only [Act.put, List.getElem_toArray, List.getElem_cons_zero, List.getElem_cons_succ, List.setIfInBounds_toArray, List.set_cons_zero, List.set_cons_succ]
  refine wpAnyH_take (i := 14) (v := ?_) rfl (by kernel_rfl) (by kernel_rfl) (by kernel_rfl) (fun _ _ _ h => h) (Or.inl ⟨by rfl, ?_⟩) (by assumption) ?_
  rotate_left
  · (intro w hSw; (try dsimp only at hSw); go_simp; first | done | with_reducible rfl)
  try simp only [Act.put, List.getElem_toArray, List.getElem_cons_zero, List.getElem_cons_succ, List.setIfInBounds_toArray, List.set_cons_zero, List.set_cons_succ]
  refine wpAnyH_take (i := 15) (v := ?_) rfl (by kernel_rfl) (by kernel_rfl) (by kernel_rfl) (fun _ _ _ h => h) (Or.inl ⟨by rfl, ?_⟩) (by assumption) ?_
  rotate_left
  · (intro w hSw; (try dsimp only at hSw); go_simp; first | done | with_reducible rfl)
  try simp only [Act.put, List.getElem_toArray, List.getElem_cons_zero, List.getElem_cons_succ, List.setIfInBounds_toArray, List.set_cons_zero, List.set_cons_succ]
  refine wpAnyH_take (i := 16) (v := ?_) rfl (by kernel_rfl) (by kernel_rfl) (by kernel_rfl) (fun _ _ _ h => h) (Or.inl ⟨by rfl, ?_⟩) (by assumption) ?_
  rotate_left
  · (intro w hSw; (try dsimp only at hSw); go_simp; first | done | with_reducible rfl)
  try simp only [Act.put, List.getElem_toArray, List.getElem_cons_zero, List.getElem_cons_succ, List.setIfInBounds_toArray, List.set_cons_zero, List.set_cons_succ]
  refine wpAnyH_take (i := 17) (v := ?_) rfl (by kernel_rfl) (by kernel_rfl) (by kernel_rfl) (fun _ _ _ h => h) (Or.inl ⟨by rfl, ?_⟩) (by assumption) ?_
  rotate_left
  · (intro w hSw; (try dsimp only at hSw); go_simp; first | done | with_reducible rfl)
  try simp only [Act.put, List.getElem_toArray, List.getElem_cons_zero, List.getElem_cons_succ, List.setIfInBounds_toArray, List.set_cons_zero, List.set_cons_succ]
  refine wpAnyH_take (i := 18) (v := ?_) rfl (by kernel_rfl) (by kernel_rfl) (by kernel_rfl) (fun _ _ _ h => h) (Or.inl ⟨by rfl, ?_⟩) (by assumption) ?_
  rotate_left
  · (intro w hSw; (try dsimp only at hSw); go_simp; first | done | with_reducible rfl)
  try simp only [Act.put, List.getElem_toArray, List.getElem_cons_zero, List.getElem_cons_succ, List.setIfInBounds_toArray, List.set_cons_zero, List.set_cons_succ]
  refine wpAnyH_take (i := 19) (v := ?_) rfl (by kernel_rfl) (by kernel_rfl) (by kernel_rfl) (fun _ _ _ h => h) (Or.inl ⟨by rfl, ?_⟩) (by assumption) ?_
  rotate_left
  · (intro w hSw; (try dsimp only at hSw); go_simp; first | done | with_reducible rfl)
  try simp only [Act.put, List.getElem_toArray, List.getElem_cons_zero, List.getElem_cons_succ, List.setIfInBounds_toArray, List.set_cons_zero, List.set_cons_succ]
  refine wpAnyH_take (i := 20) (v := ?_) rfl (by kernel_rfl) (by kernel_rfl) (by kernel_rfl) (fun _ _ _ h => h) (Or.inl ⟨by rfl, ?_⟩) (by assumption) ?_
  rotate_left
  · (intro w hSw; (try dsimp only at hSw); go_simp; first | done | with_reducible rfl)
  try simp only [Act.put, List.getElem_toArray, List.getElem_cons_zero, List.getElem_cons_succ, List.setIfInBounds_toArray, List.set_cons_zero, List.set_cons_succ]
  refine wpAnyH_take (i := 21) (v := ?_) rfl (by kernel_rfl) (by kernel_rfl) (by kernel_rfl) (fun _ _ _ h => h) (Or.inl ⟨by rfl, ?_⟩) (by assumption) ?_
  rotate_left
  · (intro w hSw; (try dsimp only at hSw); go_simp; first | done | with_reducible rfl)
  try simp only [Act.put, List.getElem_toArray, List.getElem_cons_zero, List.getElem_cons_succ, List.setIfInBounds_toArray, List.set_cons_zero, List.set_cons_succ]
  refine wpAnyH_take (i := 22) (v := ?_) rfl (by kernel_rfl) (by kernel_rfl) (by kernel_rfl) (fun _ _ _ h => h) (Or.inl ⟨by rfl, ?_⟩) (by assumption) ?_
  rotate_left
  · (intro w hSw; (try dsimp only at hSw); go_simp; first | done | with_reducible rfl)
  try simp only [Act.put, List.getElem_toArray, List.getElem_cons_zero, List.getElem_cons_succ, List.setIfInBounds_toArray, List.set_cons_zero, List.set_cons_succ]
  refine wpAnyH_take (i := 23) (v := ?_) rfl (by kernel_rfl) (by kernel_rfl) (by kernel_rfl) (fun _ _ _ h => h) (Or.inl ⟨by rfl, ?_⟩) (by assumption) ?_
  rotate_left
  · (intro w hSw; (try dsimp only at hSw); go_simp; first | done | with_reducible rfl)
  try simp only [Act.put, List.getElem_toArray, List.getElem_cons_zero, List.getElem_cons_succ, List.setIfInBounds_toArray, List.set_cons_zero, List.set_cons_succ]
  refine wpAnyH_ready (rs := [3]) (by kernel_rfl) (by simp) ?_
  refine AllReadyH.cons rfl (fun K hK => ?_) AllReadyH.nil
  try simp only [List.getElem_toArray, List.getElem_cons_zero, List.getElem_cons_succ]
  go_simp
  refine hK.out _ _ ?_ (fun hHeld => ?_)
  · (try dsimp only); refine ⟨?_, ?_⟩ <;> first | assumption | (simp [go_sem]; done) | exact (World.cell?_alloc_lt _ _ ⟨_, _, _⟩ (by first | omega | (simp; omega) | simp)).trans (by assumption) | exact (World.cell?_setCell_other _ _ _ _ (by intro e; injection e; omega)).trans (by assumption)
  clear hK K
  try simp only [Act.put, List.getElem_toArray, List.getElem_cons_zero, List.getElem_cons_succ, List.setIfInBounds_toArray, List.set_cons_zero, List.set_cons_succ]
  refine wpAnyH_take (i := 24) (v := ?_) rfl (by kernel_rfl) (by kernel_rfl) (by kernel_rfl) (fun _ _ _ h => h) (Or.inl ⟨by rfl, ?_⟩) (by assumption) ?_
  rotate_left
  · (intro w hSw; (try dsimp only at hSw); go_simp; first | done | with_reducible rfl)
  try simp only [Act.put, List.getElem_toArray, List.getElem_cons_zero, List.getElem_cons_succ, List.setIfInBounds_toArray, List.set_cons_zero, List.set_cons_succ]
  refine wpAnyH_ready (rs := [25]) (by kernel_rfl) (by simp) ?_
  refine AllReadyH.cons rfl (fun K hK => ?_) AllReadyH.nil
  try simp only [List.getElem_toArray, List.getElem_cons_zero, List.getElem_cons_succ]
  go_simp
  go_at_call 45
  refine (HC2.out _ _ (by simp)).mono ?_
  rintro e w2 ⟨rfl, rfl⟩
  try go_wp2_with fail
  refine hK.out _ _ ?_ (fun hHeld => ?_)
  · (try dsimp only); refine ⟨?_, ?_⟩ <;> first | assumption | (simp [go_sem]; done) | exact (World.cell?_alloc_lt _ _ ⟨_, _, _⟩ (by first | omega | (simp; omega) | simp)).trans (by assumption) | exact (World.cell?_setCell_other _ _ _ _ (by intro e; injection e; omega)).trans (by assumption)
  clear hK K
  try simp only [Act.put, List.getElem_toArray, List.getElem_cons_zero, List.getElem_cons_succ, List.setIfInBounds_toArray, List.set_cons_zero, List.set_cons_succ]
  refine wpAnyH_take (i := 26) (v := ?_) rfl (by kernel_rfl) (by kernel_rfl) (by kernel_rfl) (fun _ _ _ h => h) (Or.inl ⟨by rfl, ?_⟩) (by assumption) ?_
  rotate_left
  · (intro w hSw; (try dsimp only at hSw); go_simp; first | done | with_reducible rfl)
  try simp only [Act.put, List.getElem_toArray, List.getElem_cons_zero, List.getElem_cons_succ, List.setIfInBounds_toArray, List.set_cons_zero, List.set_cons_succ]
  refine wpAnyH_ready (rs := [27]) (by kernel_rfl) (by simp) ?_
  refine AllReadyH.cons rfl (fun K hK => ?_) AllReadyH.nil
  try simp only [List.getElem_toArray, List.getElem_cons_zero, List.getElem_cons_succ]
  go_simp
  refine hK.out _ _ ?_ (fun hHeld => ?_)
  · (try dsimp only); refine ⟨?_, ?_⟩ <;> first | assumption | (simp [go_sem]; done) | exact (World.cell?_alloc_lt _ _ ⟨_, _, _⟩ (by first | omega | (simp; omega) | simp)).trans (by assumption) | exact (World.cell?_setCell_other _ _ _ _ (by intro e; injection e; omega)).trans (by assumption)
  clear hK K
  try simp only [Act.put, List.getElem_toArray, List.getElem_cons_zero, List.getElem_cons_succ, List.setIfInBounds_toArray, List.set_cons_zero, List.set_cons_succ]
  refine wpAnyH_done (by kernel_rfl) ?_ _
  have T2 := (T1.far (p := ⟨g, k, none⟩) hgb (.int .u64 (D : Nat))).later (Below.refl _ _).drew
  have O2 := (O1.set_ rfl hkl (x := D) (by unfold W64; omega)).later (Below.refl _ _).drew
  have f2 := (f1.trans (Off.set ⟨g, k, none⟩ (.inr rfl) (.int .u64 (D : Nat)))).trans (Off.of (Below.refl _ _).drew)
  generalize hW2 : (W1.setCell ⟨g, k, none⟩ (.int .u64 (D : Nat))).drew = W2 at *
  obtain ⟨g', e1, hBg2, hg2, hc2⟩ := O2.at_ (by rw [List.length_set]; omega)
  obtain rfl : g = g' := by injection e1 with e1; injection e1
  obtain ⟨j0, jf⟩ := hc2 k (by rw [List.length_set]; omega)
  rw [getD_setN _ _ _ _ hkl, if_pos rfl] at j0
  clear hc2 e1 n0 n1 n2 n3 n4 n5 n6 n7 n8 n9 nf m4 m5 mk mf hW1 hW2
  have hlt2 := T2.lt
  obtain ⟨n0, n1, n2, n3, n4, n5, n6, n7, n8, n9, nf⟩ := id T2
  go_wp2_with fail
  go_quiet (fail)
  go_wp2
  all_goals
    go_ret
    refine ⟨ret_int (by omega), (((T2.later (below_drewN (Below.refl _ _) _)).far (p := ⟨g, k, none⟩) hgb _).set6 _).cong rfl rfl rfl (ival_eq (by omega)) rfl rfl, ((f2.trans (Off.of (below_drewN (Below.refl _ _) _))).trans (Off.set ⟨g, k, none⟩ (.inr rfl) _)).trans (Off.set ⟨b, 6, none⟩ (.inl rfl) _), ?_⟩
    rw [show ds.set k (D - min D credit) = (ds.set k D).set k (D - min D credit) by rw [List.set_set]]
    exact ((O2.later (below_drewN (Below.refl _ _) _)).seti rfl (by rw [List.length_set]; exact hkl) (by omega) (by unfold W64; omega)).off rfl (p := ⟨b, 6, none⟩) (show b ≠ g by omega) _
end
end Go.Proofs.Ytkdbcoibapcmjaa
