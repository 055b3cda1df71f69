/- Contracts of package arena: Move. -/
import Derived.Test.YtbhblffomlhopabA5
namespace Go.Proofs.Ytbhblffomlhopab
open Go.RowKit
set_option linter.unusedVariables false
set_option linter.unusedSimpArgs false

section
variable {A : Option Addr} {ws : List Nat} {w : World} (cap : Nat)
set_option maxHeartbeats 1000000 in
theorem move_no (t i n : Int) (c : Bool) (us : List Nat) (why : Int) (hl : ws.length ≤ 17592186044416) (h0 : 0 ≤ i) (h1 : i ≤ 18446744073709551615) (h2 : 0 ≤ n) (h3 : n ≤ 18446744073709551615) (h4 : 0 ≤ t) (h5 : t ≤ 18446744073709551615) (hb : ¬ There ws.length t n) (hc : (c = true ∧ There ws.length i n) ∨ (c = false ∧ ¬ There ws.length i n))
    (D : ∀ W : World, Below w.heap.size w W → W.cell? ⟨w.heap.size, 0, none⟩ = some (.slice A ws.length cap) → W.cell? ⟨w.heap.size + 1, 0, none⟩ = some (.int .u64 t) → W.cell? ⟨w.heap.size + 2, 0, none⟩ = some (.int .u64 i) → W.cell? ⟨w.heap.size + 3, 0, none⟩ = some (.int .u64 n) → w.heap.size + 3 < W.heap.size → Calls Try.prog 27 #[.agg #[.slice A ws.length cap], .bool false, .func (.func 32) #[] #[.pointer (some ⟨w.heap.size + 1, 0, none⟩), .pointer (some ⟨w.heap.size + 3, 0, none⟩), .pointer (some ⟨w.heap.size, 0, none⟩), .pointer (some ⟨w.heap.size + 2, 0, none⟩)]] W fun e w' => FreshA W us why e w') :
    Calls Try.prog 15 #[.agg #[.slice A ws.length cap], .int .u64 t, .int .u64 i, .int .u64 n] w fun e w' => FreshA w us why e w' := by
  have HB := Lib.hid hb
  have HC := Lib.hid hc
  have HD := Lib.hid D
  clear hb hc D
  go_enter Try.func15, Try.ntmps15
  go_wp2_with fail
  refine wp_region_held_drew (S := (fun X : World => X.cell? ⟨w.heap.size, 0, none⟩ = some (.slice A ws.length cap) ∧ X.cell? ⟨w.heap.size + 1, 0, none⟩ = some (.int .u64 t) ∧ X.cell? ⟨w.heap.size + 2, 0, none⟩ = some (.int .u64 i) ∧ X.cell? ⟨w.heap.size + 3, 0, none⟩ = some (.int .u64 n))) (by kernel_rfl) ?_ (fun hHeld => ?_)
  · (try dsimp only); refine ⟨?_, ?_, ?_, ?_⟩ <;> first | assumption | (simp [go_sem]; done) | (rw [World.cell?_setCell_other _ _ _ _ (by simp)]; assumption)
  refine wpAnyH_take (i := 0) (v := ?_) rfl (by kernel_rfl) (by kernel_rfl) (by kernel_rfl) (fun _ _ _ h => h) (Or.inl ⟨by rfl, ?_⟩) (by assumption) ?_
  rotate_left
  · (intro w hSw; (try dsimp only at hSw); go_simp; first | done | with_reducible rfl)
  try simp only [Act.put, List.setIfInBounds_toArray, List.set_cons_zero, List.set_cons_succ]
  refine wpAnyH_take (i := 1) (v := ?_) rfl (by kernel_rfl) (by kernel_rfl) (by kernel_rfl) (fun _ _ _ h => h) (Or.inl ⟨by rfl, ?_⟩) (by assumption) ?_
  rotate_left
  · (intro w hSw; (try dsimp only at hSw); go_simp; first | done | with_reducible rfl)
  try simp only [Act.put, List.setIfInBounds_toArray, List.set_cons_zero, List.set_cons_succ]
  refine wpAnyH_take (i := 2) (v := ?_) rfl (by kernel_rfl) (by kernel_rfl) (by kernel_rfl) (fun _ _ _ h => h) (Or.inl ⟨by rfl, ?_⟩) (by assumption) ?_
  rotate_left
  · (intro w hSw; (try dsimp only at hSw); go_simp; first | done | with_reducible rfl)
  try simp only [Act.put, List.setIfInBounds_toArray, List.set_cons_zero, List.set_cons_succ]
  refine wpAnyH_take (i := 3) (v := ?_) rfl (by kernel_rfl) (by kernel_rfl) (by kernel_rfl) (fun _ _ _ h => h) (Or.inl ⟨by rfl, ?_⟩) (by assumption) ?_
  rotate_left
  · (intro w hSw; (try dsimp only at hSw); go_simp; first | done | with_reducible rfl)
  try simp only [Act.put, List.setIfInBounds_toArray, List.set_cons_zero, List.set_cons_succ]
  refine wpAnyH_take (i := 11) (v := ?_) rfl (by kernel_rfl) (by kernel_rfl) (by kernel_rfl) (fun _ _ _ h => h) (Or.inl ⟨by rfl, ?_⟩) (by assumption) ?_
  rotate_left
  · (intro w hSw; (try dsimp only at hSw); go_simp; first | done | with_reducible rfl)
  try simp only [Act.put, List.setIfInBounds_toArray, List.set_cons_zero, List.set_cons_succ]
  refine wpAnyH_ready (rs := [4]) (by kernel_rfl) (by simp) ?_
  refine AllReadyH.cons rfl (fun K hK => ?_) AllReadyH.nil
  go_simp
  refine (fits_any _ _ t n false (by omega) h4 h2 h3 h5 (.inr ⟨rfl, HB.out⟩)).mono ?_
  rintro e w1 ⟨rfl, hb_w1⟩
  obtain ⟨hc_w1, hf_w1⟩ := bcell hb_w1; have hz_w1_w_0 : w.heap.size < w1.heap.size := (by have hzz := hb_w1.size; (try simp only [World.size_alloc, World.size_setCell, World.size_drew, World.heap_drewN] at hzz); omega); have hz_w1_w_1 : w.heap.size + 1 < w1.heap.size := (by have hzz := hb_w1.size; (try simp only [World.size_alloc, World.size_setCell, World.size_drew, World.heap_drewN] at hzz); omega); have hz_w1_w_2 : w.heap.size + 2 < w1.heap.size := (by have hzz := hb_w1.size; (try simp only [World.size_alloc, World.size_setCell, World.size_drew, World.heap_drewN] at hzz); omega); have hz_w1_w_3 : w.heap.size + 3 < w1.heap.size := (by have hzz := hb_w1.size; (try simp only [World.size_alloc, World.size_setCell, World.size_drew, World.heap_drewN] at hzz); omega); have hz_w1_w_4 : w.heap.size + 4 < w1.heap.size := (by have hzz := hb_w1.size; (try simp only [World.size_alloc, World.size_setCell, World.size_drew, World.heap_drewN] at hzz); omega); have hs_w1 := hb_w1.size; (try simp only [World.size_alloc, World.size_setCell, World.size_drew, World.heap_drewN] at hs_w1)
  have k0_w1 : w1.cell? ⟨w.heap.size, 0, none⟩ = some (.slice A ws.length cap) := ((hc_w1 _ _ (by first | omega | (simp; omega) | simp)).trans (by simp [go_sem]))
  have k1_w1 : w1.cell? ⟨w.heap.size + 1, 0, none⟩ = some (.int .u64 t) := ((hc_w1 _ _ (by first | omega | (simp; omega) | simp)).trans (by simp [go_sem]))
  have k2_w1 : w1.cell? ⟨w.heap.size + 2, 0, none⟩ = some (.int .u64 i) := ((hc_w1 _ _ (by first | omega | (simp; omega) | simp)).trans (by simp [go_sem]))
  have k3_w1 : w1.cell? ⟨w.heap.size + 3, 0, none⟩ = some (.int .u64 n) := ((hc_w1 _ _ (by first | omega | (simp; omega) | simp)).trans (by simp [go_sem]))
  have o_w1 : One w1 (w.heap.size + 4) (.slice none 0 0) := (⟨(hc_w1 _ _ (by first | omega | (simp; omega) | simp)).trans (by simp [go_sem]), (hf_w1 _ _ (by first | omega | (simp; omega) | simp)).trans (by simp [go_sem])⟩)
  try go_wp2_with fail
  refine hK.out _ _ ?_ (fun hHeld => ?_)
  · (try dsimp only); refine ⟨?_, ?_, ?_, ?_⟩ <;> first | assumption | (simp [go_sem]; done) | (rw [World.cell?_setCell_other _ _ _ _ (by simp)]; assumption)
  clear hK K
  try simp only [Act.put, List.setIfInBounds_toArray, List.set_cons_zero, List.set_cons_succ]
  refine wpAnyH_take (i := 5) (v := ?_) rfl (by kernel_rfl) (by kernel_rfl) (by kernel_rfl) (fun _ _ _ h => h) (Or.inl ⟨by rfl, ?_⟩) (by assumption) ?_
  rotate_left
  · (intro w hSw; (try dsimp only at hSw); go_simp; first | done | with_reducible rfl)
  try simp only [Act.put, List.setIfInBounds_toArray, List.set_cons_zero, List.set_cons_succ]
  refine wpAnyH_take (i := 6) (v := undef) rfl (by kernel_rfl) (by kernel_rfl) (by kernel_rfl) (fun _ _ _ h => h) (Or.inr ⟨by rfl, rfl⟩) (by assumption) ?_
  try simp only [Act.put, List.setIfInBounds_toArray, List.set_cons_zero, List.set_cons_succ]
  refine wpAnyH_take (i := 7) (v := undef) rfl (by kernel_rfl) (by kernel_rfl) (by kernel_rfl) (fun _ _ _ h => h) (Or.inr ⟨by rfl, rfl⟩) (by assumption) ?_
  try simp only [Act.put, List.setIfInBounds_toArray, List.set_cons_zero, List.set_cons_succ]
  refine wpAnyH_take (i := 8) (v := undef) rfl (by kernel_rfl) (by kernel_rfl) (by kernel_rfl) (fun _ _ _ h => h) (Or.inr ⟨by rfl, rfl⟩) (by assumption) ?_
  try simp only [Act.put, List.setIfInBounds_toArray, List.set_cons_zero, List.set_cons_succ]
  refine wpAnyH_ready (rs := [9]) (by kernel_rfl) (by simp) ?_
  refine AllReadyH.cons rfl (fun K hK => ?_) AllReadyH.nil
  go_simp
  refine hK.out _ _ ?_ (fun hHeld => ?_)
  · (try dsimp only); refine ⟨?_, ?_, ?_, ?_⟩ <;> first | assumption | (simp [go_sem]; done) | (rw [World.cell?_setCell_other _ _ _ _ (by simp)]; assumption)
  clear hK K
  try simp only [Act.put, List.setIfInBounds_toArray, List.set_cons_zero, List.set_cons_succ]
  refine wpAnyH_take (i := 10) (v := ?_) rfl (by kernel_rfl) (by kernel_rfl) (by kernel_rfl) (fun _ _ _ h => h) (Or.inl ⟨by rfl, ?_⟩) (by assumption) ?_
  rotate_left
  · (intro w hSw; (try dsimp only at hSw); go_simp; first | done | with_reducible rfl)
  try simp only [Act.put, List.setIfInBounds_toArray, List.set_cons_zero, List.set_cons_succ]
  refine wpAnyH_ready (rs := [12]) (by kernel_rfl) (by simp) ?_
  refine AllReadyH.cons rfl (fun K hK => ?_) AllReadyH.nil
  go_simp
  refine (HD.out _ (by repeat (first | exact Below.refl _ _ | assumption | (refine below_drewN ?_ _) | (refine Below.drew ?_) | (refine Below.alloc ?_ (by first | omega | (simp; omega) | simp) _) | (refine Below.setCell ?_ (by first | omega | (simp; omega) | simp) _) | (refine below_trans ?_ (by assumption) (by first | omega | (simp; omega) | simp)))) (by assumption) (by assumption) (by assumption) (by assumption) (by first | omega | (simp; omega) | simp)).mono ?_
  rintro e w2 ⟨A2, cap2, rfl, ho2, hb_w2⟩
  obtain ⟨hc_w2, hf_w2⟩ := bcell hb_w2; have hz_w2_w_0 : w.heap.size < w2.heap.size := (by have hzz := hb_w2.size; (try simp only [World.size_alloc, World.size_setCell, World.size_drew, World.heap_drewN] at hzz); omega); have hz_w2_w_1 : w.heap.size + 1 < w2.heap.size := (by have hzz := hb_w2.size; (try simp only [World.size_alloc, World.size_setCell, World.size_drew, World.heap_drewN] at hzz); omega); have hz_w2_w_2 : w.heap.size + 2 < w2.heap.size := (by have hzz := hb_w2.size; (try simp only [World.size_alloc, World.size_setCell, World.size_drew, World.heap_drewN] at hzz); omega); have hz_w2_w_3 : w.heap.size + 3 < w2.heap.size := (by have hzz := hb_w2.size; (try simp only [World.size_alloc, World.size_setCell, World.size_drew, World.heap_drewN] at hzz); omega); have hz_w2_w_4 : w.heap.size + 4 < w2.heap.size := (by have hzz := hb_w2.size; (try simp only [World.size_alloc, World.size_setCell, World.size_drew, World.heap_drewN] at hzz); omega); have hs_w2 := hb_w2.size; (try simp only [World.size_alloc, World.size_setCell, World.size_drew, World.heap_drewN] at hs_w2)
  have k0_w2 : w2.cell? ⟨w.heap.size, 0, none⟩ = some (.slice A ws.length cap) := ((hc_w2 _ _ (by first | omega | (simp; omega) | simp)).trans k0_w1)
  have k1_w2 : w2.cell? ⟨w.heap.size + 1, 0, none⟩ = some (.int .u64 t) := ((hc_w2 _ _ (by first | omega | (simp; omega) | simp)).trans k1_w1)
  have k2_w2 : w2.cell? ⟨w.heap.size + 2, 0, none⟩ = some (.int .u64 i) := ((hc_w2 _ _ (by first | omega | (simp; omega) | simp)).trans k2_w1)
  have k3_w2 : w2.cell? ⟨w.heap.size + 3, 0, none⟩ = some (.int .u64 n) := ((hc_w2 _ _ (by first | omega | (simp; omega) | simp)).trans k3_w1)
  have o_w2 : One w2 (w.heap.size + 4) (.slice none 0 0) := (⟨(hc_w2 _ _ (by first | omega | (simp; omega) | simp)).trans o_w1.c0, (hf_w2 _ _ (by first | omega | (simp; omega) | simp)).trans o_w1.fr⟩)
  try go_wp2_with fail
  refine hK.out _ _ ?_ (fun hHeld => ?_)
  · (try dsimp only); refine ⟨?_, ?_, ?_, ?_⟩ <;> first | assumption | (simp [go_sem]; done) | (rw [World.cell?_setCell_other _ _ _ _ (by simp)]; assumption)
  clear hK K
  try simp only [Act.put, List.setIfInBounds_toArray, List.set_cons_zero, List.set_cons_succ]
  refine wpAnyH_take (i := 13) (v := ?_) rfl (by kernel_rfl) (by kernel_rfl) (by kernel_rfl) (fun _ _ _ h => h) (Or.inl ⟨by rfl, ?_⟩) (by assumption) ?_
  rotate_left
  · (intro w hSw; (try dsimp only at hSw); go_simp; first | done | with_reducible rfl)
  try simp only [Act.put, List.setIfInBounds_toArray, List.set_cons_zero, List.set_cons_succ]
  refine wpAnyH_take (i := 14) (v := ?_) rfl (by kernel_rfl) (by kernel_rfl) (by kernel_rfl) (fun _ _ _ h => h) (Or.inl ⟨by rfl, ?_⟩) (by assumption) ?_
  rotate_left
  · (intro w hSw; (try dsimp only at hSw); go_simp; first | done | with_reducible rfl)
  try simp only [Act.put, List.setIfInBounds_toArray, List.set_cons_zero, List.set_cons_succ]
  refine wpAnyH_ready (rs := [15]) (by kernel_rfl) (by simp) ?_
  refine AllReadyH.cons rfl (fun K hK => ?_) AllReadyH.nil
  go_simp
  refine hK.out _ _ ?_ (fun hHeld => ?_)
  · (try dsimp only); refine ⟨?_, ?_, ?_, ?_⟩ <;> first | assumption | (simp [go_sem]; done) | (rw [World.cell?_setCell_other _ _ _ _ (by simp)]; assumption)
  clear hK K
  try simp only [Act.put, List.setIfInBounds_toArray, List.set_cons_zero, List.set_cons_succ]
  refine wpAnyH_ready (rs := [16]) (by kernel_rfl) (by simp) ?_
  refine AllReadyH.cons rfl (fun K hK => ?_) AllReadyH.nil
  go_simp
  refine hK.out _ _ ?_ (fun hHeld => ?_)
  · (try dsimp only); refine ⟨?_, ?_, ?_, ?_⟩ <;> first | assumption | (simp [go_sem]; done) | (rw [World.cell?_setCell_other _ _ _ _ (by simp)]; assumption)
  clear hK K
  try simp only [Act.put, List.setIfInBounds_toArray, List.set_cons_zero, List.set_cons_succ]
  refine wpAnyH_done (by kernel_rfl) ?_ _
  go_wp2
  exact bodyPost_ret (res_arena rfl rfl (o_w2.set_ _).c0) rfl ⟨_, cap2, rfl, ⟨(ho2.1.far (p := ⟨w.heap.size + 4, 0, none⟩) (.inl (by first | omega | (simp; omega) | simp)) _).mono (by first | omega | (simp; omega) | simp), ho2.2⟩, (by repeat (first | exact Below.refl _ _ | assumption | (refine below_drewN ?_ _) | (refine Below.drew ?_) | (refine Below.alloc ?_ (by first | omega | (simp; omega) | simp) _) | (refine Below.setCell ?_ (by first | omega | (simp; omega) | simp) _) | (refine below_trans ?_ (by assumption) (by first | omega | (simp; omega) | simp))))⟩
set_option maxHeartbeats 1000000 in
theorem move_yes (t i n : Int) (c : Bool) (us : List Nat) (why : Int) (hl : ws.length ≤ 17592186044416) (h0 : 0 ≤ i) (h1 : i ≤ 18446744073709551615) (h2 : 0 ≤ n) (h3 : n ≤ 18446744073709551615) (h4 : 0 ≤ t) (h5 : t ≤ 18446744073709551615) (hb :  There ws.length t n) (hc : (c = true ∧ There ws.length i n) ∨ (c = false ∧ ¬ There ws.length i n))
    (D : ∀ W : World, Below w.heap.size w W → W.cell? ⟨w.heap.size, 0, none⟩ = some (.slice A ws.length cap) → W.cell? ⟨w.heap.size + 1, 0, none⟩ = some (.int .u64 t) → W.cell? ⟨w.heap.size + 2, 0, none⟩ = some (.int .u64 i) → W.cell? ⟨w.heap.size + 3, 0, none⟩ = some (.int .u64 n) → w.heap.size + 3 < W.heap.size → Calls Try.prog 27 #[.agg #[.slice A ws.length cap], .bool c, .func (.func 32) #[] #[.pointer (some ⟨w.heap.size + 1, 0, none⟩), .pointer (some ⟨w.heap.size + 3, 0, none⟩), .pointer (some ⟨w.heap.size, 0, none⟩), .pointer (some ⟨w.heap.size + 2, 0, none⟩)]] W fun e w' => FreshA W us why e w') :
    Calls Try.prog 15 #[.agg #[.slice A ws.length cap], .int .u64 t, .int .u64 i, .int .u64 n] w fun e w' => FreshA w us why e w' := by
  have HB := Lib.hid hb
  have HC := Lib.hid hc
  have HD := Lib.hid D
  clear hb hc D
  go_enter Try.func15, Try.ntmps15
  go_wp2_with fail
  refine wp_region_held_drew (S := (fun X : World => X.cell? ⟨w.heap.size, 0, none⟩ = some (.slice A ws.length cap) ∧ X.cell? ⟨w.heap.size + 1, 0, none⟩ = some (.int .u64 t) ∧ X.cell? ⟨w.heap.size + 2, 0, none⟩ = some (.int .u64 i) ∧ X.cell? ⟨w.heap.size + 3, 0, none⟩ = some (.int .u64 n))) (by kernel_rfl) ?_ (fun hHeld => ?_)
  · (try dsimp only); refine ⟨?_, ?_, ?_, ?_⟩ <;> first | assumption | (simp [go_sem]; done) | (rw [World.cell?_setCell_other _ _ _ _ (by simp)]; assumption)
  refine wpAnyH_take (i := 0) (v := ?_) rfl (by kernel_rfl) (by kernel_rfl) (by kernel_rfl) (fun _ _ _ h => h) (Or.inl ⟨by rfl, ?_⟩) (by assumption) ?_
  rotate_left
  · (intro w hSw; (try dsimp only at hSw); go_simp; first | done | with_reducible rfl)
  try simp only [Act.put, List.setIfInBounds_toArray, List.set_cons_zero, List.set_cons_succ]
  refine wpAnyH_take (i := 1) (v := ?_) rfl (by kernel_rfl) (by kernel_rfl) (by kernel_rfl) (fun _ _ _ h => h) (Or.inl ⟨by rfl, ?_⟩) (by assumption) ?_
  rotate_left
  · (intro w hSw; (try dsimp only at hSw); go_simp; first | done | with_reducible rfl)
  try simp only [Act.put, List.setIfInBounds_toArray, List.set_cons_zero, List.set_cons_succ]
  refine wpAnyH_take (i := 2) (v := ?_) rfl (by kernel_rfl) (by kernel_rfl) (by kernel_rfl) (fun _ _ _ h => h) (Or.inl ⟨by rfl, ?_⟩) (by assumption) ?_
  rotate_left
  · (intro w hSw; (try dsimp only at hSw); go_simp; first | done | with_reducible rfl)
  try simp only [Act.put, List.setIfInBounds_toArray, List.set_cons_zero, List.set_cons_succ]
  refine wpAnyH_take (i := 3) (v := ?_) rfl (by kernel_rfl) (by kernel_rfl) (by kernel_rfl) (fun _ _ _ h => h) (Or.inl ⟨by rfl, ?_⟩) (by assumption) ?_
  rotate_left
  · (intro w hSw; (try dsimp only at hSw); go_simp; first | done | with_reducible rfl)
  try simp only [Act.put, List.setIfInBounds_toArray, List.set_cons_zero, List.set_cons_succ]
  refine wpAnyH_take (i := 11) (v := ?_) rfl (by kernel_rfl) (by kernel_rfl) (by kernel_rfl) (fun _ _ _ h => h) (Or.inl ⟨by rfl, ?_⟩) (by assumption) ?_
  rotate_left
  · (intro w hSw; (try dsimp only at hSw); go_simp; first | done | with_reducible rfl)
  try simp only [Act.put, List.setIfInBounds_toArray, List.set_cons_zero, List.set_cons_succ]
  refine wpAnyH_ready (rs := [4]) (by kernel_rfl) (by simp) ?_
  refine AllReadyH.cons rfl (fun K hK => ?_) AllReadyH.nil
  go_simp
  refine (fits_any _ _ t n true (by omega) h4 h2 h3 h5 (.inl ⟨rfl, HB.out⟩)).mono ?_
  rintro e w1 ⟨rfl, hb_w1⟩
  obtain ⟨hc_w1, hf_w1⟩ := bcell hb_w1; have hz_w1_w_0 : w.heap.size < w1.heap.size := (by have hzz := hb_w1.size; (try simp only [World.size_alloc, World.size_setCell, World.size_drew, World.heap_drewN] at hzz); omega); have hz_w1_w_1 : w.heap.size + 1 < w1.heap.size := (by have hzz := hb_w1.size; (try simp only [World.size_alloc, World.size_setCell, World.size_drew, World.heap_drewN] at hzz); omega); have hz_w1_w_2 : w.heap.size + 2 < w1.heap.size := (by have hzz := hb_w1.size; (try simp only [World.size_alloc, World.size_setCell, World.size_drew, World.heap_drewN] at hzz); omega); have hz_w1_w_3 : w.heap.size + 3 < w1.heap.size := (by have hzz := hb_w1.size; (try simp only [World.size_alloc, World.size_setCell, World.size_drew, World.heap_drewN] at hzz); omega); have hz_w1_w_4 : w.heap.size + 4 < w1.heap.size := (by have hzz := hb_w1.size; (try simp only [World.size_alloc, World.size_setCell, World.size_drew, World.heap_drewN] at hzz); omega); have hs_w1 := hb_w1.size; (try simp only [World.size_alloc, World.size_setCell, World.size_drew, World.heap_drewN] at hs_w1)
  have k0_w1 : w1.cell? ⟨w.heap.size, 0, none⟩ = some (.slice A ws.length cap) := ((hc_w1 _ _ (by first | omega | (simp; omega) | simp)).trans (by simp [go_sem]))
  have k1_w1 : w1.cell? ⟨w.heap.size + 1, 0, none⟩ = some (.int .u64 t) := ((hc_w1 _ _ (by first | omega | (simp; omega) | simp)).trans (by simp [go_sem]))
  have k2_w1 : w1.cell? ⟨w.heap.size + 2, 0, none⟩ = some (.int .u64 i) := ((hc_w1 _ _ (by first | omega | (simp; omega) | simp)).trans (by simp [go_sem]))
  have k3_w1 : w1.cell? ⟨w.heap.size + 3, 0, none⟩ = some (.int .u64 n) := ((hc_w1 _ _ (by first | omega | (simp; omega) | simp)).trans (by simp [go_sem]))
  have o_w1 : One w1 (w.heap.size + 4) (.slice none 0 0) := (⟨(hc_w1 _ _ (by first | omega | (simp; omega) | simp)).trans (by simp [go_sem]), (hf_w1 _ _ (by first | omega | (simp; omega) | simp)).trans (by simp [go_sem])⟩)
  try go_wp2_with fail
  refine hK.out _ _ ?_ (fun hHeld => ?_)
  · (try dsimp only); refine ⟨?_, ?_, ?_, ?_⟩ <;> first | assumption | (simp [go_sem]; done) | (rw [World.cell?_setCell_other _ _ _ _ (by simp)]; assumption)
  clear hK K
  try simp only [Act.put, List.setIfInBounds_toArray, List.set_cons_zero, List.set_cons_succ]
  refine wpAnyH_take (i := 5) (v := ?_) rfl (by kernel_rfl) (by kernel_rfl) (by kernel_rfl) (fun _ _ _ h => h) (Or.inl ⟨by rfl, ?_⟩) (by assumption) ?_
  rotate_left
  · (intro w hSw; (try dsimp only at hSw); go_simp; first | done | with_reducible rfl)
  try simp only [Act.put, List.setIfInBounds_toArray, List.set_cons_zero, List.set_cons_succ]
  refine wpAnyH_take (i := 6) (v := ?_) rfl (by kernel_rfl) (by kernel_rfl) (by kernel_rfl) (fun _ _ _ h => h) (Or.inl ⟨by rfl, ?_⟩) (by assumption) ?_
  rotate_left
  · (intro w hSw; (try dsimp only at hSw); go_simp; first | done | with_reducible rfl)
  try simp only [Act.put, List.setIfInBounds_toArray, List.set_cons_zero, List.set_cons_succ]
  refine wpAnyH_take (i := 7) (v := ?_) rfl (by kernel_rfl) (by kernel_rfl) (by kernel_rfl) (fun _ _ _ h => h) (Or.inl ⟨by rfl, ?_⟩) (by assumption) ?_
  rotate_left
  · (intro w hSw; (try dsimp only at hSw); go_simp; first | done | with_reducible rfl)
  try simp only [Act.put, List.setIfInBounds_toArray, List.set_cons_zero, List.set_cons_succ]
  refine wpAnyH_take (i := 8) (v := ?_) rfl (by kernel_rfl) (by kernel_rfl) (by kernel_rfl) (fun _ _ _ h => h) (Or.inl ⟨by rfl, ?_⟩) (by assumption) ?_
  rotate_left
  · (intro w hSw; (try dsimp only at hSw); go_simp; first | done | with_reducible rfl)
  try simp only [Act.put, List.setIfInBounds_toArray, List.set_cons_zero, List.set_cons_succ]
  refine wpAnyH_ready (rs := [9]) (by kernel_rfl) (by simp) ?_
  refine AllReadyH.cons rfl (fun K hK => ?_) AllReadyH.nil
  go_simp
  refine (fits_any _ _ i n c (by omega) h0 h2 h3 h1 HC.out).mono ?_
  rintro e w2 ⟨rfl, hb_w2⟩
  obtain ⟨hc_w2, hf_w2⟩ := bcell hb_w2; have hz_w2_w_0 : w.heap.size < w2.heap.size := (by have hzz := hb_w2.size; (try simp only [World.size_alloc, World.size_setCell, World.size_drew, World.heap_drewN] at hzz); omega); have hz_w2_w_1 : w.heap.size + 1 < w2.heap.size := (by have hzz := hb_w2.size; (try simp only [World.size_alloc, World.size_setCell, World.size_drew, World.heap_drewN] at hzz); omega); have hz_w2_w_2 : w.heap.size + 2 < w2.heap.size := (by have hzz := hb_w2.size; (try simp only [World.size_alloc, World.size_setCell, World.size_drew, World.heap_drewN] at hzz); omega); have hz_w2_w_3 : w.heap.size + 3 < w2.heap.size := (by have hzz := hb_w2.size; (try simp only [World.size_alloc, World.size_setCell, World.size_drew, World.heap_drewN] at hzz); omega); have hz_w2_w_4 : w.heap.size + 4 < w2.heap.size := (by have hzz := hb_w2.size; (try simp only [World.size_alloc, World.size_setCell, World.size_drew, World.heap_drewN] at hzz); omega); have hs_w2 := hb_w2.size; (try simp only [World.size_alloc, World.size_setCell, World.size_drew, World.heap_drewN] at hs_w2)
  have k0_w2 : w2.cell? ⟨w.heap.size, 0, none⟩ = some (.slice A ws.length cap) := ((hc_w2 _ _ (by first | omega | (simp; omega) | simp)).trans k0_w1)
  have k1_w2 : w2.cell? ⟨w.heap.size + 1, 0, none⟩ = some (.int .u64 t) := ((hc_w2 _ _ (by first | omega | (simp; omega) | simp)).trans k1_w1)
  have k2_w2 : w2.cell? ⟨w.heap.size + 2, 0, none⟩ = some (.int .u64 i) := ((hc_w2 _ _ (by first | omega | (simp; omega) | simp)).trans k2_w1)
  have k3_w2 : w2.cell? ⟨w.heap.size + 3, 0, none⟩ = some (.int .u64 n) := ((hc_w2 _ _ (by first | omega | (simp; omega) | simp)).trans k3_w1)
  have o_w2 : One w2 (w.heap.size + 4) (.slice none 0 0) := (⟨(hc_w2 _ _ (by first | omega | (simp; omega) | simp)).trans o_w1.c0, (hf_w2 _ _ (by first | omega | (simp; omega) | simp)).trans o_w1.fr⟩)
  try go_wp2_with fail
  refine hK.out _ _ ?_ (fun hHeld => ?_)
  · (try dsimp only); refine ⟨?_, ?_, ?_, ?_⟩ <;> first | assumption | (simp [go_sem]; done) | (rw [World.cell?_setCell_other _ _ _ _ (by simp)]; assumption)
  clear hK K
  try simp only [Act.put, List.setIfInBounds_toArray, List.set_cons_zero, List.set_cons_succ]
  refine wpAnyH_take (i := 10) (v := ?_) rfl (by kernel_rfl) (by kernel_rfl) (by kernel_rfl) (fun _ _ _ h => h) (Or.inl ⟨by rfl, ?_⟩) (by assumption) ?_
  rotate_left
  · (intro w hSw; (try dsimp only at hSw); go_simp; first | done | with_reducible rfl)
  try simp only [Act.put, List.setIfInBounds_toArray, List.set_cons_zero, List.set_cons_succ]
  refine wpAnyH_ready (rs := [12]) (by kernel_rfl) (by simp) ?_
  refine AllReadyH.cons rfl (fun K hK => ?_) AllReadyH.nil
  go_simp
  refine (HD.out _ (by repeat (first | exact Below.refl _ _ | assumption | (refine below_drewN ?_ _) | (refine Below.drew ?_) | (refine Below.alloc ?_ (by first | omega | (simp; omega) | simp) _) | (refine Below.setCell ?_ (by first | omega | (simp; omega) | simp) _) | (refine below_trans ?_ (by assumption) (by first | omega | (simp; omega) | simp)))) (by assumption) (by assumption) (by assumption) (by assumption) (by first | omega | (simp; omega) | simp)).mono ?_
  rintro e w3 ⟨A2, cap2, rfl, ho2, hb_w3⟩
  obtain ⟨hc_w3, hf_w3⟩ := bcell hb_w3; have hz_w3_w_0 : w.heap.size < w3.heap.size := (by have hzz := hb_w3.size; (try simp only [World.size_alloc, World.size_setCell, World.size_drew, World.heap_drewN] at hzz); omega); have hz_w3_w_1 : w.heap.size + 1 < w3.heap.size := (by have hzz := hb_w3.size; (try simp only [World.size_alloc, World.size_setCell, World.size_drew, World.heap_drewN] at hzz); omega); have hz_w3_w_2 : w.heap.size + 2 < w3.heap.size := (by have hzz := hb_w3.size; (try simp only [World.size_alloc, World.size_setCell, World.size_drew, World.heap_drewN] at hzz); omega); have hz_w3_w_3 : w.heap.size + 3 < w3.heap.size := (by have hzz := hb_w3.size; (try simp only [World.size_alloc, World.size_setCell, World.size_drew, World.heap_drewN] at hzz); omega); have hz_w3_w_4 : w.heap.size + 4 < w3.heap.size := (by have hzz := hb_w3.size; (try simp only [World.size_alloc, World.size_setCell, World.size_drew, World.heap_drewN] at hzz); omega); have hs_w3 := hb_w3.size; (try simp only [World.size_alloc, World.size_setCell, World.size_drew, World.heap_drewN] at hs_w3)
  have k0_w3 : w3.cell? ⟨w.heap.size, 0, none⟩ = some (.slice A ws.length cap) := ((hc_w3 _ _ (by first | omega | (simp; omega) | simp)).trans k0_w2)
  have k1_w3 : w3.cell? ⟨w.heap.size + 1, 0, none⟩ = some (.int .u64 t) := ((hc_w3 _ _ (by first | omega | (simp; omega) | simp)).trans k1_w2)
  have k2_w3 : w3.cell? ⟨w.heap.size + 2, 0, none⟩ = some (.int .u64 i) := ((hc_w3 _ _ (by first | omega | (simp; omega) | simp)).trans k2_w2)
  have k3_w3 : w3.cell? ⟨w.heap.size + 3, 0, none⟩ = some (.int .u64 n) := ((hc_w3 _ _ (by first | omega | (simp; omega) | simp)).trans k3_w2)
  have o_w3 : One w3 (w.heap.size + 4) (.slice none 0 0) := (⟨(hc_w3 _ _ (by first | omega | (simp; omega) | simp)).trans o_w2.c0, (hf_w3 _ _ (by first | omega | (simp; omega) | simp)).trans o_w2.fr⟩)
  try go_wp2_with fail
  refine hK.out _ _ ?_ (fun hHeld => ?_)
  · (try dsimp only); refine ⟨?_, ?_, ?_, ?_⟩ <;> first | assumption | (simp [go_sem]; done) | (rw [World.cell?_setCell_other _ _ _ _ (by simp)]; assumption)
  clear hK K
  try simp only [Act.put, List.setIfInBounds_toArray, List.set_cons_zero, List.set_cons_succ]
  refine wpAnyH_take (i := 13) (v := ?_) rfl (by kernel_rfl) (by kernel_rfl) (by kernel_rfl) (fun _ _ _ h => h) (Or.inl ⟨by rfl, ?_⟩) (by assumption) ?_
  rotate_left
  · (intro w hSw; (try dsimp only at hSw); go_simp; first | done | with_reducible rfl)
  try simp only [Act.put, List.setIfInBounds_toArray, List.set_cons_zero, List.set_cons_succ]
  refine wpAnyH_take (i := 14) (v := ?_) rfl (by kernel_rfl) (by kernel_rfl) (by kernel_rfl) (fun _ _ _ h => h) (Or.inl ⟨by rfl, ?_⟩) (by assumption) ?_
  rotate_left
  · (intro w hSw; (try dsimp only at hSw); go_simp; first | done | with_reducible rfl)
  try simp only [Act.put, List.setIfInBounds_toArray, List.set_cons_zero, List.set_cons_succ]
  refine wpAnyH_ready (rs := [15]) (by kernel_rfl) (by simp) ?_
  refine AllReadyH.cons rfl (fun K hK => ?_) AllReadyH.nil
  go_simp
  refine hK.out _ _ ?_ (fun hHeld => ?_)
  · (try dsimp only); refine ⟨?_, ?_, ?_, ?_⟩ <;> first | assumption | (simp [go_sem]; done) | (rw [World.cell?_setCell_other _ _ _ _ (by simp)]; assumption)
  clear hK K
  try simp only [Act.put, List.setIfInBounds_toArray, List.set_cons_zero, List.set_cons_succ]
  refine wpAnyH_ready (rs := [16]) (by kernel_rfl) (by simp) ?_
  refine AllReadyH.cons rfl (fun K hK => ?_) AllReadyH.nil
  go_simp
  refine hK.out _ _ ?_ (fun hHeld => ?_)
  · (try dsimp only); refine ⟨?_, ?_, ?_, ?_⟩ <;> first | assumption | (simp [go_sem]; done) | (rw [World.cell?_setCell_other _ _ _ _ (by simp)]; assumption)
  clear hK K
  try simp only [Act.put, List.setIfInBounds_toArray, List.set_cons_zero, List.set_cons_succ]
  refine wpAnyH_done (by kernel_rfl) ?_ _
  go_wp2
  exact bodyPost_ret (res_arena rfl rfl (o_w3.set_ _).c0) rfl ⟨_, cap2, rfl, ⟨(ho2.1.far (p := ⟨w.heap.size + 4, 0, none⟩) (.inl (by first | omega | (simp; omega) | simp)) _).mono (by first | omega | (simp; omega) | simp), ho2.2⟩, (by repeat (first | exact Below.refl _ _ | assumption | (refine below_drewN ?_ _) | (refine Below.drew ?_) | (refine Below.alloc ?_ (by first | omega | (simp; omega) | simp) _) | (refine Below.setCell ?_ (by first | omega | (simp; omega) | simp) _) | (refine below_trans ?_ (by assumption) (by first | omega | (simp; omega) | simp))))⟩
end
end Go.Proofs.Ytbhblffomlhopab
