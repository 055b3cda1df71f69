/- The document's own answers of arena: Store, Clear, Move. -/
import Derived.Test.YtbhblffomlhopabB1
namespace Go.Proofs.Ytbhblffomlhopab
open Go.RowKit
set_option linter.unusedVariables false
set_option linter.unusedSimpArgs false

section
variable {A : Option Addr} {ws : List Nat} {w : World} (cap : Nat)
set_option maxHeartbeats 1000000 in
theorem rastore_bad (i v : Nat) (hb_i : i < W64) (hb_v : v < W64) (h : ¬ ws.length ≤ 16384) :
    Calls Try.prog 12 #[.agg #[.slice A ws.length cap], .int .u64 (i : Nat), .int .u64 (v : Nat)] w fun e w' => FreshA w [] 2 e w' := by
  have HR := Lib.hid h
  clear h
  go_enter Try.func12, Try.ntmps12
  go_wp2_with (go_at_call 30; refine (racheck_bad _ _ HR.out).mono ?_; rintro e w1 ⟨rfl, hb_w1⟩; obtain ⟨hc_w1, hf_w1⟩ := bcell hb_w1; have hz_w1_w_0 : w.heap.size < w1.heap.size := (by have hzz := hb_w1.size; (try simp only [World.size_alloc, World.size_setCell, World.size_drew, World.heap_drewN] at hzz); omega); have hz_w1_w_1 : w.heap.size + 1 < w1.heap.size := (by have hzz := hb_w1.size; (try simp only [World.size_alloc, World.size_setCell, World.size_drew, World.heap_drewN] at hzz); omega); have hs_w1 := hb_w1.size; (try simp only [World.size_alloc, World.size_setCell, World.size_drew, World.heap_drewN] at hs_w1))
  have t1 : One w1 (w.heap.size + 1) (.slice none 0 0) := ⟨(hc_w1 _ _ (by first | omega | (simp; omega) | simp)).trans (by simp [go_sem]), (hf_w1 _ _ (by first | omega | (simp; omega) | simp)).trans (by simp [go_sem])⟩
  exact bodyPost_ret (res_arena rfl rfl (t1.set_ _).c0) rfl ⟨none, 0, rfl, ⟨Own.nil _ _, Nat.le_refl _⟩, (by repeat (first | exact Below.refl _ _ | assumption | (refine below_drewN ?_ _) | (refine Below.drew ?_) | (refine Below.alloc ?_ (by first | omega | (simp; omega) | simp) _) | (refine Below.setCell ?_ (by first | omega | (simp; omega) | simp) _) | (refine below_trans ?_ (by assumption) (by first | omega | (simp; omega) | simp))))⟩
set_option maxHeartbeats 1000000 in
theorem raclear_bad (i n : Nat) (hb_i : i < W64) (hb_n : n < W64) (h : ¬ ws.length ≤ 16384) :
    Calls Try.prog 18 #[.agg #[.slice A ws.length cap], .int .u64 (i : Nat), .int .u64 (n : Nat)] w fun e w' => FreshA w [] 2 e w' := by
  have HR := Lib.hid h
  clear h
  go_enter Try.func18, Try.ntmps18
  go_wp2_with (go_at_call 30; refine (racheck_bad _ _ HR.out).mono ?_; rintro e w1 ⟨rfl, hb_w1⟩; obtain ⟨hc_w1, hf_w1⟩ := bcell hb_w1; have hz_w1_w_0 : w.heap.size < w1.heap.size := (by have hzz := hb_w1.size; (try simp only [World.size_alloc, World.size_setCell, World.size_drew, World.heap_drewN] at hzz); omega); have hz_w1_w_1 : w.heap.size + 1 < w1.heap.size := (by have hzz := hb_w1.size; (try simp only [World.size_alloc, World.size_setCell, World.size_drew, World.heap_drewN] at hzz); omega); have hs_w1 := hb_w1.size; (try simp only [World.size_alloc, World.size_setCell, World.size_drew, World.heap_drewN] at hs_w1))
  have t1 : One w1 (w.heap.size + 1) (.slice none 0 0) := ⟨(hc_w1 _ _ (by first | omega | (simp; omega) | simp)).trans (by simp [go_sem]), (hf_w1 _ _ (by first | omega | (simp; omega) | simp)).trans (by simp [go_sem])⟩
  exact bodyPost_ret (res_arena rfl rfl (t1.set_ _).c0) rfl ⟨none, 0, rfl, ⟨Own.nil _ _, Nat.le_refl _⟩, (by repeat (first | exact Below.refl _ _ | assumption | (refine below_drewN ?_ _) | (refine Below.drew ?_) | (refine Below.alloc ?_ (by first | omega | (simp; omega) | simp) _) | (refine Below.setCell ?_ (by first | omega | (simp; omega) | simp) _) | (refine below_trans ?_ (by assumption) (by first | omega | (simp; omega) | simp))))⟩
set_option maxHeartbeats 1000000 in
theorem ramove_bad (t i n : Nat) (hb_t : t < W64) (hb_i : i < W64) (hb_n : n < W64) (h : ¬ ws.length ≤ 16384) :
    Calls Try.prog 16 #[.agg #[.slice A ws.length cap], .int .u64 (t : Nat), .int .u64 (i : Nat), .int .u64 (n : Nat)] w fun e w' => FreshA w [] 2 e w' := by
  have HR := Lib.hid h
  clear h
  go_enter Try.func16, Try.ntmps16
  go_wp2_with (go_at_call 30; refine (racheck_bad _ _ HR.out).mono ?_; rintro e w1 ⟨rfl, hb_w1⟩; obtain ⟨hc_w1, hf_w1⟩ := bcell hb_w1; have hz_w1_w_0 : w.heap.size < w1.heap.size := (by have hzz := hb_w1.size; (try simp only [World.size_alloc, World.size_setCell, World.size_drew, World.heap_drewN] at hzz); omega); have hz_w1_w_1 : w.heap.size + 1 < w1.heap.size := (by have hzz := hb_w1.size; (try simp only [World.size_alloc, World.size_setCell, World.size_drew, World.heap_drewN] at hzz); omega); have hs_w1 := hb_w1.size; (try simp only [World.size_alloc, World.size_setCell, World.size_drew, World.heap_drewN] at hs_w1))
  have t1 : One w1 (w.heap.size + 1) (.slice none 0 0) := ⟨(hc_w1 _ _ (by first | omega | (simp; omega) | simp)).trans (by simp [go_sem]), (hf_w1 _ _ (by first | omega | (simp; omega) | simp)).trans (by simp [go_sem])⟩
  exact bodyPost_ret (res_arena rfl rfl (t1.set_ _).c0) rfl ⟨none, 0, rfl, ⟨Own.nil _ _, Nat.le_refl _⟩, (by repeat (first | exact Below.refl _ _ | assumption | (refine below_drewN ?_ _) | (refine Below.drew ?_) | (refine Below.alloc ?_ (by first | omega | (simp; omega) | simp) _) | (refine Below.setCell ?_ (by first | omega | (simp; omega) | simp) _) | (refine below_trans ?_ (by assumption) (by first | omega | (simp; omega) | simp))))⟩
set_option maxHeartbeats 1000000 in
theorem rastore_out (i v : Nat) (hb_i : i < W64) (hb_v : v < W64) (hr : Row w w.heap.size A ws) (hl : ws.length ≤ 17592186044416) (hm : ws.length ≤ 16384) (hb : ¬ i + 1 ≤ ws.length) :
    Calls Try.prog 12 #[.agg #[.slice A ws.length cap], .int .u64 (i : Nat), .int .u64 (v : Nat)] w fun e w' => FreshA w ws 1 e w' := by
  have HB := Lib.hid hb
  clear hb
  go_enter Try.func12, Try.ntmps12
  go_wp2_with fail
  go_at_call 30
  refine (racheck_ok _ _ hm).mono ?_
  rintro e w1 ⟨rfl, hb_w1⟩
  obtain ⟨hc_w1, hf_w1⟩ := bcell hb_w1; have hz_w1_w_0 : w.heap.size < w1.heap.size := (by have hzz := hb_w1.size; (try simp only [World.size_alloc, World.size_setCell, World.size_drew, World.heap_drewN] at hzz); omega); have hz_w1_w_1 : w.heap.size + 1 < w1.heap.size := (by have hzz := hb_w1.size; (try simp only [World.size_alloc, World.size_setCell, World.size_drew, World.heap_drewN] at hzz); omega); have hs_w1 := hb_w1.size; (try simp only [World.size_alloc, World.size_setCell, World.size_drew, World.heap_drewN] at hs_w1)
  go_wp2_with fail
  go_at_call 10
  refine (acopy_any _ (hr.later (by repeat (first | exact Below.refl _ _ | assumption | (refine below_drewN ?_ _) | (refine Below.drew ?_) | (refine Below.alloc ?_ (by first | omega | (simp; omega) | simp) _) | (refine Below.setCell ?_ (by first | omega | (simp; omega) | simp) _) | (refine below_trans ?_ (by assumption) (by first | omega | (simp; omega) | simp))))) hl).mono ?_
  rintro e w2 ⟨A1, cap1, rfl, ho2, hb_w2⟩
  obtain ⟨hc_w2, hf_w2⟩ := bcell hb_w2; have hz_w2_w_0 : w.heap.size < w2.heap.size := (by have hzz := hb_w2.size; (try simp only [World.size_alloc, World.size_setCell, World.size_drew, World.heap_drewN] at hzz); omega); have hz_w2_w_1 : w.heap.size + 1 < w2.heap.size := (by have hzz := hb_w2.size; (try simp only [World.size_alloc, World.size_setCell, World.size_drew, World.heap_drewN] at hzz); omega); have hs_w2 := hb_w2.size; (try simp only [World.size_alloc, World.size_setCell, World.size_drew, World.heap_drewN] at hs_w2)
  have t2 : One w2 w.heap.size (.slice A ws.length cap) := ⟨(hc_w2 _ _ (by first | omega | (simp; omega) | simp)).trans ((hc_w1 _ _ (by first | omega | (simp; omega) | simp)).trans (by simp [go_sem])), (hf_w2 _ _ (by first | omega | (simp; omega) | simp)).trans ((hf_w1 _ _ (by first | omega | (simp; omega) | simp)).trans (by simp [go_sem]))⟩
  have u2 : One w2 (w.heap.size + 1) (.slice none 0 0) := ⟨(hc_w2 _ _ (by first | omega | (simp; omega) | simp)).trans ((hc_w1 _ _ (by first | omega | (simp; omega) | simp)).trans (by simp [go_sem])), (hf_w2 _ _ (by first | omega | (simp; omega) | simp)).trans ((hf_w1 _ _ (by first | omega | (simp; omega) | simp)).trans (by simp [go_sem]))⟩
  have q0 := t2.c0
  have q1 := t2.fr
  have s0 : ∀ V, (w2.setCell ⟨w.heap.size, 0, none⟩ V).cell? ⟨w.heap.size, 0, none⟩ = some V := fun V => (t2.set_ V).c0
  go_wp2_with fail
  go_at_call 31
  refine (athere_any _ ws.length i 1 false (by omega) hb_i (by decide) (.inr ⟨rfl, HB.out⟩)).mono ?_
  rintro e w3 ⟨rfl, hb_w3⟩
  obtain ⟨hc_w3, hf_w3⟩ := bcell hb_w3; have hz_w3_w_0 : w.heap.size < w3.heap.size := (by have hzz := hb_w3.size; (try simp only [World.size_alloc, World.size_setCell, World.size_drew, World.heap_drewN] at hzz); omega); have hz_w3_w_1 : w.heap.size + 1 < w3.heap.size := (by have hzz := hb_w3.size; (try simp only [World.size_alloc, World.size_setCell, World.size_drew, World.heap_drewN] at hzz); omega); have hs_w3 := hb_w3.size; (try simp only [World.size_alloc, World.size_setCell, World.size_drew, World.heap_drewN] at hs_w3)
  have r0 : w3.cell? ⟨w.heap.size, 0, none⟩ = some (.slice A1 ws.length cap1) := (hc_w3 _ _ (by first | omega | (simp; omega) | simp)).trans (s0 _)
  have u3 : One w3 (w.heap.size + 1) (.slice none 0 0) := (u2.far (by first | omega | (simp; omega) | simp) _).below hb_w3 (by first | omega | (simp; omega) | simp)
  go_wp2_with fail
  exact bodyPost_ret (res_arena rfl rfl (u3.set_ _).c0) rfl ⟨A1, cap1, rfl, ⟨((((ho2.1.far (p := ⟨w.heap.size, 0, none⟩) (.inl (by first | omega | (simp; omega) | simp)) _).later hb_w3).far (p := ⟨w.heap.size + 1, 0, none⟩) (.inl (by first | omega | (simp; omega) | simp)) _).mono (by first | omega | (simp; omega) | simp)), ho2.2⟩, (by repeat (first | exact Below.refl _ _ | assumption | (refine below_drewN ?_ _) | (refine Below.drew ?_) | (refine Below.alloc ?_ (by first | omega | (simp; omega) | simp) _) | (refine Below.setCell ?_ (by first | omega | (simp; omega) | simp) _) | (refine below_trans ?_ (by assumption) (by first | omega | (simp; omega) | simp))))⟩
set_option maxHeartbeats 1000000 in
theorem rastore_in (i v : Nat) (hb_i : i < W64) (hb_v : v < W64) (hr : Row w w.heap.size A ws) (hl : ws.length ≤ 17592186044416) (hm : ws.length ≤ 16384) (hb : i + 1 ≤ ws.length) :
    Calls Try.prog 12 #[.agg #[.slice A ws.length cap], .int .u64 (i : Nat), .int .u64 (v : Nat)] w fun e w' => FreshA w (ws.set i v) 0 e w' := by
  have HB := Lib.hid hb
  clear hb
  go_enter Try.func12, Try.ntmps12
  go_wp2_with fail
  go_at_call 30
  refine (racheck_ok _ _ hm).mono ?_
  rintro e w1 ⟨rfl, hb_w1⟩
  obtain ⟨hc_w1, hf_w1⟩ := bcell hb_w1; have hz_w1_w_0 : w.heap.size < w1.heap.size := (by have hzz := hb_w1.size; (try simp only [World.size_alloc, World.size_setCell, World.size_drew, World.heap_drewN] at hzz); omega); have hz_w1_w_1 : w.heap.size + 1 < w1.heap.size := (by have hzz := hb_w1.size; (try simp only [World.size_alloc, World.size_setCell, World.size_drew, World.heap_drewN] at hzz); omega); have hs_w1 := hb_w1.size; (try simp only [World.size_alloc, World.size_setCell, World.size_drew, World.heap_drewN] at hs_w1)
  go_wp2_with fail
  go_at_call 10
  refine (acopy_any _ (hr.later (by repeat (first | exact Below.refl _ _ | assumption | (refine below_drewN ?_ _) | (refine Below.drew ?_) | (refine Below.alloc ?_ (by first | omega | (simp; omega) | simp) _) | (refine Below.setCell ?_ (by first | omega | (simp; omega) | simp) _) | (refine below_trans ?_ (by assumption) (by first | omega | (simp; omega) | simp))))) hl).mono ?_
  rintro e w2 ⟨A1, cap1, rfl, ho2, hb_w2⟩
  obtain ⟨hc_w2, hf_w2⟩ := bcell hb_w2; have hz_w2_w_0 : w.heap.size < w2.heap.size := (by have hzz := hb_w2.size; (try simp only [World.size_alloc, World.size_setCell, World.size_drew, World.heap_drewN] at hzz); omega); have hz_w2_w_1 : w.heap.size + 1 < w2.heap.size := (by have hzz := hb_w2.size; (try simp only [World.size_alloc, World.size_setCell, World.size_drew, World.heap_drewN] at hzz); omega); have hs_w2 := hb_w2.size; (try simp only [World.size_alloc, World.size_setCell, World.size_drew, World.heap_drewN] at hs_w2)
  have t2 : One w2 w.heap.size (.slice A ws.length cap) := ⟨(hc_w2 _ _ (by first | omega | (simp; omega) | simp)).trans ((hc_w1 _ _ (by first | omega | (simp; omega) | simp)).trans (by simp [go_sem])), (hf_w2 _ _ (by first | omega | (simp; omega) | simp)).trans ((hf_w1 _ _ (by first | omega | (simp; omega) | simp)).trans (by simp [go_sem]))⟩
  have u2 : One w2 (w.heap.size + 1) (.slice none 0 0) := ⟨(hc_w2 _ _ (by first | omega | (simp; omega) | simp)).trans ((hc_w1 _ _ (by first | omega | (simp; omega) | simp)).trans (by simp [go_sem])), (hf_w2 _ _ (by first | omega | (simp; omega) | simp)).trans ((hf_w1 _ _ (by first | omega | (simp; omega) | simp)).trans (by simp [go_sem]))⟩
  have q0 := t2.c0
  have q1 := t2.fr
  have s0 : ∀ V, (w2.setCell ⟨w.heap.size, 0, none⟩ V).cell? ⟨w.heap.size, 0, none⟩ = some V := fun V => (t2.set_ V).c0
  go_wp2_with fail
  go_at_call 31
  refine (athere_any _ ws.length i 1 true (by omega) hb_i (by decide) (.inl ⟨rfl, HB.out⟩)).mono ?_
  rintro e w3 ⟨rfl, hb_w3⟩
  obtain ⟨hc_w3, hf_w3⟩ := bcell hb_w3; have hz_w3_w_0 : w.heap.size < w3.heap.size := (by have hzz := hb_w3.size; (try simp only [World.size_alloc, World.size_setCell, World.size_drew, World.heap_drewN] at hzz); omega); have hz_w3_w_1 : w.heap.size + 1 < w3.heap.size := (by have hzz := hb_w3.size; (try simp only [World.size_alloc, World.size_setCell, World.size_drew, World.heap_drewN] at hzz); omega); have hs_w3 := hb_w3.size; (try simp only [World.size_alloc, World.size_setCell, World.size_drew, World.heap_drewN] at hs_w3)
  have r0 : w3.cell? ⟨w.heap.size, 0, none⟩ = some (.slice A1 ws.length cap1) := (hc_w3 _ _ (by first | omega | (simp; omega) | simp)).trans (s0 _)
  have u3 : One w3 (w.heap.size + 1) (.slice none 0 0) := (u2.far (by first | omega | (simp; omega) | simp) _).below hb_w3 (by first | omega | (simp; omega) | simp)
  have t3 : One w3 w.heap.size (.slice A1 ws.length cap1) := (t2.set_ _).below hb_w3 (by first | omega | (simp; omega) | simp)
  have hI : i < ws.length := by have := HB.out; omega
  have ho3 := (ho2.1.far (p := ⟨w.heap.size, 0, none⟩) (.inl (by first | omega | (simp; omega) | simp)) (.slice A1 ws.length cap1)).later hb_w3
  obtain ⟨g, rfl, hBg, hg, hcg⟩ := ho3.at_ (by omega)
  obtain ⟨hcg1, hfg1⟩ := hcg i hI
  clear hcg
  have r1 : ∀ V, (w3.setCell ⟨g, i, none⟩ V).cell? ⟨w.heap.size, 0, none⟩ = some (.slice (some ⟨g, 0, none⟩) ws.length cap1) := fun V => (t3.far (p := ⟨g, i, none⟩) (by first | omega | (simp; omega) | simp) V).c0
  go_wp2_with fail
  exact bodyPost_ret (res_arena rfl rfl ((u3.far (p := ⟨g, i, none⟩) (by first | omega | (simp; omega) | simp) _).set_ _).c0) rfl ⟨_, cap1, by rw [List.length_set]; rfl, ⟨((ho3.set_ rfl hI hb_v).far (p := ⟨w.heap.size + 1, 0, none⟩) (.inl (by first | omega | (simp; omega) | simp)) _).mono (by first | omega | (simp; omega) | simp), by rw [List.length_set]; exact ho2.2⟩, (by repeat (first | exact Below.refl _ _ | assumption | (refine below_drewN ?_ _) | (refine Below.drew ?_) | (refine Below.alloc ?_ (by first | omega | (simp; omega) | simp) _) | (refine Below.setCell ?_ (by first | omega | (simp; omega) | simp) _) | (refine below_trans ?_ (by assumption) (by first | omega | (simp; omega) | simp))))⟩
set_option maxHeartbeats 1000000 in
theorem raclear_out (i n : Nat) (hb_i : i < W64) (hb_n : n < W64) (hr : Row w w.heap.size A ws) (hl : ws.length ≤ 17592186044416) (hm : ws.length ≤ 16384) (hb : ¬ i + n ≤ ws.length) :
    Calls Try.prog 18 #[.agg #[.slice A ws.length cap], .int .u64 (i : Nat), .int .u64 (n : Nat)] w fun e w' => FreshA w ws 1 e w' := by
  have HB := Lib.hid hb
  clear hb
  go_enter Try.func18, Try.ntmps18
  go_wp2_with fail
  go_at_call 30
  refine (racheck_ok _ _ hm).mono ?_
  rintro e w1 ⟨rfl, hb_w1⟩
  obtain ⟨hc_w1, hf_w1⟩ := bcell hb_w1; have hz_w1_w_0 : w.heap.size < w1.heap.size := (by have hzz := hb_w1.size; (try simp only [World.size_alloc, World.size_setCell, World.size_drew, World.heap_drewN] at hzz); omega); have hz_w1_w_1 : w.heap.size + 1 < w1.heap.size := (by have hzz := hb_w1.size; (try simp only [World.size_alloc, World.size_setCell, World.size_drew, World.heap_drewN] at hzz); omega); have hs_w1 := hb_w1.size; (try simp only [World.size_alloc, World.size_setCell, World.size_drew, World.heap_drewN] at hs_w1)
  go_wp2_with fail
  go_at_call 10
  refine (acopy_any _ (hr.later (by repeat (first | exact Below.refl _ _ | assumption | (refine below_drewN ?_ _) | (refine Below.drew ?_) | (refine Below.alloc ?_ (by first | omega | (simp; omega) | simp) _) | (refine Below.setCell ?_ (by first | omega | (simp; omega) | simp) _) | (refine below_trans ?_ (by assumption) (by first | omega | (simp; omega) | simp))))) hl).mono ?_
  rintro e w2 ⟨A1, cap1, rfl, ho2, hb_w2⟩
  obtain ⟨hc_w2, hf_w2⟩ := bcell hb_w2; have hz_w2_w_0 : w.heap.size < w2.heap.size := (by have hzz := hb_w2.size; (try simp only [World.size_alloc, World.size_setCell, World.size_drew, World.heap_drewN] at hzz); omega); have hz_w2_w_1 : w.heap.size + 1 < w2.heap.size := (by have hzz := hb_w2.size; (try simp only [World.size_alloc, World.size_setCell, World.size_drew, World.heap_drewN] at hzz); omega); have hs_w2 := hb_w2.size; (try simp only [World.size_alloc, World.size_setCell, World.size_drew, World.heap_drewN] at hs_w2)
  have t2 : One w2 w.heap.size (.slice A ws.length cap) := ⟨(hc_w2 _ _ (by first | omega | (simp; omega) | simp)).trans ((hc_w1 _ _ (by first | omega | (simp; omega) | simp)).trans (by simp [go_sem])), (hf_w2 _ _ (by first | omega | (simp; omega) | simp)).trans ((hf_w1 _ _ (by first | omega | (simp; omega) | simp)).trans (by simp [go_sem]))⟩
  have u2 : One w2 (w.heap.size + 1) (.slice none 0 0) := ⟨(hc_w2 _ _ (by first | omega | (simp; omega) | simp)).trans ((hc_w1 _ _ (by first | omega | (simp; omega) | simp)).trans (by simp [go_sem])), (hf_w2 _ _ (by first | omega | (simp; omega) | simp)).trans ((hf_w1 _ _ (by first | omega | (simp; omega) | simp)).trans (by simp [go_sem]))⟩
  have q0 := t2.c0
  have q1 := t2.fr
  have s0 : ∀ V, (w2.setCell ⟨w.heap.size, 0, none⟩ V).cell? ⟨w.heap.size, 0, none⟩ = some V := fun V => (t2.set_ V).c0
  go_wp2_with fail
  go_at_call 31
  refine (athere_any _ ws.length i n false (by omega) hb_i hb_n (.inr ⟨rfl, HB.out⟩)).mono ?_
  rintro e w3 ⟨rfl, hb_w3⟩
  obtain ⟨hc_w3, hf_w3⟩ := bcell hb_w3; have hz_w3_w_0 : w.heap.size < w3.heap.size := (by have hzz := hb_w3.size; (try simp only [World.size_alloc, World.size_setCell, World.size_drew, World.heap_drewN] at hzz); omega); have hz_w3_w_1 : w.heap.size + 1 < w3.heap.size := (by have hzz := hb_w3.size; (try simp only [World.size_alloc, World.size_setCell, World.size_drew, World.heap_drewN] at hzz); omega); have hs_w3 := hb_w3.size; (try simp only [World.size_alloc, World.size_setCell, World.size_drew, World.heap_drewN] at hs_w3)
  have r0 : w3.cell? ⟨w.heap.size, 0, none⟩ = some (.slice A1 ws.length cap1) := (hc_w3 _ _ (by first | omega | (simp; omega) | simp)).trans (s0 _)
  have u3 : One w3 (w.heap.size + 1) (.slice none 0 0) := (u2.far (by first | omega | (simp; omega) | simp) _).below hb_w3 (by first | omega | (simp; omega) | simp)
  go_wp2_with fail
  exact bodyPost_ret (res_arena rfl rfl (u3.set_ _).c0) rfl ⟨A1, cap1, rfl, ⟨((((ho2.1.far (p := ⟨w.heap.size, 0, none⟩) (.inl (by first | omega | (simp; omega) | simp)) _).later hb_w3).far (p := ⟨w.heap.size + 1, 0, none⟩) (.inl (by first | omega | (simp; omega) | simp)) _).mono (by first | omega | (simp; omega) | simp)), ho2.2⟩, (by repeat (first | exact Below.refl _ _ | assumption | (refine below_drewN ?_ _) | (refine Below.drew ?_) | (refine Below.alloc ?_ (by first | omega | (simp; omega) | simp) _) | (refine Below.setCell ?_ (by first | omega | (simp; omega) | simp) _) | (refine below_trans ?_ (by assumption) (by first | omega | (simp; omega) | simp))))⟩
set_option maxHeartbeats 1000000 in
theorem raclear_in (i n : Nat) (hb_i : i < W64) (hb_n : n < W64) (hr : Row w w.heap.size A ws) (hl : ws.length ≤ 17592186044416) (hm : ws.length ≤ 16384) (hb : i + n ≤ ws.length) :
    Calls Try.prog 18 #[.agg #[.slice A ws.length cap], .int .u64 (i : Nat), .int .u64 (n : Nat)] w fun e w' => FreshA w (overTo ws i (fun _ => 0) n) 0 e w' := by
  have HB := Lib.hid hb
  clear hb
  go_enter Try.func18, Try.ntmps18
  go_wp2_with fail
  go_at_call 30
  refine (racheck_ok _ _ hm).mono ?_
  rintro e w1 ⟨rfl, hb_w1⟩
  obtain ⟨hc_w1, hf_w1⟩ := bcell hb_w1; have hz_w1_w_0 : w.heap.size < w1.heap.size := (by have hzz := hb_w1.size; (try simp only [World.size_alloc, World.size_setCell, World.size_drew, World.heap_drewN] at hzz); omega); have hz_w1_w_1 : w.heap.size + 1 < w1.heap.size := (by have hzz := hb_w1.size; (try simp only [World.size_alloc, World.size_setCell, World.size_drew, World.heap_drewN] at hzz); omega); have hs_w1 := hb_w1.size; (try simp only [World.size_alloc, World.size_setCell, World.size_drew, World.heap_drewN] at hs_w1)
  go_wp2_with fail
  go_at_call 10
  refine (acopy_any _ (hr.later (by repeat (first | exact Below.refl _ _ | assumption | (refine below_drewN ?_ _) | (refine Below.drew ?_) | (refine Below.alloc ?_ (by first | omega | (simp; omega) | simp) _) | (refine Below.setCell ?_ (by first | omega | (simp; omega) | simp) _) | (refine below_trans ?_ (by assumption) (by first | omega | (simp; omega) | simp))))) hl).mono ?_
  rintro e w2 ⟨A1, cap1, rfl, ho2, hb_w2⟩
  obtain ⟨hc_w2, hf_w2⟩ := bcell hb_w2; have hz_w2_w_0 : w.heap.size < w2.heap.size := (by have hzz := hb_w2.size; (try simp only [World.size_alloc, World.size_setCell, World.size_drew, World.heap_drewN] at hzz); omega); have hz_w2_w_1 : w.heap.size + 1 < w2.heap.size := (by have hzz := hb_w2.size; (try simp only [World.size_alloc, World.size_setCell, World.size_drew, World.heap_drewN] at hzz); omega); have hs_w2 := hb_w2.size; (try simp only [World.size_alloc, World.size_setCell, World.size_drew, World.heap_drewN] at hs_w2)
  have t2 : One w2 w.heap.size (.slice A ws.length cap) := ⟨(hc_w2 _ _ (by first | omega | (simp; omega) | simp)).trans ((hc_w1 _ _ (by first | omega | (simp; omega) | simp)).trans (by simp [go_sem])), (hf_w2 _ _ (by first | omega | (simp; omega) | simp)).trans ((hf_w1 _ _ (by first | omega | (simp; omega) | simp)).trans (by simp [go_sem]))⟩
  have u2 : One w2 (w.heap.size + 1) (.slice none 0 0) := ⟨(hc_w2 _ _ (by first | omega | (simp; omega) | simp)).trans ((hc_w1 _ _ (by first | omega | (simp; omega) | simp)).trans (by simp [go_sem])), (hf_w2 _ _ (by first | omega | (simp; omega) | simp)).trans ((hf_w1 _ _ (by first | omega | (simp; omega) | simp)).trans (by simp [go_sem]))⟩
  have q0 := t2.c0
  have q1 := t2.fr
  have s0 : ∀ V, (w2.setCell ⟨w.heap.size, 0, none⟩ V).cell? ⟨w.heap.size, 0, none⟩ = some V := fun V => (t2.set_ V).c0
  go_wp2_with fail
  go_at_call 31
  refine (athere_any _ ws.length i n true (by omega) hb_i hb_n (.inl ⟨rfl, HB.out⟩)).mono ?_
  rintro e w3 ⟨rfl, hb_w3⟩
  obtain ⟨hc_w3, hf_w3⟩ := bcell hb_w3; have hz_w3_w_0 : w.heap.size < w3.heap.size := (by have hzz := hb_w3.size; (try simp only [World.size_alloc, World.size_setCell, World.size_drew, World.heap_drewN] at hzz); omega); have hz_w3_w_1 : w.heap.size + 1 < w3.heap.size := (by have hzz := hb_w3.size; (try simp only [World.size_alloc, World.size_setCell, World.size_drew, World.heap_drewN] at hzz); omega); have hs_w3 := hb_w3.size; (try simp only [World.size_alloc, World.size_setCell, World.size_drew, World.heap_drewN] at hs_w3)
  have r0 : w3.cell? ⟨w.heap.size, 0, none⟩ = some (.slice A1 ws.length cap1) := (hc_w3 _ _ (by first | omega | (simp; omega) | simp)).trans (s0 _)
  have u3 : One w3 (w.heap.size + 1) (.slice none 0 0) := (u2.far (by first | omega | (simp; omega) | simp) _).below hb_w3 (by first | omega | (simp; omega) | simp)
  have t3 : One w3 w.heap.size (.slice A1 ws.length cap1) := (t2.set_ _).below hb_w3 (by first | omega | (simp; omega) | simp)
  have ho3 := ((ho2.1.far (p := ⟨w.heap.size, 0, none⟩) (.inl (by first | omega | (simp; omega) | simp)) (.slice A1 ws.length cap1)).later hb_w3).mono (B' := w.heap.size + 2) (by first | omega | (simp; omega) | simp)
  go_wp2_with fail
  go_loopw [8] (fun x wr => ∃ k : Nat, x = .int .u64 k ∧ k ≤ n ∧ Own wr (w.heap.size + 2) A1 (overTo ws i (fun _ => 0) k) ∧ One wr w.heap.size (.slice A1 ws.length cap1) ∧
      One wr (w.heap.size + 1) (.slice none 0 0) ∧ w.heap.size + 2 ≤ wr.heap.size ∧ Below w.heap.size w wr) (fun x _ => n - (intOf x).toNat)
  case atStart => exact ⟨0, rfl, Nat.zero_le _, ho3, t3, u3, (by first | omega | (simp; omega) | simp), (by repeat (first | exact Below.refl _ _ | assumption | (refine below_drewN ?_ _) | (refine Below.drew ?_) | (refine Below.alloc ?_ (by first | omega | (simp; omega) | simp) _) | (refine Below.setCell ?_ (by first | omega | (simp; omega) | simp) _) | (refine below_trans ?_ (by assumption) (by first | omega | (simp; omega) | simp))))⟩
  case round =>
    obtain ⟨k, rfl, hk, hO, hT, hU, hsz, hb_wr⟩ := hrel
    have hT0 := hT.c0
    have hT1 := hT.fr
    by_cases hlt : k < n
    · have hL := length_overTo ws i (fun _ => 0) k
      have hB := HB.out
      unfold W64 at hb_i hb_n
      obtain ⟨g, rfl, hBg, hg, hcg⟩ := hO.at_ (by omega)
      obtain ⟨hcg1, hfg1⟩ := hcg (i + k) (by omega)
      clear hcg
      have hne : g ≠ w.heap.size ∧ g ≠ w.heap.size + 1 := by omega
      have HO := Lib.hid hO
      have HL := Lib.hid hL
      clear hO hL
      have i1 : (i : Int) + k < ws.length := by omega
      have e1 : IntKind.u64.wrap ((i : Int) + k) = i + k := IntWalk.u64_in _ (by omega)
      have e2 : IntKind.u64.wrap ((k : Int) + 1) = k + 1 := IntWalk.u64_in _ (by omega)
      have e3 : ((i : Int) + k).toNat = i + k := by omega
      go_wp2
      go_roundw
      case rel =>
        exact ⟨k + 1, by go_num, by omega, HO.out.set_ rfl (by have := HL.out; have := HB.out; omega) (by decide), hT.far hne.1 _, hU.far hne.2 _, (by first | omega | (simp; omega) | simp), (by repeat (first | exact Below.refl _ _ | assumption | (refine below_drewN ?_ _) | (refine Below.drew ?_) | (refine Below.alloc ?_ (by first | omega | (simp; omega) | simp) _) | (refine Below.setCell ?_ (by first | omega | (simp; omega) | simp) _) | (refine below_trans ?_ (by assumption) (by first | omega | (simp; omega) | simp))))⟩
      case measure => simp [intOf]; omega
    · obtain rfl : n = k := by omega
      have hU0 := hU.c0
      have hU1 := hU.fr
      go_wp2
      exact bodyPost_ret (res_arena rfl rfl (hU.set_ _).c0) rfl ⟨A1, cap1, by rw [length_overTo]; rfl, ⟨(hO.far (p := ⟨w.heap.size + 1, 0, none⟩) (.inl (by first | omega | (simp; omega) | simp)) _).mono (by first | omega | (simp; omega) | simp), by rw [length_overTo]; exact ho2.2⟩, (by repeat (first | exact Below.refl _ _ | assumption | (refine below_drewN ?_ _) | (refine Below.drew ?_) | (refine Below.alloc ?_ (by first | omega | (simp; omega) | simp) _) | (refine Below.setCell ?_ (by first | omega | (simp; omega) | simp) _) | (refine below_trans ?_ (by assumption) (by first | omega | (simp; omega) | simp))))⟩
set_option maxHeartbeats 1000000 in
theorem ramove_in (t i n : Nat) (hb_t : t < W64) (hb_i : i < W64) (hb_n : n < W64) (hr : Row w w.heap.size A ws) (hl : ws.length ≤ 17592186044416) (hm : ws.length ≤ 16384) (hb : t + n ≤ ws.length ∧ i + n ≤ ws.length) :
    Calls Try.prog 16 #[.agg #[.slice A ws.length cap], .int .u64 (t : Nat), .int .u64 (i : Nat), .int .u64 (n : Nat)] w fun e w' => FreshA w (movedA ws t i n) 0 e w' := by
  have HB := Lib.hid hb
  clear hb
  go_enter Try.func16, Try.ntmps16
  go_wp2_with fail
  go_at_call 30
  refine (racheck_ok _ _ hm).mono ?_
  rintro e w1 ⟨rfl, hb_w1⟩
  obtain ⟨hc_w1, hf_w1⟩ := bcell hb_w1; have hz_w1_w_0 : w.heap.size < w1.heap.size := (by have hzz := hb_w1.size; (try simp only [World.size_alloc, World.size_setCell, World.size_drew, World.heap_drewN] at hzz); omega); have hz_w1_w_1 : w.heap.size + 1 < w1.heap.size := (by have hzz := hb_w1.size; (try simp only [World.size_alloc, World.size_setCell, World.size_drew, World.heap_drewN] at hzz); omega); have hs_w1 := hb_w1.size; (try simp only [World.size_alloc, World.size_setCell, World.size_drew, World.heap_drewN] at hs_w1)
  go_wp2_with fail
  go_at_call 10
  refine (acopy_any _ (hr.later (by repeat (first | exact Below.refl _ _ | assumption | (refine below_drewN ?_ _) | (refine Below.drew ?_) | (refine Below.alloc ?_ (by first | omega | (simp; omega) | simp) _) | (refine Below.setCell ?_ (by first | omega | (simp; omega) | simp) _) | (refine below_trans ?_ (by assumption) (by first | omega | (simp; omega) | simp))))) hl).mono ?_
  rintro e w2 ⟨A1, cap1, rfl, ho2, hb_w2⟩
  obtain ⟨hc_w2, hf_w2⟩ := bcell hb_w2; have hz_w2_w_0 : w.heap.size < w2.heap.size := (by have hzz := hb_w2.size; (try simp only [World.size_alloc, World.size_setCell, World.size_drew, World.heap_drewN] at hzz); omega); have hz_w2_w_1 : w.heap.size + 1 < w2.heap.size := (by have hzz := hb_w2.size; (try simp only [World.size_alloc, World.size_setCell, World.size_drew, World.heap_drewN] at hzz); omega); have hz_w2_w1_0 : w1.heap.size < w2.heap.size := (by have hzz := hb_w2.size; (try simp only [World.size_alloc, World.size_setCell, World.size_drew, World.heap_drewN] at hzz); omega); have hs_w2 := hb_w2.size; (try simp only [World.size_alloc, World.size_setCell, World.size_drew, World.heap_drewN] at hs_w2)
  have a1 : w1.cell? ⟨w.heap.size, 0, none⟩ = some (.slice A ws.length cap) ∧ w1.frozen? ⟨w.heap.size, 0, none⟩ = false := ⟨(hc_w1 _ _ (by first | omega | (simp; omega) | simp)).trans (by simp [go_sem]), (hf_w1 _ _ (by first | omega | (simp; omega) | simp)).trans (by simp [go_sem])⟩
  have a2 : w1.cell? ⟨w.heap.size + 1, 0, none⟩ = some (.slice none 0 0) ∧ w1.frozen? ⟨w.heap.size + 1, 0, none⟩ = false := ⟨(hc_w1 _ _ (by first | omega | (simp; omega) | simp)).trans (by simp [go_sem]), (hf_w1 _ _ (by first | omega | (simp; omega) | simp)).trans (by simp [go_sem])⟩
  have t2 : One w2 w.heap.size (.slice A ws.length cap) := (((⟨a1.1, a1.2⟩ : One w1 w.heap.size _).old (by first | omega | (simp; omega) | simp) _).below hb_w2 (by first | omega | (simp; omega) | simp))
  have u2 : One w2 (w.heap.size + 1) (.slice none 0 0) := (((⟨a2.1, a2.2⟩ : One w1 (w.heap.size + 1) _).old (by first | omega | (simp; omega) | simp) _).below hb_w2 (by first | omega | (simp; omega) | simp))
  have v2 : One w2 w1.heap.size (.slice A ws.length cap) := (One.new w1 _ _).below hb_w2 (by first | omega | (simp; omega) | simp)
  have q0 := t2.c0
  have q1 := t2.fr
  have s0 : ∀ V, (w2.setCell ⟨w.heap.size, 0, none⟩ V).cell? ⟨w.heap.size, 0, none⟩ = some V := fun V => (t2.set_ V).c0
  go_wp2_with fail
  go_at_call 31
  refine (athere_any _ ws.length t n true (by omega) hb_t hb_n (.inl ⟨rfl, HB.out.1⟩)).mono ?_
  rintro e w3 ⟨rfl, hb_w3⟩
  obtain ⟨hc_w3, hf_w3⟩ := bcell hb_w3; have hz_w3_w_0 : w.heap.size < w3.heap.size := (by have hzz := hb_w3.size; (try simp only [World.size_alloc, World.size_setCell, World.size_drew, World.heap_drewN] at hzz); omega); have hz_w3_w_1 : w.heap.size + 1 < w3.heap.size := (by have hzz := hb_w3.size; (try simp only [World.size_alloc, World.size_setCell, World.size_drew, World.heap_drewN] at hzz); omega); have hz_w3_w1_0 : w1.heap.size < w3.heap.size := (by have hzz := hb_w3.size; (try simp only [World.size_alloc, World.size_setCell, World.size_drew, World.heap_drewN] at hzz); omega); have hs_w3 := hb_w3.size; (try simp only [World.size_alloc, World.size_setCell, World.size_drew, World.heap_drewN] at hs_w3)
  have r3 : w3.cell? ⟨w.heap.size, 0, none⟩ = some (.slice A1 ws.length cap1) := (hc_w3 _ _ (by first | omega | (simp; omega) | simp)).trans (s0 _)
  have u3 : One w3 (w.heap.size + 1) (.slice none 0 0) := (u2.far (by first | omega | (simp; omega) | simp) _).below hb_w3 (by first | omega | (simp; omega) | simp)
  have v3 : One w3 w1.heap.size (.slice A ws.length cap) := (v2.far (by first | omega | (simp; omega) | simp) _).below hb_w3 (by first | omega | (simp; omega) | simp)
  have t3 : One w3 w.heap.size (.slice A1 ws.length cap1) := (t2.set_ _).below hb_w3 (by first | omega | (simp; omega) | simp)
  go_wp2_with fail
  go_at_call 31
  refine (athere_any _ ws.length i n true (by omega) hb_i hb_n (.inl ⟨rfl, HB.out.2⟩)).mono ?_
  rintro e w4 ⟨rfl, hb_w4⟩
  obtain ⟨hc_w4, hf_w4⟩ := bcell hb_w4; have hz_w4_w_0 : w.heap.size < w4.heap.size := (by have hzz := hb_w4.size; (try simp only [World.size_alloc, World.size_setCell, World.size_drew, World.heap_drewN] at hzz); omega); have hz_w4_w_1 : w.heap.size + 1 < w4.heap.size := (by have hzz := hb_w4.size; (try simp only [World.size_alloc, World.size_setCell, World.size_drew, World.heap_drewN] at hzz); omega); have hz_w4_w1_0 : w1.heap.size < w4.heap.size := (by have hzz := hb_w4.size; (try simp only [World.size_alloc, World.size_setCell, World.size_drew, World.heap_drewN] at hzz); omega); have hs_w4 := hb_w4.size; (try simp only [World.size_alloc, World.size_setCell, World.size_drew, World.heap_drewN] at hs_w4)
  have r4 : w4.cell? ⟨w.heap.size, 0, none⟩ = some (.slice A1 ws.length cap1) := (hc_w4 _ _ (by first | omega | (simp; omega) | simp)).trans r3
  have u4 : One w4 (w.heap.size + 1) (.slice none 0 0) := u3.below hb_w4 (by first | omega | (simp; omega) | simp)
  have v4 : One w4 w1.heap.size (.slice A ws.length cap) := v3.below hb_w4 (by first | omega | (simp; omega) | simp)
  have t4 : One w4 w.heap.size (.slice A1 ws.length cap1) := t3.below hb_w4 (by first | omega | (simp; omega) | simp)
  go_wp2_with fail
  go_loopw [11] (fun x wr => ∃ k : Nat, x = .int .u64 k ∧ k ≤ n ∧ Own wr (w1.heap.size + 1) A1 (movedA ws t i k) ∧ One wr w.heap.size (.slice A1 ws.length cap1) ∧
      One wr (w.heap.size + 1) (.slice none 0 0) ∧ One wr w1.heap.size (.slice A ws.length cap) ∧ w1.heap.size + 1 ≤ wr.heap.size ∧ Below w.heap.size w wr) (fun x _ => n - (intOf x).toNat)
  case atStart => exact ⟨0, rfl, Nat.zero_le _, (((ho2.1.far (p := ⟨w.heap.size, 0, none⟩) (.inl (by first | omega | (simp; omega) | simp)) (.slice A1 ws.length cap1)).later hb_w3).later hb_w4).mono (by first | omega | (simp; omega) | simp), t4, u4, v4, (by first | omega | (simp; omega) | simp), (by repeat (first | exact Below.refl _ _ | assumption | (refine below_drewN ?_ _) | (refine Below.drew ?_) | (refine Below.alloc ?_ (by first | omega | (simp; omega) | simp) _) | (refine Below.setCell ?_ (by first | omega | (simp; omega) | simp) _) | (refine below_trans ?_ (by assumption) (by first | omega | (simp; omega) | simp))))⟩
  case round =>
    obtain ⟨k, rfl, hk, hO, hT, hU, hV, hsz, hb_wr⟩ := hrel
    have hT0 := hT.c0
    have hT1 := hT.fr
    have hV0 := hV.c0
    by_cases hlt : k < n
    · have hL := length_movedA ws t i k
      have hB := HB.out
      have hwd := hr.words.at_ (i + k)
      unfold W64 at hb_i hb_n hb_t
      obtain ⟨b, off, rfl, hb, hcs⟩ := (hr.later hb_wr).at_ (by omega)
      have hcs1 := hcs (i + k) (by omega)
      clear hcs
      obtain ⟨y, hy⟩ := named ws (i + k)
      rw [hy.out] at hcs1 hwd
      obtain ⟨g, rfl, hBg, hg, hcg⟩ := hO.at_ (by omega)
      obtain ⟨hcg1, hfg1⟩ := hcg (t + k) (by omega)
      clear hcg
      have hne : g ≠ w.heap.size ∧ g ≠ w.heap.size + 1 ∧ g ≠ w1.heap.size := by omega
      have HO := Lib.hid hO
      have HL := Lib.hid hL
      have HW := Lib.hid hwd
      clear hO hL hwd
      have i1 : (t : Int) + k < ws.length := by omega
      have i2 : (i : Int) + k < ws.length := by omega
      have i3 : (0 : Int) ≤ (i : Int) + k := by omega
      have i6 : (0 : Int) ≤ (t : Int) + k := by omega
      have i7 : ¬ ((i : Int) + k < 0) := by omega
      have i8 : ¬ ((t : Int) + k < 0) := by omega
      have e1 : IntKind.u64.wrap ((t : Int) + k) = t + k := IntWalk.u64_in _ (by omega)
      have e4 : IntKind.u64.wrap ((i : Int) + k) = i + k := IntWalk.u64_in _ (by omega)
      have e2 : IntKind.u64.wrap ((k : Int) + 1) = k + 1 := IntWalk.u64_in _ (by omega)
      have e3 : ((t : Int) + k).toNat = t + k := by omega
      have e5 : ((i : Int) + k).toNat = i + k := by omega
      go_wp2
      go_still_tail 13, (by kernel_rfl)
      change wpList _ _ _ _ _ wr.drew
      go_wp2
      go_roundw
      case rel =>
        have hs := HO.out.set_ (i := t + k) (x := y) rfl (by have := HL.out; have := HB.out; omega) HW.out
        have e : movedA ws t i (k + 1) = (movedA ws t i k).set (t + k) y := by rw [← hy.out]; rfl
        refine ⟨k + 1, by go_num, by omega, ?_, ?_, ?_, ?_, (by first | omega | (simp; omega) | simp), (by repeat (first | exact Below.refl _ _ | assumption | (refine below_drewN ?_ _) | (refine Below.drew ?_) | (refine Below.alloc ?_ (by first | omega | (simp; omega) | simp) _) | (refine Below.setCell ?_ (by first | omega | (simp; omega) | simp) _) | (refine below_trans ?_ (by assumption) (by first | omega | (simp; omega) | simp))))⟩
        · rw [e]; first | exact hs | exact hs.drewN _ | exact hs.later (Below.drew (Below.refl _ _))
        · first | exact hT.far hne.1 _ | exact (hT.far hne.1 _).below (B := wr.heap.size + 1) (by repeat (first | exact Below.refl _ _ | assumption | (refine below_drewN ?_ _) | (refine Below.drew ?_) | (refine Below.alloc ?_ (by first | omega | (simp; omega) | simp) _) | (refine Below.setCell ?_ (by first | omega | (simp; omega) | simp) _) | (refine below_trans ?_ (by assumption) (by first | omega | (simp; omega) | simp)))) (by first | omega | (simp; omega) | simp)
        · first | exact hU.far hne.2.1 _ | exact (hU.far hne.2.1 _).below (B := wr.heap.size + 1) (by repeat (first | exact Below.refl _ _ | assumption | (refine below_drewN ?_ _) | (refine Below.drew ?_) | (refine Below.alloc ?_ (by first | omega | (simp; omega) | simp) _) | (refine Below.setCell ?_ (by first | omega | (simp; omega) | simp) _) | (refine below_trans ?_ (by assumption) (by first | omega | (simp; omega) | simp)))) (by first | omega | (simp; omega) | simp)
        · first | exact hV.far hne.2.2 _ | exact (hV.far hne.2.2 _).below (B := wr.heap.size + 1) (by repeat (first | exact Below.refl _ _ | assumption | (refine below_drewN ?_ _) | (refine Below.drew ?_) | (refine Below.alloc ?_ (by first | omega | (simp; omega) | simp) _) | (refine Below.setCell ?_ (by first | omega | (simp; omega) | simp) _) | (refine below_trans ?_ (by assumption) (by first | omega | (simp; omega) | simp)))) (by first | omega | (simp; omega) | simp)
      case measure => simp [intOf]; omega
    · obtain rfl : n = k := by omega
      have hU0 := hU.c0
      have hU1 := hU.fr
      go_wp2
      exact bodyPost_ret (res_arena rfl rfl (hU.set_ _).c0) rfl ⟨A1, cap1, by rw [length_movedA]; rfl, ⟨(hO.far (p := ⟨w.heap.size + 1, 0, none⟩) (.inl (by first | omega | (simp; omega) | simp)) _).mono (by first | omega | (simp; omega) | simp), by rw [length_movedA]; exact ho2.2⟩, (by repeat (first | exact Below.refl _ _ | assumption | (refine below_drewN ?_ _) | (refine Below.drew ?_) | (refine Below.alloc ?_ (by first | omega | (simp; omega) | simp) _) | (refine Below.setCell ?_ (by first | omega | (simp; omega) | simp) _) | (refine below_trans ?_ (by assumption) (by first | omega | (simp; omega) | simp))))⟩
set_option maxHeartbeats 1000000 in
theorem ramove_out1 (t i n : Nat) (hb_t : t < W64) (hb_i : i < W64) (hb_n : n < W64) (hr : Row w w.heap.size A ws) (hl : ws.length ≤ 17592186044416) (hm : ws.length ≤ 16384) (hb : ¬ t + n ≤ ws.length) :
    Calls Try.prog 16 #[.agg #[.slice A ws.length cap], .int .u64 (t : Nat), .int .u64 (i : Nat), .int .u64 (n : Nat)] w fun e w' => FreshA w ws 1 e w' := by
  have HB := Lib.hid hb
  clear hb
  go_enter Try.func16, Try.ntmps16
  go_wp2_with fail
  go_at_call 30
  refine (racheck_ok _ _ hm).mono ?_
  rintro e w1 ⟨rfl, hb_w1⟩
  obtain ⟨hc_w1, hf_w1⟩ := bcell hb_w1; have hz_w1_w_0 : w.heap.size < w1.heap.size := (by have hzz := hb_w1.size; (try simp only [World.size_alloc, World.size_setCell, World.size_drew, World.heap_drewN] at hzz); omega); have hz_w1_w_1 : w.heap.size + 1 < w1.heap.size := (by have hzz := hb_w1.size; (try simp only [World.size_alloc, World.size_setCell, World.size_drew, World.heap_drewN] at hzz); omega); have hs_w1 := hb_w1.size; (try simp only [World.size_alloc, World.size_setCell, World.size_drew, World.heap_drewN] at hs_w1)
  go_wp2_with fail
  go_at_call 10
  refine (acopy_any _ (hr.later (by repeat (first | exact Below.refl _ _ | assumption | (refine below_drewN ?_ _) | (refine Below.drew ?_) | (refine Below.alloc ?_ (by first | omega | (simp; omega) | simp) _) | (refine Below.setCell ?_ (by first | omega | (simp; omega) | simp) _) | (refine below_trans ?_ (by assumption) (by first | omega | (simp; omega) | simp))))) hl).mono ?_
  rintro e w2 ⟨A1, cap1, rfl, ho2, hb_w2⟩
  obtain ⟨hc_w2, hf_w2⟩ := bcell hb_w2; have hz_w2_w_0 : w.heap.size < w2.heap.size := (by have hzz := hb_w2.size; (try simp only [World.size_alloc, World.size_setCell, World.size_drew, World.heap_drewN] at hzz); omega); have hz_w2_w_1 : w.heap.size + 1 < w2.heap.size := (by have hzz := hb_w2.size; (try simp only [World.size_alloc, World.size_setCell, World.size_drew, World.heap_drewN] at hzz); omega); have hz_w2_w1_0 : w1.heap.size < w2.heap.size := (by have hzz := hb_w2.size; (try simp only [World.size_alloc, World.size_setCell, World.size_drew, World.heap_drewN] at hzz); omega); have hs_w2 := hb_w2.size; (try simp only [World.size_alloc, World.size_setCell, World.size_drew, World.heap_drewN] at hs_w2)
  have a1 : w1.cell? ⟨w.heap.size, 0, none⟩ = some (.slice A ws.length cap) ∧ w1.frozen? ⟨w.heap.size, 0, none⟩ = false := ⟨(hc_w1 _ _ (by first | omega | (simp; omega) | simp)).trans (by simp [go_sem]), (hf_w1 _ _ (by first | omega | (simp; omega) | simp)).trans (by simp [go_sem])⟩
  have a2 : w1.cell? ⟨w.heap.size + 1, 0, none⟩ = some (.slice none 0 0) ∧ w1.frozen? ⟨w.heap.size + 1, 0, none⟩ = false := ⟨(hc_w1 _ _ (by first | omega | (simp; omega) | simp)).trans (by simp [go_sem]), (hf_w1 _ _ (by first | omega | (simp; omega) | simp)).trans (by simp [go_sem])⟩
  have t2 : One w2 w.heap.size (.slice A ws.length cap) := (((⟨a1.1, a1.2⟩ : One w1 w.heap.size _).old (by first | omega | (simp; omega) | simp) _).below hb_w2 (by first | omega | (simp; omega) | simp))
  have u2 : One w2 (w.heap.size + 1) (.slice none 0 0) := (((⟨a2.1, a2.2⟩ : One w1 (w.heap.size + 1) _).old (by first | omega | (simp; omega) | simp) _).below hb_w2 (by first | omega | (simp; omega) | simp))
  have v2 : One w2 w1.heap.size (.slice A ws.length cap) := (One.new w1 _ _).below hb_w2 (by first | omega | (simp; omega) | simp)
  have q0 := t2.c0
  have q1 := t2.fr
  have s0 : ∀ V, (w2.setCell ⟨w.heap.size, 0, none⟩ V).cell? ⟨w.heap.size, 0, none⟩ = some V := fun V => (t2.set_ V).c0
  go_wp2_with fail
  go_at_call 31
  refine (athere_any _ ws.length t n false (by omega) hb_t hb_n (.inr ⟨rfl, HB.out⟩)).mono ?_
  rintro e w3 ⟨rfl, hb_w3⟩
  obtain ⟨hc_w3, hf_w3⟩ := bcell hb_w3; have hz_w3_w_0 : w.heap.size < w3.heap.size := (by have hzz := hb_w3.size; (try simp only [World.size_alloc, World.size_setCell, World.size_drew, World.heap_drewN] at hzz); omega); have hz_w3_w_1 : w.heap.size + 1 < w3.heap.size := (by have hzz := hb_w3.size; (try simp only [World.size_alloc, World.size_setCell, World.size_drew, World.heap_drewN] at hzz); omega); have hz_w3_w1_0 : w1.heap.size < w3.heap.size := (by have hzz := hb_w3.size; (try simp only [World.size_alloc, World.size_setCell, World.size_drew, World.heap_drewN] at hzz); omega); have hs_w3 := hb_w3.size; (try simp only [World.size_alloc, World.size_setCell, World.size_drew, World.heap_drewN] at hs_w3)
  have r3 : w3.cell? ⟨w.heap.size, 0, none⟩ = some (.slice A1 ws.length cap1) := (hc_w3 _ _ (by first | omega | (simp; omega) | simp)).trans (s0 _)
  have u3 : One w3 (w.heap.size + 1) (.slice none 0 0) := (u2.far (by first | omega | (simp; omega) | simp) _).below hb_w3 (by first | omega | (simp; omega) | simp)
  have v3 : One w3 w1.heap.size (.slice A ws.length cap) := (v2.far (by first | omega | (simp; omega) | simp) _).below hb_w3 (by first | omega | (simp; omega) | simp)
  have t3 : One w3 w.heap.size (.slice A1 ws.length cap1) := (t2.set_ _).below hb_w3 (by first | omega | (simp; omega) | simp)
  go_wp2_with fail
  exact bodyPost_ret (res_arena rfl rfl (u3.set_ _).c0) rfl ⟨A1, cap1, rfl, ⟨(((ho2.1.far (p := ⟨w.heap.size, 0, none⟩) (.inl (by first | omega | (simp; omega) | simp)) _).later hb_w3).far (p := ⟨w.heap.size + 1, 0, none⟩) (.inl (by first | omega | (simp; omega) | simp)) _).mono (by first | omega | (simp; omega) | simp), ho2.2⟩, (by repeat (first | exact Below.refl _ _ | assumption | (refine below_drewN ?_ _) | (refine Below.drew ?_) | (refine Below.alloc ?_ (by first | omega | (simp; omega) | simp) _) | (refine Below.setCell ?_ (by first | omega | (simp; omega) | simp) _) | (refine below_trans ?_ (by assumption) (by first | omega | (simp; omega) | simp))))⟩
set_option maxHeartbeats 1000000 in
theorem ramove_out2 (t i n : Nat) (hb_t : t < W64) (hb_i : i < W64) (hb_n : n < W64) (hr : Row w w.heap.size A ws) (hl : ws.length ≤ 17592186044416) (hm : ws.length ≤ 16384) (hb1 : t + n ≤ ws.length) (hb : ¬ i + n ≤ ws.length) :
    Calls Try.prog 16 #[.agg #[.slice A ws.length cap], .int .u64 (t : Nat), .int .u64 (i : Nat), .int .u64 (n : Nat)] w fun e w' => FreshA w ws 1 e w' := by
  have HB := Lib.hid hb
  clear hb
  go_enter Try.func16, Try.ntmps16
  go_wp2_with fail
  go_at_call 30
  refine (racheck_ok _ _ hm).mono ?_
  rintro e w1 ⟨rfl, hb_w1⟩
  obtain ⟨hc_w1, hf_w1⟩ := bcell hb_w1; have hz_w1_w_0 : w.heap.size < w1.heap.size := (by have hzz := hb_w1.size; (try simp only [World.size_alloc, World.size_setCell, World.size_drew, World.heap_drewN] at hzz); omega); have hz_w1_w_1 : w.heap.size + 1 < w1.heap.size := (by have hzz := hb_w1.size; (try simp only [World.size_alloc, World.size_setCell, World.size_drew, World.heap_drewN] at hzz); omega); have hs_w1 := hb_w1.size; (try simp only [World.size_alloc, World.size_setCell, World.size_drew, World.heap_drewN] at hs_w1)
  go_wp2_with fail
  go_at_call 10
  refine (acopy_any _ (hr.later (by repeat (first | exact Below.refl _ _ | assumption | (refine below_drewN ?_ _) | (refine Below.drew ?_) | (refine Below.alloc ?_ (by first | omega | (simp; omega) | simp) _) | (refine Below.setCell ?_ (by first | omega | (simp; omega) | simp) _) | (refine below_trans ?_ (by assumption) (by first | omega | (simp; omega) | simp))))) hl).mono ?_
  rintro e w2 ⟨A1, cap1, rfl, ho2, hb_w2⟩
  obtain ⟨hc_w2, hf_w2⟩ := bcell hb_w2; have hz_w2_w_0 : w.heap.size < w2.heap.size := (by have hzz := hb_w2.size; (try simp only [World.size_alloc, World.size_setCell, World.size_drew, World.heap_drewN] at hzz); omega); have hz_w2_w_1 : w.heap.size + 1 < w2.heap.size := (by have hzz := hb_w2.size; (try simp only [World.size_alloc, World.size_setCell, World.size_drew, World.heap_drewN] at hzz); omega); have hz_w2_w1_0 : w1.heap.size < w2.heap.size := (by have hzz := hb_w2.size; (try simp only [World.size_alloc, World.size_setCell, World.size_drew, World.heap_drewN] at hzz); omega); have hs_w2 := hb_w2.size; (try simp only [World.size_alloc, World.size_setCell, World.size_drew, World.heap_drewN] at hs_w2)
  have a1 : w1.cell? ⟨w.heap.size, 0, none⟩ = some (.slice A ws.length cap) ∧ w1.frozen? ⟨w.heap.size, 0, none⟩ = false := ⟨(hc_w1 _ _ (by first | omega | (simp; omega) | simp)).trans (by simp [go_sem]), (hf_w1 _ _ (by first | omega | (simp; omega) | simp)).trans (by simp [go_sem])⟩
  have a2 : w1.cell? ⟨w.heap.size + 1, 0, none⟩ = some (.slice none 0 0) ∧ w1.frozen? ⟨w.heap.size + 1, 0, none⟩ = false := ⟨(hc_w1 _ _ (by first | omega | (simp; omega) | simp)).trans (by simp [go_sem]), (hf_w1 _ _ (by first | omega | (simp; omega) | simp)).trans (by simp [go_sem])⟩
  have t2 : One w2 w.heap.size (.slice A ws.length cap) := (((⟨a1.1, a1.2⟩ : One w1 w.heap.size _).old (by first | omega | (simp; omega) | simp) _).below hb_w2 (by first | omega | (simp; omega) | simp))
  have u2 : One w2 (w.heap.size + 1) (.slice none 0 0) := (((⟨a2.1, a2.2⟩ : One w1 (w.heap.size + 1) _).old (by first | omega | (simp; omega) | simp) _).below hb_w2 (by first | omega | (simp; omega) | simp))
  have v2 : One w2 w1.heap.size (.slice A ws.length cap) := (One.new w1 _ _).below hb_w2 (by first | omega | (simp; omega) | simp)
  have q0 := t2.c0
  have q1 := t2.fr
  have s0 : ∀ V, (w2.setCell ⟨w.heap.size, 0, none⟩ V).cell? ⟨w.heap.size, 0, none⟩ = some V := fun V => (t2.set_ V).c0
  go_wp2_with fail
  go_at_call 31
  refine (athere_any _ ws.length t n true (by omega) hb_t hb_n (.inl ⟨rfl, hb1⟩)).mono ?_
  rintro e w3 ⟨rfl, hb_w3⟩
  obtain ⟨hc_w3, hf_w3⟩ := bcell hb_w3; have hz_w3_w_0 : w.heap.size < w3.heap.size := (by have hzz := hb_w3.size; (try simp only [World.size_alloc, World.size_setCell, World.size_drew, World.heap_drewN] at hzz); omega); have hz_w3_w_1 : w.heap.size + 1 < w3.heap.size := (by have hzz := hb_w3.size; (try simp only [World.size_alloc, World.size_setCell, World.size_drew, World.heap_drewN] at hzz); omega); have hz_w3_w1_0 : w1.heap.size < w3.heap.size := (by have hzz := hb_w3.size; (try simp only [World.size_alloc, World.size_setCell, World.size_drew, World.heap_drewN] at hzz); omega); have hs_w3 := hb_w3.size; (try simp only [World.size_alloc, World.size_setCell, World.size_drew, World.heap_drewN] at hs_w3)
  have r3 : w3.cell? ⟨w.heap.size, 0, none⟩ = some (.slice A1 ws.length cap1) := (hc_w3 _ _ (by first | omega | (simp; omega) | simp)).trans (s0 _)
  have u3 : One w3 (w.heap.size + 1) (.slice none 0 0) := (u2.far (by first | omega | (simp; omega) | simp) _).below hb_w3 (by first | omega | (simp; omega) | simp)
  have v3 : One w3 w1.heap.size (.slice A ws.length cap) := (v2.far (by first | omega | (simp; omega) | simp) _).below hb_w3 (by first | omega | (simp; omega) | simp)
  have t3 : One w3 w.heap.size (.slice A1 ws.length cap1) := (t2.set_ _).below hb_w3 (by first | omega | (simp; omega) | simp)
  go_wp2_with fail
  go_at_call 31
  refine (athere_any _ ws.length i n false (by omega) hb_i hb_n (.inr ⟨rfl, HB.out⟩)).mono ?_
  rintro e w4 ⟨rfl, hb_w4⟩
  obtain ⟨hc_w4, hf_w4⟩ := bcell hb_w4; have hz_w4_w_0 : w.heap.size < w4.heap.size := (by have hzz := hb_w4.size; (try simp only [World.size_alloc, World.size_setCell, World.size_drew, World.heap_drewN] at hzz); omega); have hz_w4_w_1 : w.heap.size + 1 < w4.heap.size := (by have hzz := hb_w4.size; (try simp only [World.size_alloc, World.size_setCell, World.size_drew, World.heap_drewN] at hzz); omega); have hz_w4_w1_0 : w1.heap.size < w4.heap.size := (by have hzz := hb_w4.size; (try simp only [World.size_alloc, World.size_setCell, World.size_drew, World.heap_drewN] at hzz); omega); have hs_w4 := hb_w4.size; (try simp only [World.size_alloc, World.size_setCell, World.size_drew, World.heap_drewN] at hs_w4)
  have r4 : w4.cell? ⟨w.heap.size, 0, none⟩ = some (.slice A1 ws.length cap1) := (hc_w4 _ _ (by first | omega | (simp; omega) | simp)).trans r3
  have u4 : One w4 (w.heap.size + 1) (.slice none 0 0) := u3.below hb_w4 (by first | omega | (simp; omega) | simp)
  have v4 : One w4 w1.heap.size (.slice A ws.length cap) := v3.below hb_w4 (by first | omega | (simp; omega) | simp)
  have t4 : One w4 w.heap.size (.slice A1 ws.length cap1) := t3.below hb_w4 (by first | omega | (simp; omega) | simp)
  go_wp2_with fail
  exact bodyPost_ret (res_arena rfl rfl (u4.set_ _).c0) rfl ⟨A1, cap1, rfl, ⟨((((ho2.1.far (p := ⟨w.heap.size, 0, none⟩) (.inl (by first | omega | (simp; omega) | simp)) _).later hb_w3).later hb_w4).far (p := ⟨w.heap.size + 1, 0, none⟩) (.inl (by first | omega | (simp; omega) | simp)) _).mono (by first | omega | (simp; omega) | simp), ho2.2⟩, (by repeat (first | exact Below.refl _ _ | assumption | (refine below_drewN ?_ _) | (refine Below.drew ?_) | (refine Below.alloc ?_ (by first | omega | (simp; omega) | simp) _) | (refine Below.setCell ?_ (by first | omega | (simp; omega) | simp) _) | (refine below_trans ?_ (by assumption) (by first | omega | (simp; omega) | simp))))⟩

theorem racheck_any : Calls Try.prog 30 #[.agg #[.slice A ws.length cap]] w fun e w' => e = .returned (.int .i64 (errA ws True)) ∧ Below w.heap.size w w' := by
  unfold errA
  by_cases hb : ws.length ≤ 16384
  · rw [if_pos hb, if_pos trivial]
    exact racheck_ok _ _ hb
  · rw [if_neg hb]
    exact racheck_bad _ _ hb
theorem rastore_any (i v : Nat) (hb_i : i < W64) (hb_v : v < W64) (hr : Row w w.heap.size A ws) (hl : ws.length ≤ 17592186044416) :
    Calls Try.prog 12 #[.agg #[.slice A ws.length cap], .int .u64 (i : Nat), .int .u64 (v : Nat)] w fun e w' => FreshA w (resA ws (i + 1 ≤ ws.length) (ws.set i v)) (errA ws (i + 1 ≤ ws.length)) e w' := by
  by_cases hm : ws.length ≤ 16384
  · by_cases ht : i + 1 ≤ ws.length
    · rw [(resA_in (us := ws.set i v) hm ht).1, (resA_in (us := ws.set i v) hm ht).2]
      exact rastore_in cap i v hb_i hb_v hr hl hm ht
    · rw [(resA_out (us := ws.set i v) hm ht).1, (resA_out (us := ws.set i v) hm ht).2]
      exact rastore_out cap i v hb_i hb_v hr hl hm ht
  · rw [(resA_bad (us := ws.set i v) (p := i + 1 ≤ ws.length) hm).1, (resA_bad (us := ws.set i v) (p := i + 1 ≤ ws.length) hm).2]
    exact rastore_bad cap i v hb_i hb_v hm
theorem raclear_any (i n : Nat) (hb_i : i < W64) (hb_n : n < W64) (hr : Row w w.heap.size A ws) (hl : ws.length ≤ 17592186044416) :
    Calls Try.prog 18 #[.agg #[.slice A ws.length cap], .int .u64 (i : Nat), .int .u64 (n : Nat)] w fun e w' => FreshA w (resA ws (i + n ≤ ws.length) (overTo ws i (fun _ => 0) n)) (errA ws (i + n ≤ ws.length)) e w' := by
  by_cases hm : ws.length ≤ 16384
  · by_cases ht : i + n ≤ ws.length
    · rw [(resA_in (us := overTo ws i (fun _ => 0) n) hm ht).1, (resA_in (us := overTo ws i (fun _ => 0) n) hm ht).2]
      exact raclear_in cap i n hb_i hb_n hr hl hm ht
    · rw [(resA_out (us := overTo ws i (fun _ => 0) n) hm ht).1, (resA_out (us := overTo ws i (fun _ => 0) n) hm ht).2]
      exact raclear_out cap i n hb_i hb_n hr hl hm ht
  · rw [(resA_bad (us := overTo ws i (fun _ => 0) n) (p := i + n ≤ ws.length) hm).1, (resA_bad (us := overTo ws i (fun _ => 0) n) (p := i + n ≤ ws.length) hm).2]
    exact raclear_bad cap i n hb_i hb_n hm
theorem ramove_any (t i n : Nat) (hb_t : t < W64) (hb_i : i < W64) (hb_n : n < W64) (hr : Row w w.heap.size A ws) (hl : ws.length ≤ 17592186044416) :
    Calls Try.prog 16 #[.agg #[.slice A ws.length cap], .int .u64 (t : Nat), .int .u64 (i : Nat), .int .u64 (n : Nat)] w fun e w' => FreshA w (resA ws (t + n ≤ ws.length ∧ i + n ≤ ws.length) (movedA ws t i n)) (errA ws (t + n ≤ ws.length ∧ i + n ≤ ws.length)) e w' := by
  by_cases hm : ws.length ≤ 16384
  · by_cases ht : t + n ≤ ws.length ∧ i + n ≤ ws.length
    · rw [(resA_in (us := movedA ws t i n) hm ht).1, (resA_in (us := movedA ws t i n) hm ht).2]
      exact ramove_in cap t i n hb_t hb_i hb_n hr hl hm ht
    · rw [(resA_out (us := movedA ws t i n) hm ht).1, (resA_out (us := movedA ws t i n) hm ht).2]
      by_cases h1 : t + n ≤ ws.length
      · exact ramove_out2 cap t i n hb_t hb_i hb_n hr hl hm h1 (fun h => ht ⟨h1, h⟩)
      · exact ramove_out1 cap t i n hb_t hb_i hb_n hr hl hm h1
  · rw [(resA_bad (us := movedA ws t i n) (p := t + n ≤ ws.length ∧ i + n ≤ ws.length) hm).1, (resA_bad (us := movedA ws t i n) (p := t + n ≤ ws.length ∧ i + n ≤ ws.length) hm).2]
    exact ramove_bad cap t i n hb_t hb_i hb_n hm
end
end Go.Proofs.Ytbhblffomlhopab
