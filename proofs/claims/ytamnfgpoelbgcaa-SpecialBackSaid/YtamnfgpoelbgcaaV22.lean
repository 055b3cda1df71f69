/- The walk of the law SpecialBack. -/
import Derived.Test.YtamnfgpoelbgcaaV21
import Derived.Test.YtamnfgpoelbgcaaV20
namespace Go.Proofs.Ytamnfgpoelbgcaa
open Go.RowKit
set_option linter.unusedVariables false
set_option linter.unusedSimpArgs false

set_option maxHeartbeats 8000000 in
theorem specialBack_walk (A : Option Addr) (cap : Nat) (l : List Sc) (s : Sc) (w : World) (hr : CRow w w.heap.size A l) (hcl : l.length ≤ cap) (hl : l.length ≤ 5864062014805) (hnil : A = none → cap = 0) :
    Calls Try.prog 5 #[.slice A l.length cap, scv s] w fun e w' => e = .returned (.bool true) ∧ Below w.heap.size w w' := by
  rcases add_one (l := l) s with ⟨m, y, hE, hok, rfl, rfl⟩ | ⟨hok, hr0, hE⟩ | ⟨hok, y, hry, hy0, hE⟩
  · have HT1 := Lib.hid fun (w : World) hr => ctakeL_any (w := w) (A := A) (l := l) cap hr hcl hl s.a s.k _ _ _ (.inr ⟨hok, rfl, rfl, rfl⟩)
    have HA := Lib.hid fun (w : World) (M : Option Addr) hr hm => cadd_any (w := w) (A := A) (M := M) (l := l) (more := [s]) cap 1 hr hcl hl hnil hm (by simp) _ _ hE
    simp only [List.length_nil, List.length_cons, Nat.zero_add] at HT1 HA
    clear hok hE
    have HN := Lib.hid fun (w : World) (g : Nat) hg => crow_newG w g [s] 41 hg
    obtain ⟨a, kk, t⟩ := s
    unfold scv
    simp only at *
    go_enter Try.func5, Try.ntmps5
    go_wp2_with fail
    go_at_call 16
    refine (clives_any _).mono ?_
    rintro e w1 ⟨rfl, hb_w1⟩
    obtain ⟨hc_w1, hf_w1⟩ := bcell hb_w1; have hz_w1_w_0 : w.heap.size < w1.heap.size := (by have hzz := hb_w1.size; (try simp only [World.size_alloc, World.size_setCell, World.size_drew, World.heap_drewN] at hzz); omega); have hs_w1 := hb_w1.size; (try simp only [World.size_alloc, World.size_setCell, World.size_drew, World.heap_drewN] at hs_w1)
    go_wp2_with fail
    go_at_call 14
    refine (HT1.out _ (hr.later (by repeat (first | exact Below.refl _ _ | assumption | (refine below_drewN ?_ _) | (refine Below.drew ?_) | (refine Below.alloc ?_ (by first | omega | (simp; omega) | simp) _) | (refine Below.setCell ?_ (by first | omega | (simp; omega) | simp) _) | (refine below_trans ?_ (by assumption) (by first | omega | (simp; omega) | simp)))))).mono ?_
    rintro e w3 ⟨B3, c3, C3, d3, rfl, o3, o3', hb_w3⟩
    obtain ⟨hc_w3, hf_w3⟩ := bcell hb_w3; have hz_w3_w_0 : w.heap.size < w3.heap.size := (by have hzz := hb_w3.size; (try simp only [World.size_alloc, World.size_setCell, World.size_drew, World.heap_drewN] at hzz); omega); have hs_w3 := hb_w3.size; (try simp only [World.size_alloc, World.size_setCell, World.size_drew, World.heap_drewN] at hs_w3)
    go_wp2_with fail
    go_at_call 10
    refine (HA.out _ _ (hr.later (by repeat (first | exact Below.refl _ _ | assumption | (refine below_drewN ?_ _) | (refine Below.drew ?_) | (refine Below.alloc ?_ (by first | omega | (simp; omega) | simp) _) | (refine Below.setCell ?_ (by first | omega | (simp; omega) | simp) _) | (refine below_trans ?_ (by assumption) (by first | omega | (simp; omega) | simp))))) (by exact HN.out _ _ rfl)).mono ?_
    rintro e w4 ⟨B4, c4, rfl, o4, hb_w4⟩
    obtain ⟨hc_w4, hf_w4⟩ := bcell hb_w4; have hz_w4_w_0 : w.heap.size < w4.heap.size := (by have hzz := hb_w4.size; (try simp only [World.size_alloc, World.size_setCell, World.size_drew, World.heap_drewN] at hzz); omega); have hs_w4 := hb_w4.size; (try simp only [World.size_alloc, World.size_setCell, World.size_drew, World.heap_drewN] at hs_w4)
    go_wp2
    go_ret
    exact ⟨rfl, (by repeat (first | exact Below.refl _ _ | assumption | (refine below_drewN ?_ _) | (refine Below.drew ?_) | (refine Below.alloc ?_ (by first | omega | (simp; omega) | simp) _) | (refine Below.setCell ?_ (by first | omega | (simp; omega) | simp) _) | (refine below_trans ?_ (by assumption) (by first | omega | (simp; omega) | simp))))⟩
  · have hom := hok.add hr0
    have HT1 := Lib.hid fun (w : World) hr => ctakeL_any (w := w) (A := A) (l := l) cap hr hcl hl s.a s.k _ _ _ (.inl ⟨hok, rfl, rfl, rfl⟩)
    have HA := Lib.hid fun (w : World) (M : Option Addr) hr hm => cadd_any (w := w) (A := A) (M := M) (l := l) (more := [s]) cap 1 hr hcl hl hnil hm (by simp) _ _ hE
    have HT2 := Lib.hid fun (w : World) (A : Option Addr) (cap : Nat) hr hcl => ctakeL_any (w := w) (A := A) (l := addC l s) cap hr hcl (by have := hom.1; omega) s.a s.k _ _ _ (.inl ⟨hom, rfl, rfl, rfl⟩)
    have HC := Lib.hid fun (w : World) (A : Option Addr) (cap : Nat) hr hcl => ccheck_any (w := w) (A := A) (l := addC l s) cap hr hcl (by have := hom.1; omega) 0 (.inl ⟨hom, rfl⟩)
    rw [take_add hok.2 s] at HT2
    have hleft : l.filter (takeP s.a s.k) = [] → (addC l s).filter (leftP s.a s.k) = l := left_add l s
    have hh64 := List.length_filter_le (takeP s.a s.k) l
    have hl64 := hok.1
    have hlast := nthC_last (l.filter (takeP s.a s.k)) s
    generalize (addC l s).filter (leftP s.a s.k) = lm at *
    generalize l.filter (leftP s.a s.k) = l0 at *
    generalize l.filter (takeP s.a s.k) = hd at *
    generalize hnh : hd.length = nh at *
    have hol : (hd ++ [s]).length = nh + 1 := by rw [List.length_append, hnh]; rfl
    have HOL := Lib.hid hol
    have HNH := Lib.hid hnh
    rw [hol] at HT2
    generalize addC l s = lmm at *
    simp only [List.length_cons, List.length_nil, Nat.zero_add] at HA
    have HN := Lib.hid fun (w : World) (g : Nat) hg => crow_newG w g [s] 41 hg
    have HLA := Lib.hid hlast
    clear hok hE hom hr0 hnh hol hlast
    obtain ⟨a, kk, t⟩ := s
    unfold scv
    simp only at *
    have hw1 : IntKind.i64.wrap ((nh : Int) + 1 - (nh : Int)) = 1 := by rw [IntWalk.i64_in _ (by omega)]; omega
    have hw2 : IntKind.i64.wrap ((nh : Int) + 1 - 1) = (nh : Int) := by rw [IntWalk.i64_in _ (by omega)]; omega
    have hw3 : IntKind.i64.wrap 1 = 1 := rfl
    have hw4 : IntKind.i64.wrap (nh : Int) = (nh : Int) := by rw [IntWalk.i64_in _ (by omega)]
    have hn0 : (0 : Int) ≤ (nh : Int) := by omega
    have hn1 : (nh : Int) < (nh : Int) + 1 := by omega
    go_enter Try.func5, Try.ntmps5
    go_wp2_with fail
    go_at_call 16
    refine (clives_any _).mono ?_
    rintro e w1 ⟨rfl, hb_w1⟩
    obtain ⟨hc_w1, hf_w1⟩ := bcell hb_w1; have hz_w1_w_0 : w.heap.size < w1.heap.size := (by have hzz := hb_w1.size; (try simp only [World.size_alloc, World.size_setCell, World.size_drew, World.heap_drewN] at hzz); omega); have hs_w1 := hb_w1.size; (try simp only [World.size_alloc, World.size_setCell, World.size_drew, World.heap_drewN] at hs_w1)
    go_wp2_with fail
    go_at_call 14
    refine (HT1.out _ (hr.later (by repeat (first | exact Below.refl _ _ | assumption | (refine below_drewN ?_ _) | (refine Below.drew ?_) | (refine Below.alloc ?_ (by first | omega | (simp; omega) | simp) _) | (refine Below.setCell ?_ (by first | omega | (simp; omega) | simp) _) | (refine below_trans ?_ (by assumption) (by first | omega | (simp; omega) | simp)))))).mono ?_
    rintro e w3 ⟨B3, c3, C3, d3, rfl, o3, o3', hb_w3⟩
    obtain ⟨hc_w3, hf_w3⟩ := bcell hb_w3; have hz_w3_w_0 : w.heap.size < w3.heap.size := (by have hzz := hb_w3.size; (try simp only [World.size_alloc, World.size_setCell, World.size_drew, World.heap_drewN] at hzz); omega); have hs_w3 := hb_w3.size; (try simp only [World.size_alloc, World.size_setCell, World.size_drew, World.heap_drewN] at hs_w3)
    go_wp2_with fail
    go_at_call 10
    refine (HA.out _ _ (hr.later (by repeat (first | exact Below.refl _ _ | assumption | (refine below_drewN ?_ _) | (refine Below.drew ?_) | (refine Below.alloc ?_ (by first | omega | (simp; omega) | simp) _) | (refine Below.setCell ?_ (by first | omega | (simp; omega) | simp) _) | (refine below_trans ?_ (by assumption) (by first | omega | (simp; omega) | simp))))) (by exact HN.out _ _ rfl)).mono ?_
    rintro e w4 ⟨B4, c4, rfl, oM, hb_w4⟩
    obtain ⟨hc_w4, hf_w4⟩ := bcell hb_w4; have hz_w4_w_0 : w.heap.size < w4.heap.size := (by have hzz := hb_w4.size; (try simp only [World.size_alloc, World.size_setCell, World.size_drew, World.heap_drewN] at hzz); omega); have hs_w4 := hb_w4.size; (try simp only [World.size_alloc, World.size_setCell, World.size_drew, World.heap_drewN] at hs_w4)
    have rM := CRow.of_owns oM
    go_wp2_with fail
    go_at_call 14
    refine (HT2.out _ _ _ (rM.later (by repeat (first | exact Below.refl _ _ | assumption | (refine below_drewN ?_ _) | (refine Below.drew ?_) | (refine Below.alloc ?_ (by first | omega | (simp; omega) | simp) _) | (refine Below.setCell ?_ (by first | omega | (simp; omega) | simp) _) | (refine below_trans ?_ (by assumption) (by first | omega | (simp; omega) | simp))))) (capC oM)).mono ?_
    rintro e w5 ⟨B5, c5, C5, d5, rfl, o5, o5', hb_w5⟩
    obtain ⟨hc_w5, hf_w5⟩ := bcell hb_w5; have hz_w5_w_0 : w.heap.size < w5.heap.size := (by have hzz := hb_w5.size; (try simp only [World.size_alloc, World.size_setCell, World.size_drew, World.heap_drewN] at hzz); omega); have hs_w5 := hb_w5.size; (try simp only [World.size_alloc, World.size_setCell, World.size_drew, World.heap_drewN] at hs_w5)
    have o5x := ownsC_len HOL.out o5'
    obtain ⟨g, rfl, _, _, hgl⟩ := some_of_owns o5x (by rw [HOL.out]; omega)
    have r5 := CRow.of_owns o5x
    have q5 : Sp3 w5 g (nh * 3) ⟨a, kk, t⟩ := by
      obtain ⟨b, off, e, _, hc⟩ := r5.at_ (by rw [HOL.out]; omega)
      injection e with e
      injection e with e1 e2
      subst e1 e2
      have := hc nh (by rw [HOL.out]; omega)
      rwa [HLA.out, Nat.zero_add] at this
    obtain ⟨x0, x1, x2⟩ := q5
    simp only at x0 x1 x2
    have z0 : w5.cell? ⟨w.heap.size, 0, none⟩ = some (.int .u64 a) := (hc_w5 _ _ (by first | omega | (simp; omega) | simp)).trans ((hc_w4 _ _ (by first | omega | (simp; omega) | simp)).trans ((World.cell?_alloc_lt _ _ ⟨_, _, _⟩ (by first | omega | (simp; omega) | simp)).trans ((hc_w3 _ _ (by first | omega | (simp; omega) | simp)).trans ((hc_w1 _ _ (by first | omega | (simp; omega) | simp)).trans (by simp [go_sem])))))
    have z1 : w5.cell? ⟨w.heap.size, 1, none⟩ = some (.int .u8 kk) := (hc_w5 _ _ (by first | omega | (simp; omega) | simp)).trans ((hc_w4 _ _ (by first | omega | (simp; omega) | simp)).trans ((World.cell?_alloc_lt _ _ ⟨_, _, _⟩ (by first | omega | (simp; omega) | simp)).trans ((hc_w3 _ _ (by first | omega | (simp; omega) | simp)).trans ((hc_w1 _ _ (by first | omega | (simp; omega) | simp)).trans (by simp [go_sem])))))
    have z2 : w5.cell? ⟨w.heap.size, 2, none⟩ = some (.int .u64 t) := (hc_w5 _ _ (by first | omega | (simp; omega) | simp)).trans ((hc_w4 _ _ (by first | omega | (simp; omega) | simp)).trans ((World.cell?_alloc_lt _ _ ⟨_, _, _⟩ (by first | omega | (simp; omega) | simp)).trans ((hc_w3 _ _ (by first | omega | (simp; omega) | simp)).trans ((hc_w1 _ _ (by first | omega | (simp; omega) | simp)).trans (by simp [go_sem])))))
    have rM := rM.later hb_w5
    have oM := OwnsC.later oM hb_w5
    have r5l := CRow.of_owns o5
    have b5 : Below w.heap.size w w5 := (by repeat (first | exact Below.refl _ _ | assumption | (refine below_drewN ?_ _) | (refine Below.drew ?_) | (refine Below.alloc ?_ (by first | omega | (simp; omega) | simp) _) | (refine Below.setCell ?_ (by first | omega | (simp; omega) | simp) _) | (refine below_trans ?_ (by assumption) (by first | omega | (simp; omega) | simp))))
    clear hc_w1 hf_w1 hc_w3 hf_w3 hc_w4 hf_w4 hc_w5 hf_w5
    go_wp2_with fail
    refine wp_region_held_drew (S := (fun X : World => X.cell? ⟨g, nh * 3, none⟩ = some (.int .u64 a) ∧ X.cell? ⟨g, nh * 3 + 1, none⟩ = some (.int .u8 kk) ∧ X.cell? ⟨g, nh * 3 + 2, none⟩ = some (.int .u64 t) ∧ X.cell? ⟨w.heap.size, 0, none⟩ = some (.int .u64 a) ∧ X.cell? ⟨w.heap.size, 1, none⟩ = some (.int .u8 kk) ∧ X.cell? ⟨w.heap.size, 2, none⟩ = some (.int .u64 t))) (by kernel_rfl) ?_ (fun hHeld => ?_)
    · (try dsimp only); refine ⟨?_, ?_, ?_, ?_, ?_, ?_⟩ <;> first | assumption | (simp [go_sem]; done)
    refine wpAnyH_take (i := 0) (v := ?_) rfl (by kernel_rfl) (by kernel_rfl) (by kernel_rfl) (fun _ _ _ h => h) (Or.inl ⟨by rfl, ?_⟩) (by assumption) ?_
    rotate_left
    · (intro w hSw; (try dsimp only at hSw); go_simp; first | done | with_reducible rfl)
    try simp only [Act.put, List.getElem_toArray, List.getElem_cons_zero, List.getElem_cons_succ, List.setIfInBounds_toArray, List.set_cons_zero, List.set_cons_succ]
    refine wpAnyH_take (i := 1) (v := ?_) rfl (by kernel_rfl) (by kernel_rfl) (by kernel_rfl) (fun _ _ _ h => h) (Or.inl ⟨by rfl, ?_⟩) (by assumption) ?_
    rotate_left
    · (intro w hSw; (try dsimp only at hSw); go_simp; first | done | with_reducible rfl)
    try simp only [Act.put, List.getElem_toArray, List.getElem_cons_zero, List.getElem_cons_succ, List.setIfInBounds_toArray, List.set_cons_zero, List.set_cons_succ]
    refine wpAnyH_take (i := 2) (v := ?_) rfl (by kernel_rfl) (by kernel_rfl) (by kernel_rfl) (fun _ _ _ h => h) (Or.inl ⟨by rfl, ?_⟩) (by assumption) ?_
    rotate_left
    · (intro w hSw; (try dsimp only at hSw); go_simp; first | done | with_reducible rfl)
    try simp only [Act.put, List.getElem_toArray, List.getElem_cons_zero, List.getElem_cons_succ, List.setIfInBounds_toArray, List.set_cons_zero, List.set_cons_succ]
    refine wpAnyH_take (i := 3) (v := ?_) rfl (by kernel_rfl) (by kernel_rfl) (by kernel_rfl) (fun _ _ _ h => h) (Or.inl ⟨by rfl, ?_⟩) (by assumption) ?_
    rotate_left
    · (intro w hSw; (try dsimp only at hSw); go_simp; first | done | with_reducible rfl)
    try simp only [Act.put, List.getElem_toArray, List.getElem_cons_zero, List.getElem_cons_succ, List.setIfInBounds_toArray, List.set_cons_zero, List.set_cons_succ]
    refine wpAnyH_take (i := 4) (v := ?_) rfl (by kernel_rfl) (by kernel_rfl) (by kernel_rfl) (fun _ _ _ h => h) (Or.inl ⟨by rfl, ?_⟩) (by assumption) ?_
    rotate_left
    · (intro w hSw; (try dsimp only at hSw); go_simp; first | done | with_reducible rfl)
    try simp only [Act.put, List.getElem_toArray, List.getElem_cons_zero, List.getElem_cons_succ, List.setIfInBounds_toArray, List.set_cons_zero, List.set_cons_succ]
    refine wpAnyH_ready (rs := [5]) (by kernel_rfl) (by simp) ?_
    refine AllReadyH.cons rfl (fun K hK => ?_) AllReadyH.nil
    try simp only [List.getElem_toArray, List.getElem_cons_zero, List.getElem_cons_succ]
    go_simp
    refine hK.out _ _ ?_ (fun hHeld => ?_)
    · (try dsimp only); refine ⟨?_, ?_, ?_, ?_, ?_, ?_⟩ <;> first | assumption | (simp [go_sem]; done)
    clear hK K
    try simp only [Act.put, List.getElem_toArray, List.getElem_cons_zero, List.getElem_cons_succ, List.setIfInBounds_toArray, List.set_cons_zero, List.set_cons_succ]
    refine wpAnyH_take (i := 6) (v := ?_) rfl (by kernel_rfl) (by kernel_rfl) (by kernel_rfl) (fun _ _ _ h => h) (Or.inl ⟨by rfl, ?_⟩) (by assumption) ?_
    rotate_left
    · (intro w hSw; (try dsimp only at hSw); go_simp; first | done | with_reducible rfl)
    try simp only [Act.put, List.getElem_toArray, List.getElem_cons_zero, List.getElem_cons_succ, List.setIfInBounds_toArray, List.set_cons_zero, List.set_cons_succ]
    refine wpAnyH_take (i := 7) (v := ?_) rfl (by kernel_rfl) (by kernel_rfl) (by kernel_rfl) (fun _ _ _ h => h) (Or.inl ⟨by rfl, ?_⟩) (by assumption) ?_
    rotate_left
    · (intro w hSw; (try dsimp only at hSw); go_simp; first | done | with_reducible rfl)
    try simp only [Act.put, List.getElem_toArray, List.getElem_cons_zero, List.getElem_cons_succ, List.setIfInBounds_toArray, List.set_cons_zero, List.set_cons_succ]
    refine wpAnyH_ready (rs := [8]) (by kernel_rfl) (by simp) ?_
    refine AllReadyH.cons rfl (fun K hK => ?_) AllReadyH.nil
    try simp only [List.getElem_toArray, List.getElem_cons_zero, List.getElem_cons_succ]
    go_simp
    go_at_call 20
    refine (HC.out _ _ _ (rM.later (by repeat (first | exact Below.refl _ _ | assumption | (refine below_drewN ?_ _) | (refine Below.drew ?_) | (refine Below.alloc ?_ (by first | omega | (simp; omega) | simp) _) | (refine Below.setCell ?_ (by first | omega | (simp; omega) | simp) _) | (refine below_trans ?_ (by assumption) (by first | omega | (simp; omega) | simp))))) (capC oM)).mono ?_
    rintro e w9 ⟨rfl, hb_w9⟩
    have hs_w9 := hb_w9.size
    (try simp only [World.size_drew, World.heap_drewN, World.size_alloc] at hs_w9)
    have mw90 : w9.cell? ⟨g, nh * 3, none⟩ = some (.int .u64 a) := (hb_w9.cell (p := ⟨g, nh * 3, none⟩) (by first | omega | (simp; omega) | simp)).trans (by first | assumption | (simp [go_sem]; done) | exact (World.cell?_alloc_lt _ _ ⟨_, _, _⟩ (by first | omega | (simp; omega) | simp)).trans (by assumption))
    have mw91 : w9.cell? ⟨g, nh * 3 + 1, none⟩ = some (.int .u8 kk) := (hb_w9.cell (p := ⟨g, nh * 3 + 1, none⟩) (by first | omega | (simp; omega) | simp)).trans (by first | assumption | (simp [go_sem]; done) | exact (World.cell?_alloc_lt _ _ ⟨_, _, _⟩ (by first | omega | (simp; omega) | simp)).trans (by assumption))
    have mw92 : w9.cell? ⟨g, nh * 3 + 2, none⟩ = some (.int .u64 t) := (hb_w9.cell (p := ⟨g, nh * 3 + 2, none⟩) (by first | omega | (simp; omega) | simp)).trans (by first | assumption | (simp [go_sem]; done) | exact (World.cell?_alloc_lt _ _ ⟨_, _, _⟩ (by first | omega | (simp; omega) | simp)).trans (by assumption))
    have mw93 : w9.cell? ⟨w.heap.size, 0, none⟩ = some (.int .u64 a) := (hb_w9.cell (p := ⟨w.heap.size, 0, none⟩) (by first | omega | (simp; omega) | simp)).trans (by first | assumption | (simp [go_sem]; done) | exact (World.cell?_alloc_lt _ _ ⟨_, _, _⟩ (by first | omega | (simp; omega) | simp)).trans (by assumption))
    have mw94 : w9.cell? ⟨w.heap.size, 1, none⟩ = some (.int .u8 kk) := (hb_w9.cell (p := ⟨w.heap.size, 1, none⟩) (by first | omega | (simp; omega) | simp)).trans (by first | assumption | (simp [go_sem]; done) | exact (World.cell?_alloc_lt _ _ ⟨_, _, _⟩ (by first | omega | (simp; omega) | simp)).trans (by assumption))
    have mw95 : w9.cell? ⟨w.heap.size, 2, none⟩ = some (.int .u64 t) := (hb_w9.cell (p := ⟨w.heap.size, 2, none⟩) (by first | omega | (simp; omega) | simp)).trans (by first | assumption | (simp [go_sem]; done) | exact (World.cell?_alloc_lt _ _ ⟨_, _, _⟩ (by first | omega | (simp; omega) | simp)).trans (by assumption))
    try go_wp2_with fail
    refine hK.out _ _ ?_ (fun hHeld => ?_)
    · (try dsimp only); refine ⟨?_, ?_, ?_, ?_, ?_, ?_⟩ <;> first | assumption | (simp [go_sem]; done)
    clear hK K
    try simp only [Act.put, List.getElem_toArray, List.getElem_cons_zero, List.getElem_cons_succ, List.setIfInBounds_toArray, List.set_cons_zero, List.set_cons_succ]
    refine wpAnyH_take (i := 9) (v := ?_) rfl (by kernel_rfl) (by kernel_rfl) (by kernel_rfl) (fun _ _ _ h => h) (Or.inl ⟨by rfl, ?_⟩) (by assumption) ?_
    rotate_left
    · (intro w hSw; (try dsimp only at hSw); go_simp; first | done | with_reducible rfl)
    try simp only [Act.put, List.getElem_toArray, List.getElem_cons_zero, List.getElem_cons_succ, List.setIfInBounds_toArray, List.set_cons_zero, List.set_cons_succ]
    refine wpAnyH_ready (rs := [10]) (by kernel_rfl) (by simp) ?_
    refine AllReadyH.cons rfl (fun K hK => ?_) AllReadyH.nil
    try simp only [List.getElem_toArray, List.getElem_cons_zero, List.getElem_cons_succ]
    go_simp
    refine hK.out _ _ ?_ (fun hHeld => ?_)
    · (try dsimp only); refine ⟨?_, ?_, ?_, ?_, ?_, ?_⟩ <;> first | assumption | (simp [go_sem]; done)
    clear hK K
    try simp only [Act.put, List.getElem_toArray, List.getElem_cons_zero, List.getElem_cons_succ, List.setIfInBounds_toArray, List.set_cons_zero, List.set_cons_succ]
    refine wpAnyH_take (i := 11) (v := ?_) rfl (by kernel_rfl) (by kernel_rfl) (by kernel_rfl) (fun _ _ _ h => h) (Or.inl ⟨by rfl, ?_⟩) (by assumption) ?_
    rotate_left
    · (intro w hSw; (try dsimp only at hSw); go_simp; first | done | with_reducible rfl)
    try simp only [Act.put, List.getElem_toArray, List.getElem_cons_zero, List.getElem_cons_succ, List.setIfInBounds_toArray, List.set_cons_zero, List.set_cons_succ]
    refine wpAnyH_take (i := 12) (v := ?_) rfl (by kernel_rfl) (by kernel_rfl) (by kernel_rfl) (fun _ _ _ h => h) (Or.inl ⟨by rfl, ?_⟩) (by assumption) ?_
    rotate_left
    · (intro w hSw; (try dsimp only at hSw); go_simp; first | done | with_reducible rfl)
    try simp only [Act.put, List.getElem_toArray, List.getElem_cons_zero, List.getElem_cons_succ, List.setIfInBounds_toArray, List.set_cons_zero, List.set_cons_succ]
    refine wpAnyH_take (i := 13) (v := ?_) rfl (by kernel_rfl) (by kernel_rfl) (by kernel_rfl) (fun _ _ _ h => h) (Or.inl ⟨by rfl, ?_⟩) (by assumption) ?_
    rotate_left
    · (intro w hSw; (try dsimp only at hSw); go_simp; first | done | with_reducible rfl)
    try simp only [Act.put, List.getElem_toArray, List.getElem_cons_zero, List.getElem_cons_succ, List.setIfInBounds_toArray, List.set_cons_zero, List.set_cons_succ]
    refine wpAnyH_take (i := 14) (v := ?_) rfl (by kernel_rfl) (by kernel_rfl) (by kernel_rfl) (fun _ _ _ h => h) (Or.inl ⟨by rfl, ?_⟩) (by assumption) ?_
    rotate_left
    · (intro w hSw; (try dsimp only at hSw); go_simp; first | done | with_reducible rfl)
    try simp only [Act.put, List.getElem_toArray, List.getElem_cons_zero, List.getElem_cons_succ, List.setIfInBounds_toArray, List.set_cons_zero, List.set_cons_succ]
    refine wpAnyH_take (i := 15) (v := ?_) rfl (by kernel_rfl) (by kernel_rfl) (by kernel_rfl) (fun _ _ _ h => h) (Or.inl ⟨by rfl, ?_⟩) (by assumption) ?_
    rotate_left
    · (intro w hSw; (try dsimp only at hSw); go_simp; first | done | with_reducible rfl)
    try simp only [Act.put, List.getElem_toArray, List.getElem_cons_zero, List.getElem_cons_succ, List.setIfInBounds_toArray, List.set_cons_zero, List.set_cons_succ]
    refine wpAnyH_take (i := 16) (v := ?_) rfl (by kernel_rfl) (by kernel_rfl) (by kernel_rfl) (fun _ _ _ h => h) (Or.inl ⟨by rfl, ?_⟩) (by assumption) ?_
    rotate_left
    · (intro w hSw; (try dsimp only at hSw); go_simp; first | done | with_reducible rfl)
    try simp only [Act.put, List.getElem_toArray, List.getElem_cons_zero, List.getElem_cons_succ, List.setIfInBounds_toArray, List.set_cons_zero, List.set_cons_succ]
    refine wpAnyH_take (i := 17) (v := ?_) rfl (by kernel_rfl) (by kernel_rfl) (by kernel_rfl) (fun _ _ _ h => h) (Or.inl ⟨by rfl, ?_⟩) (by assumption) ?_
    rotate_left
    · (intro w hSw; (try dsimp only at hSw); go_simp; first | done | with_reducible rfl)
    try simp only [Act.put, List.getElem_toArray, List.getElem_cons_zero, List.getElem_cons_succ, List.setIfInBounds_toArray, List.set_cons_zero, List.set_cons_succ]
    refine wpAnyH_ready (rs := [18]) (by kernel_rfl) (by simp) ?_
    refine AllReadyH.cons rfl (fun K hK => ?_) AllReadyH.nil
    try simp only [List.getElem_toArray, List.getElem_cons_zero, List.getElem_cons_succ]
    go_simp
    refine hK.out _ _ ?_ (fun hHeld => ?_)
    · (try dsimp only); refine ⟨?_, ?_, ?_, ?_, ?_, ?_⟩ <;> first | assumption | (simp [go_sem]; done)
    clear hK K
    try simp only [Act.put, List.getElem_toArray, List.getElem_cons_zero, List.getElem_cons_succ, List.setIfInBounds_toArray, List.set_cons_zero, List.set_cons_succ]
    refine wpAnyH_take (i := 19) (v := ?_) rfl (by kernel_rfl) (by kernel_rfl) (by kernel_rfl) (fun _ _ _ h => h) (Or.inl ⟨by rfl, ?_⟩) (by assumption) ?_
    rotate_left
    · (intro w hSw; (try dsimp only at hSw); go_simp; first | done | with_reducible rfl)
    try simp only [Act.put, List.getElem_toArray, List.getElem_cons_zero, List.getElem_cons_succ, List.setIfInBounds_toArray, List.set_cons_zero, List.set_cons_succ]
    refine wpAnyH_take (i := 20) (v := ?_) rfl (by kernel_rfl) (by kernel_rfl) (by kernel_rfl) (fun _ _ _ h => h) (Or.inl ⟨by rfl, ?_⟩) (by assumption) ?_
    rotate_left
    · (intro w hSw; (try dsimp only at hSw); go_simp; first | done | with_reducible rfl)
    try simp only [Act.put, List.getElem_toArray, List.getElem_cons_zero, List.getElem_cons_succ, List.setIfInBounds_toArray, List.set_cons_zero, List.set_cons_succ]
    refine wpAnyH_take (i := 21) (v := ?_) rfl (by kernel_rfl) (by kernel_rfl) (by kernel_rfl) (fun _ _ _ h => h) (Or.inl ⟨by rfl, ?_⟩) (by assumption) ?_
    rotate_left
    · (intro w hSw; (try dsimp only at hSw); go_simp; first | done | with_reducible rfl)
    try simp only [Act.put, List.getElem_toArray, List.getElem_cons_zero, List.getElem_cons_succ, List.setIfInBounds_toArray, List.set_cons_zero, List.set_cons_succ]
    refine wpAnyH_take (i := 22) (v := ?_) rfl (by kernel_rfl) (by kernel_rfl) (by kernel_rfl) (fun _ _ _ h => h) (Or.inl ⟨by rfl, ?_⟩) (by assumption) ?_
    rotate_left
    · (intro w hSw; (try dsimp only at hSw); go_simp; first | done | with_reducible rfl)
    try simp only [Act.put, List.getElem_toArray, List.getElem_cons_zero, List.getElem_cons_succ, List.setIfInBounds_toArray, List.set_cons_zero, List.set_cons_succ]
    refine wpAnyH_take (i := 23) (v := ?_) rfl (by kernel_rfl) (by kernel_rfl) (by kernel_rfl) (fun _ _ _ h => h) (Or.inl ⟨by rfl, ?_⟩) (by assumption) ?_
    rotate_left
    · (intro w hSw; (try dsimp only at hSw); go_simp; first | done | with_reducible rfl)
    try simp only [Act.put, List.getElem_toArray, List.getElem_cons_zero, List.getElem_cons_succ, List.setIfInBounds_toArray, List.set_cons_zero, List.set_cons_succ]
    refine wpAnyH_take (i := 24) (v := ?_) rfl (by kernel_rfl) (by kernel_rfl) (by kernel_rfl) (fun _ _ _ h => h) (Or.inl ⟨by rfl, ?_⟩) (by assumption) ?_
    rotate_left
    · (intro w hSw; (try dsimp only at hSw); go_simp; first | done | with_reducible rfl)
    try simp only [Act.put, List.getElem_toArray, List.getElem_cons_zero, List.getElem_cons_succ, List.setIfInBounds_toArray, List.set_cons_zero, List.set_cons_succ]
    refine wpAnyH_take (i := 25) (v := ?_) rfl (by kernel_rfl) (by kernel_rfl) (by kernel_rfl) (fun _ _ _ h => h) (Or.inl ⟨by rfl, ?_⟩) (by assumption) ?_
    rotate_left
    · (intro w hSw; (try dsimp only at hSw); go_simp; first | done | with_reducible rfl)
    try simp only [Act.put, List.getElem_toArray, List.getElem_cons_zero, List.getElem_cons_succ, List.setIfInBounds_toArray, List.set_cons_zero, List.set_cons_succ]
    refine wpAnyH_take (i := 26) (v := ?_) rfl (by kernel_rfl) (by kernel_rfl) (by kernel_rfl) (fun _ _ _ h => h) (Or.inl ⟨by rfl, ?_⟩) (by assumption) ?_
    rotate_left
    · (intro w hSw; (try dsimp only at hSw); go_simp; first | done | with_reducible rfl)
    try simp only [Act.put, List.getElem_toArray, List.getElem_cons_zero, List.getElem_cons_succ, List.setIfInBounds_toArray, List.set_cons_zero, List.set_cons_succ]
    refine wpAnyH_take (i := 27) (v := ?_) rfl (by kernel_rfl) (by kernel_rfl) (by kernel_rfl) (fun _ _ _ h => h) (Or.inl ⟨by rfl, ?_⟩) (by assumption) ?_
    rotate_left
    · (intro w hSw; (try dsimp only at hSw); go_simp; first | done | with_reducible rfl)
    try simp only [Act.put, List.getElem_toArray, List.getElem_cons_zero, List.getElem_cons_succ, List.setIfInBounds_toArray, List.set_cons_zero, List.set_cons_succ]
    refine wpAnyH_ready (rs := [28]) (by kernel_rfl) (by simp) ?_
    refine AllReadyH.cons rfl (fun K hK => ?_) AllReadyH.nil
    try simp only [List.getElem_toArray, List.getElem_cons_zero, List.getElem_cons_succ]
    go_simp
    refine hK.out _ _ ?_ (fun hHeld => ?_)
    · (try dsimp only); refine ⟨?_, ?_, ?_, ?_, ?_, ?_⟩ <;> first | assumption | (simp [go_sem]; done)
    clear hK K
    try simp only [Act.put, List.getElem_toArray, List.getElem_cons_zero, List.getElem_cons_succ, List.setIfInBounds_toArray, List.set_cons_zero, List.set_cons_succ]
    refine wpAnyH_done (by kernel_rfl) ?_ _
    by_cases h0 : 0 < nh
    · have d0 : decide (0 < nh) = true := decide_eq_true h0
      have d1 : decide ((0 : Int) < (nh : Int)) = true := decide_eq_true (by omega)
      clear h0
      go_wp2
      go_ret
      exact ⟨rfl, (by repeat (first | exact Below.refl _ _ | assumption | (refine below_drewN ?_ _) | (refine Below.drew ?_) | (refine Below.alloc ?_ (by first | omega | (simp; omega) | simp) _) | (refine Below.setCell ?_ (by first | omega | (simp; omega) | simp) _) | (refine below_trans ?_ (by assumption) (by first | omega | (simp; omega) | simp))))⟩
    · obtain rfl : nh = 0 := by omega
      have HLM := Lib.hid (hleft (List.eq_nil_of_length_eq_zero HNH.out))
      have HSM := Lib.hid fun (w : World) hr hq => xsameC_any (w := w) (A := B5) (C := A) (l := lm) (m := l) c5 cap hr hq (by rw [HLM.out]; exact hl) hl true ⟨fun _ => HLM.out, fun _ => rfl⟩
      clear hleft
      go_wp2_with fail
      go_at_call 17
      refine (HSM.out _ (r5l.later (by repeat (first | exact Below.refl _ _ | assumption | (refine below_drewN ?_ _) | (refine Below.drew ?_) | (refine Below.alloc ?_ (by first | omega | (simp; omega) | simp) _) | (refine Below.setCell ?_ (by first | omega | (simp; omega) | simp) _) | (refine below_trans ?_ (by assumption) (by first | omega | (simp; omega) | simp))))) ((hr.later b5).later (by repeat (first | exact Below.refl _ _ | assumption | (refine below_drewN ?_ _) | (refine Below.drew ?_) | (refine Below.alloc ?_ (by first | omega | (simp; omega) | simp) _) | (refine Below.setCell ?_ (by first | omega | (simp; omega) | simp) _) | (refine below_trans ?_ (by assumption) (by first | omega | (simp; omega) | simp)))))).mono ?_
      rintro e w8 ⟨rfl, hb_w8⟩
      go_wp2
      go_ret
      exact ⟨rfl, (by repeat (first | exact Below.refl _ _ | assumption | (refine below_drewN ?_ _) | (refine Below.drew ?_) | (refine Below.alloc ?_ (by first | omega | (simp; omega) | simp) _) | (refine Below.setCell ?_ (by first | omega | (simp; omega) | simp) _) | (refine below_trans ?_ (by assumption) (by first | omega | (simp; omega) | simp))))⟩
  · have HT1 := Lib.hid fun (w : World) hr => ctakeL_any (w := w) (A := A) (l := l) cap hr hcl hl s.a s.k _ _ _ (.inl ⟨hok, rfl, rfl, rfl⟩)
    have HA := Lib.hid fun (w : World) (M : Option Addr) hr hm => cadd_any (w := w) (A := A) (M := M) (l := l) (more := [s]) cap 1 hr hcl hl hnil hm (by simp) _ _ hE
    have HSM := Lib.hid fun (w : World) (C : Option Addr) (cc : Nat) hr hq => xsameC_any (w := w) (A := A) (C := C) (l := l) (m := l) cap cc hr hq hl hl true ⟨fun _ => rfl, fun _ => rfl⟩
    have hyn : (y != 0) = true := by simpa using hy0
    simp only [List.length_cons, List.length_nil, Nat.zero_add] at HA
    have HN := Lib.hid fun (w : World) (g : Nat) hg => crow_newG w g [s] 41 hg
    clear hok hE hry hy0
    obtain ⟨a, kk, t⟩ := s
    unfold scv
    simp only at *
    by_cases h2 : y = 2
    · subst h2
      go_enter Try.func5, Try.ntmps5
      go_wp2_with fail
      go_at_call 16
      refine (clives_any _).mono ?_
      rintro e w1 ⟨rfl, hb_w1⟩
      obtain ⟨hc_w1, hf_w1⟩ := bcell hb_w1; have hz_w1_w_0 : w.heap.size < w1.heap.size := (by have hzz := hb_w1.size; (try simp only [World.size_alloc, World.size_setCell, World.size_drew, World.heap_drewN] at hzz); omega); have hs_w1 := hb_w1.size; (try simp only [World.size_alloc, World.size_setCell, World.size_drew, World.heap_drewN] at hs_w1)
      go_wp2_with fail
      go_at_call 14
      refine (HT1.out _ (hr.later (by repeat (first | exact Below.refl _ _ | assumption | (refine below_drewN ?_ _) | (refine Below.drew ?_) | (refine Below.alloc ?_ (by first | omega | (simp; omega) | simp) _) | (refine Below.setCell ?_ (by first | omega | (simp; omega) | simp) _) | (refine below_trans ?_ (by assumption) (by first | omega | (simp; omega) | simp)))))).mono ?_
      rintro e w3 ⟨B3, c3, C3, d3, rfl, o3, o3', hb_w3⟩
      obtain ⟨hc_w3, hf_w3⟩ := bcell hb_w3; have hz_w3_w_0 : w.heap.size < w3.heap.size := (by have hzz := hb_w3.size; (try simp only [World.size_alloc, World.size_setCell, World.size_drew, World.heap_drewN] at hzz); omega); have hs_w3 := hb_w3.size; (try simp only [World.size_alloc, World.size_setCell, World.size_drew, World.heap_drewN] at hs_w3)
      go_wp2_with fail
      go_at_call 10
      refine (HA.out _ _ (hr.later (by repeat (first | exact Below.refl _ _ | assumption | (refine below_drewN ?_ _) | (refine Below.drew ?_) | (refine Below.alloc ?_ (by first | omega | (simp; omega) | simp) _) | (refine Below.setCell ?_ (by first | omega | (simp; omega) | simp) _) | (refine below_trans ?_ (by assumption) (by first | omega | (simp; omega) | simp))))) (by exact HN.out _ _ rfl)).mono ?_
      rintro e w4 ⟨B4, c4, rfl, o4, hb_w4⟩
      obtain ⟨hc_w4, hf_w4⟩ := bcell hb_w4; have hz_w4_w_0 : w.heap.size < w4.heap.size := (by have hzz := hb_w4.size; (try simp only [World.size_alloc, World.size_setCell, World.size_drew, World.heap_drewN] at hzz); omega); have hs_w4 := hb_w4.size; (try simp only [World.size_alloc, World.size_setCell, World.size_drew, World.heap_drewN] at hs_w4)
      go_wp2
      go_ret
      exact ⟨rfl, (by repeat (first | exact Below.refl _ _ | assumption | (refine below_drewN ?_ _) | (refine Below.drew ?_) | (refine Below.alloc ?_ (by first | omega | (simp; omega) | simp) _) | (refine Below.setCell ?_ (by first | omega | (simp; omega) | simp) _) | (refine below_trans ?_ (by assumption) (by first | omega | (simp; omega) | simp))))⟩
    · have h2n : (y == 2) = false := by simpa using h2
      clear h2
      go_enter Try.func5, Try.ntmps5
      go_wp2_with fail
      go_at_call 16
      refine (clives_any _).mono ?_
      rintro e w1 ⟨rfl, hb_w1⟩
      obtain ⟨hc_w1, hf_w1⟩ := bcell hb_w1; have hz_w1_w_0 : w.heap.size < w1.heap.size := (by have hzz := hb_w1.size; (try simp only [World.size_alloc, World.size_setCell, World.size_drew, World.heap_drewN] at hzz); omega); have hs_w1 := hb_w1.size; (try simp only [World.size_alloc, World.size_setCell, World.size_drew, World.heap_drewN] at hs_w1)
      go_wp2_with fail
      go_at_call 14
      refine (HT1.out _ (hr.later (by repeat (first | exact Below.refl _ _ | assumption | (refine below_drewN ?_ _) | (refine Below.drew ?_) | (refine Below.alloc ?_ (by first | omega | (simp; omega) | simp) _) | (refine Below.setCell ?_ (by first | omega | (simp; omega) | simp) _) | (refine below_trans ?_ (by assumption) (by first | omega | (simp; omega) | simp)))))).mono ?_
      rintro e w3 ⟨B3, c3, C3, d3, rfl, o3, o3', hb_w3⟩
      obtain ⟨hc_w3, hf_w3⟩ := bcell hb_w3; have hz_w3_w_0 : w.heap.size < w3.heap.size := (by have hzz := hb_w3.size; (try simp only [World.size_alloc, World.size_setCell, World.size_drew, World.heap_drewN] at hzz); omega); have hs_w3 := hb_w3.size; (try simp only [World.size_alloc, World.size_setCell, World.size_drew, World.heap_drewN] at hs_w3)
      go_wp2_with fail
      go_at_call 10
      refine (HA.out _ _ (hr.later (by repeat (first | exact Below.refl _ _ | assumption | (refine below_drewN ?_ _) | (refine Below.drew ?_) | (refine Below.alloc ?_ (by first | omega | (simp; omega) | simp) _) | (refine Below.setCell ?_ (by first | omega | (simp; omega) | simp) _) | (refine below_trans ?_ (by assumption) (by first | omega | (simp; omega) | simp))))) (by exact HN.out _ _ rfl)).mono ?_
      rintro e w4 ⟨B4, c4, rfl, o4, hb_w4⟩
      obtain ⟨hc_w4, hf_w4⟩ := bcell hb_w4; have hz_w4_w_0 : w.heap.size < w4.heap.size := (by have hzz := hb_w4.size; (try simp only [World.size_alloc, World.size_setCell, World.size_drew, World.heap_drewN] at hzz); omega); have hs_w4 := hb_w4.size; (try simp only [World.size_alloc, World.size_setCell, World.size_drew, World.heap_drewN] at hs_w4)
      have r4 := CRow.of_owns o4
      go_wp2_with fail
      go_at_call 17
      refine (HSM.out _ _ _ (hr.later (by repeat (first | exact Below.refl _ _ | assumption | (refine below_drewN ?_ _) | (refine Below.drew ?_) | (refine Below.alloc ?_ (by first | omega | (simp; omega) | simp) _) | (refine Below.setCell ?_ (by first | omega | (simp; omega) | simp) _) | (refine below_trans ?_ (by assumption) (by first | omega | (simp; omega) | simp))))) (r4.later (by repeat (first | exact Below.refl _ _ | assumption | (refine below_drewN ?_ _) | (refine Below.drew ?_) | (refine Below.alloc ?_ (by first | omega | (simp; omega) | simp) _) | (refine Below.setCell ?_ (by first | omega | (simp; omega) | simp) _) | (refine below_trans ?_ (by assumption) (by first | omega | (simp; omega) | simp)))))).mono ?_
      rintro e w5 ⟨rfl, hb_w5⟩
      obtain ⟨hc_w5, hf_w5⟩ := bcell hb_w5; have hz_w5_w_0 : w.heap.size < w5.heap.size := (by have hzz := hb_w5.size; (try simp only [World.size_alloc, World.size_setCell, World.size_drew, World.heap_drewN] at hzz); omega); have hs_w5 := hb_w5.size; (try simp only [World.size_alloc, World.size_setCell, World.size_drew, World.heap_drewN] at hs_w5)
      go_wp2
      go_ret
      exact ⟨rfl, (by repeat (first | exact Below.refl _ _ | assumption | (refine below_drewN ?_ _) | (refine Below.drew ?_) | (refine Below.alloc ?_ (by first | omega | (simp; omega) | simp) _) | (refine Below.setCell ?_ (by first | omega | (simp; omega) | simp) _) | (refine below_trans ?_ (by assumption) (by first | omega | (simp; omega) | simp))))⟩
end Go.Proofs.Ytamnfgpoelbgcaa
