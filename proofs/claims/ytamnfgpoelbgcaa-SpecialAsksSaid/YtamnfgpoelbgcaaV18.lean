/- The questions about specials whose answers the document gives (lives). -/
import Derived.Test.YtamnfgpoelbgcaaV17
namespace Go.Proofs.Ytamnfgpoelbgcaa
open Go.RowKit
set_option linter.unusedVariables false
set_option linter.unusedSimpArgs false

def sa : Sc := ⟨16, 2, 1⟩
def sb : Sc := ⟨32, 1, 2⟩
def sc : Sc := ⟨16, 2, 3⟩
theorem crow_new (w : World) (l : List Sc) (t : TypeId) : CRow (w.alloc (.cells (flat l).toArray t)) (w.heap.size + 1) (some ⟨w.heap.size, 0, none⟩) l :=
  ⟨fun _ => ⟨w.heap.size, 0, rfl, by omega, fun i hi => by
    obtain ⟨f0, f1, f2⟩ := flat_at l i hi
    have hg := heap_alloc_new w (.cells (flat l).toArray t)
    rw [Nat.zero_add]
    exact ⟨by rw [cell_of_row _ _ _ _ _ _ hg]; simpa using f0, by rw [cell_of_row _ _ _ _ _ _ hg]; simpa using f1, by rw [cell_of_row _ _ _ _ _ _ hg]; simpa using f2⟩⟩⟩
theorem crow_newS (w : World) (l : List Sc) (t : TypeId) : CRow (w.alloc (.cells (flat l).toArray t)) (w.alloc (.cells (flat l).toArray t)).heap.size (some ⟨w.heap.size, 0, none⟩) l := by
  rw [World.size_alloc]
  exact crow_new w l t
theorem crow_newG (w : World) (g : Nat) (l : List Sc) (t : TypeId) (hg : w.heap.size = g) : CRow (w.alloc (.cells (flat l).toArray t)) (w.alloc (.cells (flat l).toArray t)).heap.size (some ⟨g, 0, none⟩) l := by
  subst hg
  exact crow_newS w l t
theorem okC_nil : OkC [] := ⟨by simp, good_nil⟩
theorem lives_st : ∀ j, j < 3 → refC (stC [] [sa, sb, sc] j) (nthC [sa, sb, sc] j) = 0 := by
  intro j hj
  match j, hj with
  | 0, _ => decide
  | 1, _ => decide
  | 2, _ => decide
theorem lives_L : stC [] [sa, sb, sc] 3 = [sa, sc, sb] := by rfl
theorem okC_L : OkC [sa, sc, sb] := by
  have := stC_ok (l := []) (more := [sa, sb, sc]) okC_nil 3 lives_st
  rwa [lives_L] at this
theorem adds_L : AddE [] [sa, sb, sc] [sa, sc, sb] 0 := .inr (.inl ⟨okC_nil, lives_st, lives_L.symm, rfl⟩)
theorem adds_L2 : AddE [sa, sc, sb] [sb] [sa, sc, sb] 4 := .inr (.inr ⟨0, okC_L, by decide, fun j hj => by omega, by decide, by decide, rfl⟩)
theorem of_L : OfE [sa, sc, sb] (ofP 16) [sa, sc] 0 := .inl ⟨okC_L, by rfl, rfl⟩
theorem take_L : TakeE [sa, sc, sb] 16 2 [sb] [sa, sc] 0 := .inl ⟨okC_L, by rfl, by rfl, rfl⟩
set_option maxHeartbeats 4000000 in
theorem clives_any (w : World) : Calls Try.prog 16 #[] w fun e w' => e = .returned (.bool true) ∧ Below w.heap.size w w' := by
  have HA : Hid (∀ (W : World) (M : Option Addr), CRow W W.heap.size M [sa, sb, sc] → Calls Try.prog 10 #[.slice none 0 0, .slice M 3 3] W fun e W' => ∃ B cb, e = .returned (.tuple #[.slice B 3 cb, .int .i64 0]) ∧ OwnsC W' W.heap.size (.slice B 3 cb) [sa, sc, sb] ∧ Below W.heap.size W W') := Lib.hid fun W M hM =>
    cadd_any (w := W) (A := none) (M := M) (l := []) (more := [sa, sb, sc]) 0 3 (CRow.nil _ _ _) (by simp) (by simp) (fun _ => rfl) hM (by simp) _ _ adds_L
  have HA2 : Hid (∀ (W : World) (A M : Option Addr) (cap : Nat), 3 ≤ cap → A ≠ none → CRow W W.heap.size A [sa, sc, sb] → CRow W W.heap.size M [sb] → Calls Try.prog 10 #[.slice A 3 cap, .slice M 1 1] W fun e W' => ∃ B cb, e = .returned (.tuple #[.slice B 3 cb, .int .i64 4]) ∧ Below W.heap.size W W') := Lib.hid fun W A M cap hc hA hL hM =>
    (cadd_any (w := W) (A := A) (M := M) (l := [sa, sc, sb]) (more := [sb]) cap 1 hL hc (by simp) (fun h => absurd h hA) hM (by simp) _ _ adds_L2).mono fun e W' ⟨B, cb, h1, _, h2⟩ => ⟨B, cb, h1, h2⟩
  have HO : Hid (∀ (W : World) (A : Option Addr) (cap : Nat), 3 ≤ cap → CRow W W.heap.size A [sa, sc, sb] → Calls Try.prog 12 #[.slice A 3 cap, .int .u64 16] W fun e W' => ∃ B cb, e = .returned (.tuple #[.slice B 2 cb, .int .i64 0]) ∧ Below W.heap.size W W') := Lib.hid fun W A cap hc hL =>
    (cofL_any (w := W) (A := A) (l := [sa, sc, sb]) cap hL hc (by simp) 16 _ _ of_L).mono fun e W' ⟨B, cb, h1, _, h2⟩ => ⟨B, cb, h1, h2⟩
  have HT : Hid (∀ (W : World) (A : Option Addr) (cap : Nat), 3 ≤ cap → CRow W W.heap.size A [sa, sc, sb] → Calls Try.prog 14 #[.slice A 3 cap, .int .u64 16, .int .u8 2] W fun e W' => ∃ B cb B2 cb2, e = .returned (.tuple #[.slice B 1 cb, .slice B2 2 cb2, .int .i64 0]) ∧ Below W.heap.size W W') := Lib.hid fun W A cap hc hL =>
    (ctakeL_any (w := W) (A := A) (l := [sa, sc, sb]) cap hL hc (by simp) 16 2 _ _ _ take_L).mono fun e W' ⟨B, cb, B2, cb2, h1, _, _, h2⟩ => ⟨B, cb, B2, cb2, h1, h2⟩
  have HD : Hid (∀ (W : World) (A : Option Addr) (cap : Nat), 3 ≤ cap → CRow W W.heap.size A [sa, sc, sb] → Calls Try.prog 18 #[.slice A 3 cap, .int .u8 2] W fun e W' => ∃ g c', e = .returned (.tuple #[.slice (some ⟨g, 0, none⟩) 1 c', .int .i64 0]) ∧ W'.cell? ⟨g, 0, none⟩ = some (.int .u64 16) ∧ g < W'.heap.size ∧ Below W.heap.size W W') := Lib.hid fun W A cap hc hL =>
    caddrs_two (w := W) (A := A) (l := [sa, sc, sb]) cap hL hc okC_L 2 16 (by rfl)
  have HC : Hid (∀ (W : World) (A : Option Addr) (cap : Nat), 3 ≤ cap → CRow W W.heap.size A [sa, sc, sb] → Calls Try.prog 20 #[.slice A 3 cap] W fun e W' => e = .returned (.int .i64 0) ∧ Below W.heap.size W W') := Lib.hid fun W A cap hc hL =>
    ccheck_any (w := W) (A := A) (l := [sa, sc, sb]) cap hL hc (by simp) 0 (.inl ⟨okC_L, rfl⟩)
  go_enter Try.func16, Try.ntmps16
  go_wp2_with fail
  go_at_call 10
  refine (HA.out _ _ (by exact crow_newG _ _ [sa, sb, sc] _ (by simp))).mono ?_
  rintro e w4 ⟨B4, cb4, rfl, oL, hb_w4⟩
  obtain ⟨hc_w4, hf_w4⟩ := bcell hb_w4; have hz_w4_w_0 : w.heap.size < w4.heap.size := (by have hzz := hb_w4.size; (try simp only [World.size_alloc, World.size_setCell, World.size_drew, World.heap_drewN] at hzz); omega); have hz_w4_w_1 : w.heap.size + 1 < w4.heap.size := (by have hzz := hb_w4.size; (try simp only [World.size_alloc, World.size_setCell, World.size_drew, World.heap_drewN] at hzz); omega); have hz_w4_w_2 : w.heap.size + 2 < w4.heap.size := (by have hzz := hb_w4.size; (try simp only [World.size_alloc, World.size_setCell, World.size_drew, World.heap_drewN] at hzz); omega); have hs_w4 := hb_w4.size; (try simp only [World.size_alloc, World.size_setCell, World.size_drew, World.heap_drewN] at hs_w4)
  obtain ⟨g, rfl, hcb, hgB, hgl⟩ := some_of_owns oL (by decide)
  have rL := CRow.of_owns (of_ownsC (l := [sa, sc, sb]) rfl oL)
  have q1 : Sp3 w4 g 3 sc := by
    obtain ⟨b, off, e, _, hc⟩ := rL.at_ (by decide)
    injection e with e
    injection e with e1 e2
    subst e1 e2
    exact hc 1 (by decide)
  have q2 : Sp3 w4 g 6 sb := by
    obtain ⟨b, off, e, _, hc⟩ := rL.at_ (by decide)
    injection e with e
    injection e with e1 e2
    subst e1 e2
    exact hc 2 (by decide)
  obtain ⟨x0, x1, x2⟩ := q1
  obtain ⟨y0, y1, y2⟩ := q2
  simp only [sb, sc] at x0 x1 x2 y0 y1 y2
  go_wp2_with fail
  go_at_call 12
  refine (HO.out _ _ _ hcb (rL.later (by repeat (first | exact Below.refl _ _ | assumption | (refine below_drewN ?_ _) | (refine Below.drew ?_) | (refine Below.alloc ?_ (by first | omega | (simp; omega) | simp) _) | (refine Below.setCell ?_ (by first | omega | (simp; omega) | simp) _) | (refine below_trans ?_ (by assumption) (by first | omega | (simp; omega) | simp)))))).mono ?_
  rintro e w5 ⟨B5, cb5, rfl, hb_w5⟩
  obtain ⟨hc_w5, hf_w5⟩ := bcell hb_w5; have hz_w5_w_0 : w.heap.size < w5.heap.size := (by have hzz := hb_w5.size; (try simp only [World.size_alloc, World.size_setCell, World.size_drew, World.heap_drewN] at hzz); omega); have hz_w5_w_1 : w.heap.size + 1 < w5.heap.size := (by have hzz := hb_w5.size; (try simp only [World.size_alloc, World.size_setCell, World.size_drew, World.heap_drewN] at hzz); omega); have hz_w5_w_2 : w.heap.size + 2 < w5.heap.size := (by have hzz := hb_w5.size; (try simp only [World.size_alloc, World.size_setCell, World.size_drew, World.heap_drewN] at hzz); omega); have hs_w5 := hb_w5.size; (try simp only [World.size_alloc, World.size_setCell, World.size_drew, World.heap_drewN] at hs_w5)
  have zg5 : g < w5.heap.size := by omega
  go_wp2_with fail
  go_at_call 10
  refine (HA2.out _ _ _ _ hcb (by simp) ((rL.later hb_w5).later (by repeat (first | exact Below.refl _ _ | assumption | (refine below_drewN ?_ _) | (refine Below.drew ?_) | (refine Below.alloc ?_ (by first | omega | (simp; omega) | simp) _) | (refine Below.setCell ?_ (by first | omega | (simp; omega) | simp) _) | (refine below_trans ?_ (by assumption) (by first | omega | (simp; omega) | simp))))) (by exact crow_newG _ _ [sb] _ (by simp))).mono ?_
  rintro e w6 ⟨B6, cb6, rfl, hb_w6⟩
  obtain ⟨hc_w6, hf_w6⟩ := bcell hb_w6; have hz_w6_w_0 : w.heap.size < w6.heap.size := (by have hzz := hb_w6.size; (try simp only [World.size_alloc, World.size_setCell, World.size_drew, World.heap_drewN] at hzz); omega); have hz_w6_w_1 : w.heap.size + 1 < w6.heap.size := (by have hzz := hb_w6.size; (try simp only [World.size_alloc, World.size_setCell, World.size_drew, World.heap_drewN] at hzz); omega); have hz_w6_w_2 : w.heap.size + 2 < w6.heap.size := (by have hzz := hb_w6.size; (try simp only [World.size_alloc, World.size_setCell, World.size_drew, World.heap_drewN] at hzz); omega); have hs_w6 := hb_w6.size; (try simp only [World.size_alloc, World.size_setCell, World.size_drew, World.heap_drewN] at hs_w6)
  have zg6 : g < w6.heap.size := by omega
  go_wp2_with fail
  go_at_call 14
  refine (HT.out _ _ _ hcb (((rL.later hb_w5).later (show Below w5.heap.size w5 w6 from (by repeat (first | exact Below.refl _ _ | assumption | (refine below_drewN ?_ _) | (refine Below.drew ?_) | (refine Below.alloc ?_ (by first | omega | (simp; omega) | simp) _) | (refine Below.setCell ?_ (by first | omega | (simp; omega) | simp) _) | (refine below_trans ?_ (by assumption) (by first | omega | (simp; omega) | simp)))))).later (by repeat (first | exact Below.refl _ _ | assumption | (refine below_drewN ?_ _) | (refine Below.drew ?_) | (refine Below.alloc ?_ (by first | omega | (simp; omega) | simp) _) | (refine Below.setCell ?_ (by first | omega | (simp; omega) | simp) _) | (refine below_trans ?_ (by assumption) (by first | omega | (simp; omega) | simp)))))).mono ?_
  rintro e w7 ⟨B7, cb7, B8, cb8, rfl, hb_w7⟩
  obtain ⟨hc_w7, hf_w7⟩ := bcell hb_w7; have hz_w7_w_0 : w.heap.size < w7.heap.size := (by have hzz := hb_w7.size; (try simp only [World.size_alloc, World.size_setCell, World.size_drew, World.heap_drewN] at hzz); omega); have hz_w7_w_1 : w.heap.size + 1 < w7.heap.size := (by have hzz := hb_w7.size; (try simp only [World.size_alloc, World.size_setCell, World.size_drew, World.heap_drewN] at hzz); omega); have hz_w7_w_2 : w.heap.size + 2 < w7.heap.size := (by have hzz := hb_w7.size; (try simp only [World.size_alloc, World.size_setCell, World.size_drew, World.heap_drewN] at hzz); omega); have hs_w7 := hb_w7.size; (try simp only [World.size_alloc, World.size_setCell, World.size_drew, World.heap_drewN] at hs_w7)
  have zg7 : g < w7.heap.size := by omega
  go_wp2_with fail
  go_at_call 18
  refine (HD.out _ _ _ hcb ((((rL.later hb_w5).later (show Below w5.heap.size w5 w6 from (by repeat (first | exact Below.refl _ _ | assumption | (refine below_drewN ?_ _) | (refine Below.drew ?_) | (refine Below.alloc ?_ (by first | omega | (simp; omega) | simp) _) | (refine Below.setCell ?_ (by first | omega | (simp; omega) | simp) _) | (refine below_trans ?_ (by assumption) (by first | omega | (simp; omega) | simp)))))).later hb_w7).later (by repeat (first | exact Below.refl _ _ | assumption | (refine below_drewN ?_ _) | (refine Below.drew ?_) | (refine Below.alloc ?_ (by first | omega | (simp; omega) | simp) _) | (refine Below.setCell ?_ (by first | omega | (simp; omega) | simp) _) | (refine below_trans ?_ (by assumption) (by first | omega | (simp; omega) | simp)))))).mono ?_
  rintro e w8 ⟨g9, c9, rfl, k9, l9, hb_w8⟩
  obtain ⟨hc_w8, hf_w8⟩ := bcell hb_w8; have hz_w8_w_0 : w.heap.size < w8.heap.size := (by have hzz := hb_w8.size; (try simp only [World.size_alloc, World.size_setCell, World.size_drew, World.heap_drewN] at hzz); omega); have hz_w8_w_1 : w.heap.size + 1 < w8.heap.size := (by have hzz := hb_w8.size; (try simp only [World.size_alloc, World.size_setCell, World.size_drew, World.heap_drewN] at hzz); omega); have hz_w8_w_2 : w.heap.size + 2 < w8.heap.size := (by have hzz := hb_w8.size; (try simp only [World.size_alloc, World.size_setCell, World.size_drew, World.heap_drewN] at hzz); omega); have hs_w8 := hb_w8.size; (try simp only [World.size_alloc, World.size_setCell, World.size_drew, World.heap_drewN] at hs_w8)
  have zg8 : g < w8.heap.size := by omega
  have rL8 := (((rL.later hb_w5).later (show Below w5.heap.size w5 w6 from (by repeat (first | exact Below.refl _ _ | assumption | (refine below_drewN ?_ _) | (refine Below.drew ?_) | (refine Below.alloc ?_ (by first | omega | (simp; omega) | simp) _) | (refine Below.setCell ?_ (by first | omega | (simp; omega) | simp) _) | (refine below_trans ?_ (by assumption) (by first | omega | (simp; omega) | simp)))))).later hb_w7).later hb_w8
  have b48 : Below w4.heap.size w4 w8 := (by repeat (first | exact Below.refl _ _ | assumption | (refine below_drewN ?_ _) | (refine Below.drew ?_) | (refine Below.alloc ?_ (by first | omega | (simp; omega) | simp) _) | (refine Below.setCell ?_ (by first | omega | (simp; omega) | simp) _) | (refine below_trans ?_ (by assumption) (by first | omega | (simp; omega) | simp))))
  have e0 : w8.cell? ⟨g, 3, none⟩ = some (.int .u64 16) := (b48.cell (p := ⟨g, 3, none⟩) (by first | omega | (simp; omega) | simp)).trans x0
  have e1 : w8.cell? ⟨g, 4, none⟩ = some (.int .u8 2) := (b48.cell (p := ⟨g, 4, none⟩) (by first | omega | (simp; omega) | simp)).trans x1
  have e2 : w8.cell? ⟨g, 5, none⟩ = some (.int .u64 3) := (b48.cell (p := ⟨g, 5, none⟩) (by first | omega | (simp; omega) | simp)).trans x2
  have e3 : w8.cell? ⟨g, 6, none⟩ = some (.int .u64 32) := (b48.cell (p := ⟨g, 6, none⟩) (by first | omega | (simp; omega) | simp)).trans y0
  have e4 : w8.cell? ⟨g, 7, none⟩ = some (.int .u8 1) := (b48.cell (p := ⟨g, 7, none⟩) (by first | omega | (simp; omega) | simp)).trans y1
  have e5 : w8.cell? ⟨g, 8, none⟩ = some (.int .u64 2) := (b48.cell (p := ⟨g, 8, none⟩) (by first | omega | (simp; omega) | simp)).trans y2
  have e6 : w8.cell? ⟨w.heap.size + 2, 0, none⟩ = some (.int .u64 16) := (b48.cell (p := ⟨w.heap.size + 2, 0, none⟩) (by first | omega | (simp; omega) | simp)).trans ((hc_w4 _ _ (by first | omega | (simp; omega) | simp)).trans (by simp [go_sem]))
  have e7 : w8.cell? ⟨w.heap.size + 2, 1, none⟩ = some (.int .u8 2) := (b48.cell (p := ⟨w.heap.size + 2, 1, none⟩) (by first | omega | (simp; omega) | simp)).trans ((hc_w4 _ _ (by first | omega | (simp; omega) | simp)).trans (by simp [go_sem]))
  have e8 : w8.cell? ⟨w.heap.size + 2, 2, none⟩ = some (.int .u64 3) := (b48.cell (p := ⟨w.heap.size + 2, 2, none⟩) (by first | omega | (simp; omega) | simp)).trans ((hc_w4 _ _ (by first | omega | (simp; omega) | simp)).trans (by simp [go_sem]))
  have e9 : w8.cell? ⟨w.heap.size + 1, 0, none⟩ = some (.int .u64 32) := (b48.cell (p := ⟨w.heap.size + 1, 0, none⟩) (by first | omega | (simp; omega) | simp)).trans ((hc_w4 _ _ (by first | omega | (simp; omega) | simp)).trans (by simp [go_sem]))
  have e10 : w8.cell? ⟨w.heap.size + 1, 1, none⟩ = some (.int .u8 1) := (b48.cell (p := ⟨w.heap.size + 1, 1, none⟩) (by first | omega | (simp; omega) | simp)).trans ((hc_w4 _ _ (by first | omega | (simp; omega) | simp)).trans (by simp [go_sem]))
  have e11 : w8.cell? ⟨w.heap.size + 1, 2, none⟩ = some (.int .u64 2) := (b48.cell (p := ⟨w.heap.size + 1, 2, none⟩) (by first | omega | (simp; omega) | simp)).trans ((hc_w4 _ _ (by first | omega | (simp; omega) | simp)).trans (by simp [go_sem]))
  clear hc_w4 hf_w4 hc_w5 hf_w5 hc_w6 hf_w6 hc_w7 hf_w7 hc_w8 hf_w8
  go_wp2_with fail
  simp only [List.append_eq, List.cons_append, List.nil_append]
  go_region_held3 (fun X : World => X.cell? ⟨g, 3, none⟩ = some (.int .u64 16) ∧ X.cell? ⟨g, 4, none⟩ = some (.int .u8 2) ∧ X.cell? ⟨g, 5, none⟩ = some (.int .u64 3) ∧ X.cell? ⟨g, 6, none⟩ = some (.int .u64 32) ∧ X.cell? ⟨g, 7, none⟩ = some (.int .u8 1) ∧ X.cell? ⟨g, 8, none⟩ = some (.int .u64 2) ∧ X.cell? ⟨w.heap.size + 2, 0, none⟩ = some (.int .u64 16) ∧ X.cell? ⟨w.heap.size + 2, 1, none⟩ = some (.int .u8 2) ∧ X.cell? ⟨w.heap.size + 2, 2, none⟩ = some (.int .u64 3) ∧ X.cell? ⟨w.heap.size + 1, 0, none⟩ = some (.int .u64 32) ∧ X.cell? ⟨w.heap.size + 1, 1, none⟩ = some (.int .u8 1) ∧ X.cell? ⟨w.heap.size + 1, 2, none⟩ = some (.int .u64 2) ∧ X.cell? ⟨g9, 0, none⟩ = some (.int .u64 16))
    (refine ⟨?_, ?_, ?_, ?_, ?_, ?_, ?_, ?_, ?_, ?_, ?_, ?_, ?_⟩ <;> first | assumption | (simp [go_sem]; done))
    ((go_at_call 20; refine (HC.out _ _ _ hcb (rL8.later (by repeat (first | exact Below.refl _ _ | assumption | (refine below_drewN ?_ _) | (refine Below.drew ?_) | (refine Below.alloc ?_ (by first | omega | (simp; omega) | simp) _) | (refine Below.setCell ?_ (by first | omega | (simp; omega) | simp) _) | (refine below_trans ?_ (by assumption) (by first | omega | (simp; omega) | simp)))))).mono ?_; rintro e w9 ⟨rfl, hb_w9⟩; have hs_w9 := hb_w9.size; (try simp only [World.size_drew, World.heap_drewN, World.size_alloc] at hs_w9); have mw90 : w9.cell? ⟨g, 3, none⟩ = some (.int .u64 16) := (hb_w9.cell (p := ⟨g, 3, none⟩) (by first | omega | (simp; omega) | simp)).trans (by first | assumption | (simp [go_sem]; done) | exact (World.cell?_alloc_lt _ _ ⟨_, _, _⟩ (by first | omega | (simp; omega) | simp)).trans (by assumption)); have mw91 : w9.cell? ⟨g, 4, none⟩ = some (.int .u8 2) := (hb_w9.cell (p := ⟨g, 4, none⟩) (by first | omega | (simp; omega) | simp)).trans (by first | assumption | (simp [go_sem]; done) | exact (World.cell?_alloc_lt _ _ ⟨_, _, _⟩ (by first | omega | (simp; omega) | simp)).trans (by assumption)); have mw92 : w9.cell? ⟨g, 5, none⟩ = some (.int .u64 3) := (hb_w9.cell (p := ⟨g, 5, none⟩) (by first | omega | (simp; omega) | simp)).trans (by first | assumption | (simp [go_sem]; done) | exact (World.cell?_alloc_lt _ _ ⟨_, _, _⟩ (by first | omega | (simp; omega) | simp)).trans (by assumption)); have mw93 : w9.cell? ⟨g, 6, none⟩ = some (.int .u64 32) := (hb_w9.cell (p := ⟨g, 6, none⟩) (by first | omega | (simp; omega) | simp)).trans (by first | assumption | (simp [go_sem]; done) | exact (World.cell?_alloc_lt _ _ ⟨_, _, _⟩ (by first | omega | (simp; omega) | simp)).trans (by assumption)); have mw94 : w9.cell? ⟨g, 7, none⟩ = some (.int .u8 1) := (hb_w9.cell (p := ⟨g, 7, none⟩) (by first | omega | (simp; omega) | simp)).trans (by first | assumption | (simp [go_sem]; done) | exact (World.cell?_alloc_lt _ _ ⟨_, _, _⟩ (by first | omega | (simp; omega) | simp)).trans (by assumption)); have mw95 : w9.cell? ⟨g, 8, none⟩ = some (.int .u64 2) := (hb_w9.cell (p := ⟨g, 8, none⟩) (by first | omega | (simp; omega) | simp)).trans (by first | assumption | (simp [go_sem]; done) | exact (World.cell?_alloc_lt _ _ ⟨_, _, _⟩ (by first | omega | (simp; omega) | simp)).trans (by assumption)); have mw96 : w9.cell? ⟨w.heap.size + 2, 0, none⟩ = some (.int .u64 16) := (hb_w9.cell (p := ⟨w.heap.size + 2, 0, none⟩) (by first | omega | (simp; omega) | simp)).trans (by first | assumption | (simp [go_sem]; done) | exact (World.cell?_alloc_lt _ _ ⟨_, _, _⟩ (by first | omega | (simp; omega) | simp)).trans (by assumption)); have mw97 : w9.cell? ⟨w.heap.size + 2, 1, none⟩ = some (.int .u8 2) := (hb_w9.cell (p := ⟨w.heap.size + 2, 1, none⟩) (by first | omega | (simp; omega) | simp)).trans (by first | assumption | (simp [go_sem]; done) | exact (World.cell?_alloc_lt _ _ ⟨_, _, _⟩ (by first | omega | (simp; omega) | simp)).trans (by assumption)); have mw98 : w9.cell? ⟨w.heap.size + 2, 2, none⟩ = some (.int .u64 3) := (hb_w9.cell (p := ⟨w.heap.size + 2, 2, none⟩) (by first | omega | (simp; omega) | simp)).trans (by first | assumption | (simp [go_sem]; done) | exact (World.cell?_alloc_lt _ _ ⟨_, _, _⟩ (by first | omega | (simp; omega) | simp)).trans (by assumption)); have mw99 : w9.cell? ⟨w.heap.size + 1, 0, none⟩ = some (.int .u64 32) := (hb_w9.cell (p := ⟨w.heap.size + 1, 0, none⟩) (by first | omega | (simp; omega) | simp)).trans (by first | assumption | (simp [go_sem]; done) | exact (World.cell?_alloc_lt _ _ ⟨_, _, _⟩ (by first | omega | (simp; omega) | simp)).trans (by assumption)); have mw910 : w9.cell? ⟨w.heap.size + 1, 1, none⟩ = some (.int .u8 1) := (hb_w9.cell (p := ⟨w.heap.size + 1, 1, none⟩) (by first | omega | (simp; omega) | simp)).trans (by first | assumption | (simp [go_sem]; done) | exact (World.cell?_alloc_lt _ _ ⟨_, _, _⟩ (by first | omega | (simp; omega) | simp)).trans (by assumption)); have mw911 : w9.cell? ⟨w.heap.size + 1, 2, none⟩ = some (.int .u64 2) := (hb_w9.cell (p := ⟨w.heap.size + 1, 2, none⟩) (by first | omega | (simp; omega) | simp)).trans (by first | assumption | (simp [go_sem]; done) | exact (World.cell?_alloc_lt _ _ ⟨_, _, _⟩ (by first | omega | (simp; omega) | simp)).trans (by assumption)); have mw912 : w9.cell? ⟨g9, 0, none⟩ = some (.int .u64 16) := (hb_w9.cell (p := ⟨g9, 0, none⟩) (by first | omega | (simp; omega) | simp)).trans (by first | assumption | (simp [go_sem]; done) | exact (World.cell?_alloc_lt _ _ ⟨_, _, _⟩ (by first | omega | (simp; omega) | simp)).trans (by assumption))))
  all_goals
    go_wp2
    go_ret
    exact ⟨rfl, (by repeat (first | exact Below.refl _ _ | assumption | (refine below_drewN ?_ _) | (refine Below.drew ?_) | (refine Below.alloc ?_ (by first | omega | (simp; omega) | simp) _) | (refine Below.setCell ?_ (by first | omega | (simp; omega) | simp) _) | (refine below_trans ?_ (by assumption) (by first | omega | (simp; omega) | simp))))⟩
end Go.Proofs.Ytamnfgpoelbgcaa
