/- The questions about tables of weak handles whose answers the document gives (lives). -/
import Derived.Test.YtkfcnjdjcnfmfaaW6
namespace Go.Proofs.Ytkfcnjdjcnfmfaa
open Go.RowKit
set_option linter.unusedVariables false
set_option linter.unusedSimpArgs false

theorem row_lit (W : World) (x : Nat) (hx : x < W64) : Row (W.alloc (.cells #[.int .u64 (x : Nat)] 23)) (W.alloc (.cells #[.int .u64 (x : Nat)] 23)).heap.size (some ⟨W.heap.size, 0, none⟩) [x] :=
  ⟨fun y hy => by rw [List.mem_singleton] at hy; rw [hy]; exact hx, fun _ => ⟨W.heap.size, 0, rfl, by simp, fun i hi => by
    obtain rfl : i = 0 := by simpa using hi
    simp [go_sem]⟩⟩
theorem okL1 : OkW [16] := okW_snoc (t := []) okW_nil (by decide) (by decide) (by decide)
theorem okL2 : OkW [16, 32] := okW_snoc (t := [16]) okL1 (by decide) (by decide) (by decide)
theorem okL4 : OkW [0, 32] := by
  have := okW_clr [16] okL2
  rwa [show clrT [16, 32] [16] = [0, 32] by decide] at this
theorem okL5 : OkW [0, 32, 16] := okW_snoc (t := [0, 32]) okL4 (by decide) (by decide) (by decide)
theorem mkL1 : MkE [] 16 [16] 1 0 := .inr (.inr (.inr (.inr ⟨okW_nil, by decide, by decide, by decide, rfl, rfl, rfl⟩)))
theorem mkL2 : MkE [16] 32 [16, 32] 2 0 := .inr (.inr (.inr (.inr ⟨okL1, by decide, by decide, by decide, rfl, rfl, rfl⟩)))
theorem mkL3 : MkE [16, 32] 16 [16, 32] 1 0 := .inr (.inr (.inl ⟨okL2, by decide, by decide, rfl, by decide, rfl⟩))
theorem clrL : ClrE [16, 32] [16] [0, 32] [1] 0 := .inr ⟨okL2, by decide, by decide, rfl⟩
theorem mkL5 : MkE [0, 32] 16 [0, 32, 16] 3 0 := .inr (.inr (.inr (.inr ⟨okL4, by decide, by decide, by decide, rfl, rfl, rfl⟩)))
theorem getL1 : GetE [0, 32, 16] 1 0 0 := .inr (.inr ⟨okL5, by decide, by decide, by decide, rfl⟩)
theorem hanL : HanE [0, 32, 16] 32 2 0 := .inr (.inr (.inr ⟨okL5, by decide, by decide, by decide, rfl⟩))
theorem mkL6 : MkE [0, 32, 16] 0 [0, 32, 16] 0 7 := .inr (.inl ⟨okL5, rfl, rfl, rfl, rfl⟩)
theorem getL4 : GetE [0, 32, 16] 4 0 3 := .inr (.inl ⟨okL5, by decide, rfl, rfl⟩)
set_option maxHeartbeats 2000000 in
theorem wlives_any (w : World) : Calls Try.prog 17 #[] w fun e w' => e = .returned (.bool true) ∧ Below w.heap.size w w' := by
  have H1 : Hid (∀ W : World, Calls Try.prog 9 #[.slice none 0 0, .int .u64 16] W fun e W' => ∃ B cb, e = .returned (.tuple #[.slice B 1 cb, .int .i64 1, .int .i64 0]) ∧ OwnsN W' W.heap.size B 1 cb [16] ∧ Below W.heap.size W W') := Lib.hid fun W =>
    wmake_any (w := W) (A := none) (t := []) 0 ⟨fun x hx => (by cases hx), fun h => (by simp at h)⟩ (by simp) (by simp) (fun _ => rfl) 16 (by decide) _ _ _ mkL1
  have H2 : Hid (∀ (W : World) (A : Option Addr) (cap : Nat), Row W W.heap.size A [16] → 1 ≤ cap → (A = none → cap = 0) → Calls Try.prog 9 #[.slice A 1 cap, .int .u64 32] W fun e W' => ∃ B cb, e = .returned (.tuple #[.slice B 2 cb, .int .i64 2, .int .i64 0]) ∧ OwnsN W' W.heap.size B 2 cb [16, 32] ∧ Below W.heap.size W W') := Lib.hid fun W A cap hr hc hn =>
    wmake_any (w := W) (A := A) (t := [16]) cap hr hc (by simp) hn 32 (by decide) _ _ _ mkL2
  have H3 : Hid (∀ (W : World) (A : Option Addr) (cap : Nat), Row W W.heap.size A [16, 32] → 2 ≤ cap → (A = none → cap = 0) → Calls Try.prog 9 #[.slice A 2 cap, .int .u64 16] W fun e W' => ∃ B cb, e = .returned (.tuple #[.slice B 2 cb, .int .i64 1, .int .i64 0]) ∧ OwnsN W' W.heap.size B 2 cb [16, 32] ∧ Below W.heap.size W W') := Lib.hid fun W A cap hr hc hn =>
    wmake_any (w := W) (A := A) (t := [16, 32]) cap hr hc (by simp) hn 16 (by decide) _ _ _ mkL3
  have H4 : Hid (∀ (W : World) (A G : Option Addr) (cap : Nat), Row W W.heap.size A [16, 32] → 2 ≤ cap → (A = none → cap = 0) → Row W W.heap.size G [16] → Calls Try.prog 13 #[.slice A 2 cap, .slice G 1 1] W fun e W' => ∃ B cb C cc, e = .returned (.tuple #[.slice B 2 cb, .slice C 1 cc, .int .i64 0]) ∧ OwnsN W' W.heap.size B 2 cb [0, 32] ∧ IRow W' W'.heap.size C [1] ∧ [(1 : Int)].length ≤ 64 ∧ Below W.heap.size W W') := Lib.hid fun W A G cap hr hc hn hg =>
    wclear_any (w := W) (A := A) (G := G) (t := [16, 32]) (gs := [16]) cap 1 hr hc (by simp) hn hg (by simp) _ _ _ clrL
  have H5 : Hid (∀ (W : World) (A : Option Addr) (cap : Nat), Row W W.heap.size A [0, 32] → 2 ≤ cap → (A = none → cap = 0) → Calls Try.prog 9 #[.slice A 2 cap, .int .u64 16] W fun e W' => ∃ B cb, e = .returned (.tuple #[.slice B 3 cb, .int .i64 3, .int .i64 0]) ∧ OwnsN W' W.heap.size B 3 cb [0, 32, 16] ∧ Below W.heap.size W W') := Lib.hid fun W A cap hr hc hn =>
    wmake_any (w := W) (A := A) (t := [0, 32]) cap hr hc (by simp) hn 16 (by decide) _ _ _ mkL5
  have H6 : Hid (∀ (W : World) (A : Option Addr) (cap : Nat), Row W W.heap.size A [0, 32, 16] → 3 ≤ cap → Calls Try.prog 11 #[.slice A 3 cap, .int .i64 1] W fun e W' => e = .returned (.tuple #[.int .u64 0, .int .i64 0]) ∧ Below W.heap.size W W') := Lib.hid fun W A cap hr hc =>
    wget_any (w := W) (A := A) (t := [0, 32, 16]) cap hr hc (by simp) 1 (by decide) (by decide) 0 0 getL1
  have H7 : Hid (∀ (W : World) (A : Option Addr) (cap : Nat), Row W W.heap.size A [0, 32, 16] → 3 ≤ cap → Calls Try.prog 15 #[.slice A 3 cap, .int .u64 32] W fun e W' => e = .returned (.tuple #[.int .i64 2, .int .i64 0]) ∧ Below W.heap.size W W') := Lib.hid fun W A cap hr hc =>
    whan_any (w := W) (A := A) (t := [0, 32, 16]) cap hr hc (by simp) 32 2 0 hanL
  have H8 : Hid (∀ (W : World) (A : Option Addr) (cap : Nat), Row W W.heap.size A [0, 32, 16] → 3 ≤ cap → (A = none → cap = 0) → Calls Try.prog 9 #[.slice A 3 cap, .int .u64 0] W fun e W' => ∃ B cb, e = .returned (.tuple #[.slice B 3 cb, .int .i64 0, .int .i64 7]) ∧ OwnsN W' W.heap.size B 3 cb [0, 32, 16] ∧ Below W.heap.size W W') := Lib.hid fun W A cap hr hc hn =>
    wmake_any (w := W) (A := A) (t := [0, 32, 16]) cap hr hc (by simp) hn 0 (by decide) _ _ _ mkL6
  have H9 : Hid (∀ (W : World) (A : Option Addr) (cap : Nat), Row W W.heap.size A [0, 32, 16] → 3 ≤ cap → Calls Try.prog 11 #[.slice A 3 cap, .int .i64 4] W fun e W' => e = .returned (.tuple #[.int .u64 0, .int .i64 3]) ∧ Below W.heap.size W W') := Lib.hid fun W A cap hr hc =>
    wget_any (w := W) (A := A) (t := [0, 32, 16]) cap hr hc (by simp) 4 (by decide) (by decide) 0 3 getL4
  have HC : Hid (∀ (W : World) (A : Option Addr) (cap : Nat), Row W W.heap.size A [0, 32, 16] → 3 ≤ cap → Calls Try.prog 19 #[.slice A 3 cap] W fun e W' => e = .returned (.int .i64 0) ∧ Below W.heap.size W W') := Lib.hid fun W A cap hr hc =>
    wcheck_any (w := W) (A := A) (t := [0, 32, 16]) cap hr hc (by simp) 0 (.inl ⟨okL5, rfl⟩)
  go_enter Try.func17, Try.ntmps17
  go_wp2_with fail
  go_at_call 9
  refine (H1.out _).mono ?_
  rintro e w1 ⟨B1, c1, rfl, o1, hb_w1⟩
  obtain ⟨hc_w1, hf_w1⟩ := bcell hb_w1; have hs_w1 := hb_w1.size; (try simp only [World.size_alloc, World.size_setCell, World.size_drew, World.heap_drewN] at hs_w1)
  have b1 : Below w.heap.size w w1 := (by repeat (first | exact Below.refl _ _ | assumption | (refine below_drewN ?_ _) | (refine Below.drew ?_) | (refine Below.alloc ?_ (by first | omega | (simp; omega) | simp) _) | (refine Below.setCell ?_ (by first | omega | (simp; omega) | simp) _) | (refine below_trans ?_ (by assumption) (by first | omega | (simp; omega) | simp))))
  go_wp2_with fail
  go_at_call 9
  refine (H2.out _ _ _ (o1.row.later (by repeat (first | exact Below.refl _ _ | assumption | (refine below_drewN ?_ _) | (refine Below.drew ?_) | (refine Below.alloc ?_ (by first | omega | (simp; omega) | simp) _) | (refine Below.setCell ?_ (by first | omega | (simp; omega) | simp) _) | (refine below_trans ?_ (by assumption) (by first | omega | (simp; omega) | simp))))) o1.cap_ o1.nil_).mono ?_
  rintro e w2 ⟨B2, c2, rfl, o2, hb_w2⟩
  obtain ⟨hc_w2, hf_w2⟩ := bcell hb_w2; have hs_w2 := hb_w2.size; (try simp only [World.size_alloc, World.size_setCell, World.size_drew, World.heap_drewN] at hs_w2)
  have b2 : Below w.heap.size w w2 := (by repeat (first | exact Below.refl _ _ | assumption | (refine below_drewN ?_ _) | (refine Below.drew ?_) | (refine Below.alloc ?_ (by first | omega | (simp; omega) | simp) _) | (refine Below.setCell ?_ (by first | omega | (simp; omega) | simp) _) | (refine below_trans ?_ (by assumption) (by first | omega | (simp; omega) | simp))))
  go_wp2_with fail
  go_at_call 9
  refine (H3.out _ _ _ (o2.row.later (by repeat (first | exact Below.refl _ _ | assumption | (refine below_drewN ?_ _) | (refine Below.drew ?_) | (refine Below.alloc ?_ (by first | omega | (simp; omega) | simp) _) | (refine Below.setCell ?_ (by first | omega | (simp; omega) | simp) _) | (refine below_trans ?_ (by assumption) (by first | omega | (simp; omega) | simp))))) o2.cap_ o2.nil_).mono ?_
  rintro e w3 ⟨B3, c3, rfl, o3, hb_w3⟩
  obtain ⟨hc_w3, hf_w3⟩ := bcell hb_w3; have hs_w3 := hb_w3.size; (try simp only [World.size_alloc, World.size_setCell, World.size_drew, World.heap_drewN] at hs_w3)
  have b3 : Below w.heap.size w w3 := (by repeat (first | exact Below.refl _ _ | assumption | (refine below_drewN ?_ _) | (refine Below.drew ?_) | (refine Below.alloc ?_ (by first | omega | (simp; omega) | simp) _) | (refine Below.setCell ?_ (by first | omega | (simp; omega) | simp) _) | (refine below_trans ?_ (by assumption) (by first | omega | (simp; omega) | simp))))
  clear hc_w1 hf_w1 hc_w2 hf_w2 hc_w3 hf_w3
  go_wp2_with fail
  go_at_call 13
  refine (H4.out _ _ _ _ (o3.row.later (by repeat (first | exact Below.refl _ _ | assumption | (refine below_drewN ?_ _) | (refine Below.drew ?_) | (refine Below.alloc ?_ (by first | omega | (simp; omega) | simp) _) | (refine Below.setCell ?_ (by first | omega | (simp; omega) | simp) _) | (refine below_trans ?_ (by assumption) (by first | omega | (simp; omega) | simp))))) o3.cap_ o3.nil_ (row_lit _ 16 (by decide))).mono ?_
  rintro e w4 ⟨B4, c4, C4, d4, rfl, o4, r4, _, hb_w4⟩
  obtain ⟨hc_w4, hf_w4⟩ := bcell hb_w4; have hs_w4 := hb_w4.size; (try simp only [World.size_alloc, World.size_setCell, World.size_drew, World.heap_drewN] at hs_w4)
  have b4 : Below w.heap.size w w4 := (by repeat (first | exact Below.refl _ _ | assumption | (refine below_drewN ?_ _) | (refine Below.drew ?_) | (refine Below.alloc ?_ (by first | omega | (simp; omega) | simp) _) | (refine Below.setCell ?_ (by first | omega | (simp; omega) | simp) _) | (refine below_trans ?_ (by assumption) (by first | omega | (simp; omega) | simp))))
  go_wp2_with fail
  go_at_call 9
  refine (H5.out _ _ _ (o4.row.later (by repeat (first | exact Below.refl _ _ | assumption | (refine below_drewN ?_ _) | (refine Below.drew ?_) | (refine Below.alloc ?_ (by first | omega | (simp; omega) | simp) _) | (refine Below.setCell ?_ (by first | omega | (simp; omega) | simp) _) | (refine below_trans ?_ (by assumption) (by first | omega | (simp; omega) | simp))))) o4.cap_ o4.nil_).mono ?_
  rintro e w5 ⟨B5, c5, rfl, o5, hb_w5⟩
  obtain ⟨hc_w5, hf_w5⟩ := bcell hb_w5; have hs_w5 := hb_w5.size; (try simp only [World.size_alloc, World.size_setCell, World.size_drew, World.heap_drewN] at hs_w5)
  have b5 : Below w.heap.size w w5 := (by repeat (first | exact Below.refl _ _ | assumption | (refine below_drewN ?_ _) | (refine Below.drew ?_) | (refine Below.alloc ?_ (by first | omega | (simp; omega) | simp) _) | (refine Below.setCell ?_ (by first | omega | (simp; omega) | simp) _) | (refine below_trans ?_ (by assumption) (by first | omega | (simp; omega) | simp))))
  have r4 := r4.later hb_w5
  clear hc_w4 hf_w4 hc_w5 hf_w5
  go_wp2_with fail
  go_at_call 11
  refine (H6.out _ _ _ (o5.row.later (by repeat (first | exact Below.refl _ _ | assumption | (refine below_drewN ?_ _) | (refine Below.drew ?_) | (refine Below.alloc ?_ (by first | omega | (simp; omega) | simp) _) | (refine Below.setCell ?_ (by first | omega | (simp; omega) | simp) _) | (refine below_trans ?_ (by assumption) (by first | omega | (simp; omega) | simp))))) o5.cap_).mono ?_
  rintro e w6 ⟨rfl, hb_w6⟩
  obtain ⟨hc_w6, hf_w6⟩ := bcell hb_w6; have hs_w6 := hb_w6.size; (try simp only [World.size_alloc, World.size_setCell, World.size_drew, World.heap_drewN] at hs_w6)
  have b6 : Below w.heap.size w w6 := (by repeat (first | exact Below.refl _ _ | assumption | (refine below_drewN ?_ _) | (refine Below.drew ?_) | (refine Below.alloc ?_ (by first | omega | (simp; omega) | simp) _) | (refine Below.setCell ?_ (by first | omega | (simp; omega) | simp) _) | (refine below_trans ?_ (by assumption) (by first | omega | (simp; omega) | simp))))
  have r4 := r4.later hb_w6
  have r5 := o5.row.later hb_w6
  go_wp2_with fail
  go_at_call 15
  refine (H7.out _ _ _ (r5.later (by repeat (first | exact Below.refl _ _ | assumption | (refine below_drewN ?_ _) | (refine Below.drew ?_) | (refine Below.alloc ?_ (by first | omega | (simp; omega) | simp) _) | (refine Below.setCell ?_ (by first | omega | (simp; omega) | simp) _) | (refine below_trans ?_ (by assumption) (by first | omega | (simp; omega) | simp))))) o5.cap_).mono ?_
  rintro e w7 ⟨rfl, hb_w7⟩
  obtain ⟨hc_w7, hf_w7⟩ := bcell hb_w7; have hs_w7 := hb_w7.size; (try simp only [World.size_alloc, World.size_setCell, World.size_drew, World.heap_drewN] at hs_w7)
  have b7 : Below w.heap.size w w7 := (by repeat (first | exact Below.refl _ _ | assumption | (refine below_drewN ?_ _) | (refine Below.drew ?_) | (refine Below.alloc ?_ (by first | omega | (simp; omega) | simp) _) | (refine Below.setCell ?_ (by first | omega | (simp; omega) | simp) _) | (refine below_trans ?_ (by assumption) (by first | omega | (simp; omega) | simp))))
  have r4 := r4.later hb_w7
  have r5 := r5.later hb_w7
  go_wp2_with fail
  go_at_call 9
  refine (H8.out _ _ _ (r5.later (by repeat (first | exact Below.refl _ _ | assumption | (refine below_drewN ?_ _) | (refine Below.drew ?_) | (refine Below.alloc ?_ (by first | omega | (simp; omega) | simp) _) | (refine Below.setCell ?_ (by first | omega | (simp; omega) | simp) _) | (refine below_trans ?_ (by assumption) (by first | omega | (simp; omega) | simp))))) o5.cap_ o5.nil_).mono ?_
  rintro e w8 ⟨B8, c8, rfl, o8, hb_w8⟩
  obtain ⟨hc_w8, hf_w8⟩ := bcell hb_w8; have hs_w8 := hb_w8.size; (try simp only [World.size_alloc, World.size_setCell, World.size_drew, World.heap_drewN] at hs_w8)
  have b8 : Below w.heap.size w w8 := (by repeat (first | exact Below.refl _ _ | assumption | (refine below_drewN ?_ _) | (refine Below.drew ?_) | (refine Below.alloc ?_ (by first | omega | (simp; omega) | simp) _) | (refine Below.setCell ?_ (by first | omega | (simp; omega) | simp) _) | (refine below_trans ?_ (by assumption) (by first | omega | (simp; omega) | simp))))
  have r4 := r4.later hb_w8
  have r5 := r5.later hb_w8
  clear hc_w6 hf_w6 hc_w7 hf_w7 hc_w8 hf_w8
  go_wp2_with fail
  go_at_call 11
  refine (H9.out _ _ _ (r5.later (by repeat (first | exact Below.refl _ _ | assumption | (refine below_drewN ?_ _) | (refine Below.drew ?_) | (refine Below.alloc ?_ (by first | omega | (simp; omega) | simp) _) | (refine Below.setCell ?_ (by first | omega | (simp; omega) | simp) _) | (refine below_trans ?_ (by assumption) (by first | omega | (simp; omega) | simp))))) o5.cap_).mono ?_
  rintro e w9 ⟨rfl, hb_w9⟩
  obtain ⟨hc_w9, hf_w9⟩ := bcell hb_w9; have hs_w9 := hb_w9.size; (try simp only [World.size_alloc, World.size_setCell, World.size_drew, World.heap_drewN] at hs_w9)
  have b9 : Below w.heap.size w w9 := (by repeat (first | exact Below.refl _ _ | assumption | (refine below_drewN ?_ _) | (refine Below.drew ?_) | (refine Below.alloc ?_ (by first | omega | (simp; omega) | simp) _) | (refine Below.setCell ?_ (by first | omega | (simp; omega) | simp) _) | (refine below_trans ?_ (by assumption) (by first | omega | (simp; omega) | simp))))
  have r4 := r4.later hb_w9
  have r5 := r5.later hb_w9
  obtain ⟨b, off, rfl, hbb, hc⟩ := r4.at_ (by decide)
  have hc := hc 0 (by decide)
  simp only [List.getD_cons_zero, Nat.add_zero] at hc
  go_wp2_with fail
  go_at_call 19
  refine (HC.out _ _ _ (r5.later (by repeat (first | exact Below.refl _ _ | assumption | (refine below_drewN ?_ _) | (refine Below.drew ?_) | (refine Below.alloc ?_ (by first | omega | (simp; omega) | simp) _) | (refine Below.setCell ?_ (by first | omega | (simp; omega) | simp) _) | (refine below_trans ?_ (by assumption) (by first | omega | (simp; omega) | simp))))) o5.cap_).mono ?_
  rintro e w10 ⟨rfl, hb_w10⟩
  obtain ⟨hc_w10, hf_w10⟩ := bcell hb_w10; have hs_w10 := hb_w10.size; (try simp only [World.size_alloc, World.size_setCell, World.size_drew, World.heap_drewN] at hs_w10)
  go_wp2
  go_ret
  exact ⟨rfl, (by repeat (first | exact Below.refl _ _ | assumption | (refine below_drewN ?_ _) | (refine Below.drew ?_) | (refine Below.alloc ?_ (by first | omega | (simp; omega) | simp) _) | (refine Below.setCell ?_ (by first | omega | (simp; omega) | simp) _) | (refine below_trans ?_ (by assumption) (by first | omega | (simp; omega) | simp))))⟩
end Go.Proofs.Ytkfcnjdjcnfmfaa
