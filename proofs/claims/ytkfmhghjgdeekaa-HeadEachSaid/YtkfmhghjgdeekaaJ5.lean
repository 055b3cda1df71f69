/- Contracts: the questions whose answers the document gives (lives of layer 6); the walks of HeadCodes and HeadFields. -/
import Derived.Test.YtkfmhghjgdeekaaJ4
import Derived.StillTailTactics
namespace Go.Proofs.Ytkfmhghjgdeekaa
open Go.RowKit
set_option linter.unusedVariables false
set_option linter.unusedSimpArgs false

theorem irow_news (w : World) (t : TypeId) (xs : List Int) (vs : Array Value) (hv : vs = (ivals xs).toArray) (hw : ∀ x ∈ xs, I63 x) : IRow (w.alloc (.cells vs t)) (w.alloc (.cells vs t)).heap.size (some ⟨w.heap.size, 0, none⟩) xs :=
  ⟨hw, fun hl => ⟨w.heap.size, 0, rfl, by simp, fun i hi => by
    subst hv
    rw [cell_of_row _ _ _ _ _ (0, 0) (heap_alloc_new _ _), Nat.zero_add, List.getElem?_toArray, ivals_at xs i hi]⟩⟩
section
variable (w : World)
theorem lv_pack : Calls Try.prog 9 #[.agg #[.int .i64 2, .int .u64 2]] w fun e w' => e = .returned (.tuple #[.int .u64 11889503016258109954, .int .i64 0]) ∧ Below w.heap.size w w' := by
  have h := hpack_ok (w := w) (n := 2) (m := 2) (by decide)
  rw [show pk 2 2 = 11889503016258109954 by decide] at h
  exact h
theorem lv_unpack : Calls Try.prog 11 #[.int .u64 11889503016258109954] w fun e w' => e = .returned (.tuple #[.agg #[.int .i64 2, .int .u64 2], .int .i64 0]) ∧ Below w.heap.size w w' := by
  have h := hunpack_any (w := w) 11889503016258109954 (by decide)
  rw [show unN 11889503016258109954 = 2 by decide, show unM 11889503016258109954 = 2 by decide, show unY 11889503016258109954 = 0 by decide] at h
  exact h
theorem lv_ref1 : Calls Try.prog 16 #[.agg #[.int .i64 2, .int .u64 2], .int .i64 1] w fun e w' => e = .returned (.tuple #[.bool true, .int .i64 0]) ∧ Below w.heap.size w w' := by
  have h := href_any (w := w) (n := 2) (m := 2) (by decide) 1
  rw [show rfB 2 2 1 = true by decide, show rfY 2 2 1 = 0 by decide] at h
  exact h
theorem lv_ref2 : Calls Try.prog 16 #[.agg #[.int .i64 2, .int .u64 2], .int .i64 2] w fun e w' => e = .returned (.tuple #[.bool false, .int .i64 9]) ∧ Below w.heap.size w w' := by
  have h := href_any (w := w) (n := 2) (m := 2) (by decide) 2
  rw [show rfB 2 2 2 = false by decide, show rfY 2 2 2 = 9 by decide] at h
  exact h
theorem lv_refs {A : Option Addr} (hr : IRow w w.heap.size A [0, 1, 1]) : Calls Try.prog 18 #[.agg #[.int .i64 2, .int .u64 2], .slice A 3 3] w fun e w' => e = .returned (.tuple #[.int .i64 2, .int .i64 0]) ∧ Below w.heap.size w w' := by
  have h := hrefs_any (w := w) (n := 2) (m := 2) (by decide) 3 hr (by decide)
  rw [show rsN 2 2 [0, 1, 1] = 2 by decide, show rsY 2 2 [0, 1, 1] = 0 by decide] at h
  exact h
theorem lv_next0 : Calls Try.prog 20 #[.agg #[.int .i64 2, .int .u64 2], .int .i64 0] w fun e w' => e = .returned (.tuple #[.int .i64 1, .int .i64 0]) ∧ Below w.heap.size w w' := by
  have h := hnext_any (w := w) (n := 2) (m := 2) (by decide) 0
  rw [show nxN 2 2 0 = 1 by decide, show nxY 2 2 0 = 0 by decide] at h
  exact h
theorem lv_next2 : Calls Try.prog 20 #[.agg #[.int .i64 2, .int .u64 2], .int .i64 2] w fun e w' => e = .returned (.tuple #[.int .i64 0, .int .i64 3]) ∧ Below w.heap.size w w' := by
  have h := hnext_any (w := w) (n := 2) (m := 2) (by decide) 2
  rw [show nxN 2 2 2 = 0 by decide, show nxY 2 2 2 = 3 by decide] at h
  exact h
theorem lv_check : Calls Try.prog 14 #[.agg #[.int .i64 1, .int .u64 2]] w fun e w' => e = .returned (.int .i64 2) ∧ Below w.heap.size w w' :=
  hcheck_bad (w := w) (n := 1) (m := 2) (by decide) (by decide)
end
set_option maxHeartbeats 4000000 in
theorem jlives_any (w : World) : Calls Try.prog 13 #[] w fun e w' => e = .returned (.bool true) ∧ Below w.heap.size w w' := by
  go_enter Try.func13, Try.ntmps13
  go_wp2_with fail
  go_at_call 9
  refine (lv_pack _).mono ?_
  rintro e w1 ⟨rfl, hb_w1⟩
  obtain ⟨hc_w1, hf_w1⟩ := bcell hb_w1; have hz_w1_w_0 : w.heap.size < w1.heap.size := (by have hzz := hb_w1.size; (try simp only [World.size_alloc, World.size_setCell, World.size_drew, World.heap_drewN] at hzz); omega); have hs_w1 := hb_w1.size; (try simp only [World.size_alloc, World.size_setCell, World.size_drew, World.heap_drewN] at hs_w1)
  go_wp2_with fail
  go_at_call 11
  refine (lv_unpack _).mono ?_
  rintro e w2 ⟨rfl, hb_w2⟩
  obtain ⟨hc_w2, hf_w2⟩ := bcell hb_w2; have hz_w2_w_0 : w.heap.size < w2.heap.size := (by have hzz := hb_w2.size; (try simp only [World.size_alloc, World.size_setCell, World.size_drew, World.heap_drewN] at hzz); omega); have hs_w2 := hb_w2.size; (try simp only [World.size_alloc, World.size_setCell, World.size_drew, World.heap_drewN] at hs_w2)
  go_wp2_with fail
  go_at_call 16
  refine (lv_ref1 _).mono ?_
  rintro e w3 ⟨rfl, hb_w3⟩
  obtain ⟨hc_w3, hf_w3⟩ := bcell hb_w3; have hz_w3_w_0 : w.heap.size < w3.heap.size := (by have hzz := hb_w3.size; (try simp only [World.size_alloc, World.size_setCell, World.size_drew, World.heap_drewN] at hzz); omega); have hz_w3_w2_0 : w2.heap.size < w3.heap.size := (by have hzz := hb_w3.size; (try simp only [World.size_alloc, World.size_setCell, World.size_drew, World.heap_drewN] at hzz); omega); have hs_w3 := hb_w3.size; (try simp only [World.size_alloc, World.size_setCell, World.size_drew, World.heap_drewN] at hs_w3)
  go_wp2_with fail
  go_at_call 18
  refine (lv_refs _ (irow_news _ _ [0, 1, 1] _ rfl (by intro x hx; simp at hx; rcases hx with rfl | rfl <;> (unfold I63; omega)))).mono ?_
  rintro e w4 ⟨rfl, hb_w4⟩
  obtain ⟨hc_w4, hf_w4⟩ := bcell hb_w4; have hz_w4_w_0 : w.heap.size < w4.heap.size := (by have hzz := hb_w4.size; (try simp only [World.size_alloc, World.size_setCell, World.size_drew, World.heap_drewN] at hzz); omega); have hz_w4_w2_0 : w2.heap.size < w4.heap.size := (by have hzz := hb_w4.size; (try simp only [World.size_alloc, World.size_setCell, World.size_drew, World.heap_drewN] at hzz); omega); have hs_w4 := hb_w4.size; (try simp only [World.size_alloc, World.size_setCell, World.size_drew, World.heap_drewN] at hs_w4)
  go_wp2_with fail
  go_at_call 20
  refine (lv_next0 _).mono ?_
  rintro e w5 ⟨rfl, hb_w5⟩
  obtain ⟨hc_w5, hf_w5⟩ := bcell hb_w5; have hz_w5_w_0 : w.heap.size < w5.heap.size := (by have hzz := hb_w5.size; (try simp only [World.size_alloc, World.size_setCell, World.size_drew, World.heap_drewN] at hzz); omega); have hz_w5_w2_0 : w2.heap.size < w5.heap.size := (by have hzz := hb_w5.size; (try simp only [World.size_alloc, World.size_setCell, World.size_drew, World.heap_drewN] at hzz); omega); have hs_w5 := hb_w5.size; (try simp only [World.size_alloc, World.size_setCell, World.size_drew, World.heap_drewN] at hs_w5)
  go_wp2_with fail
  go_at_call 16
  refine (lv_ref2 _).mono ?_
  rintro e w6 ⟨rfl, hb_w6⟩
  obtain ⟨hc_w6, hf_w6⟩ := bcell hb_w6; have hz_w6_w_0 : w.heap.size < w6.heap.size := (by have hzz := hb_w6.size; (try simp only [World.size_alloc, World.size_setCell, World.size_drew, World.heap_drewN] at hzz); omega); have hz_w6_w2_0 : w2.heap.size < w6.heap.size := (by have hzz := hb_w6.size; (try simp only [World.size_alloc, World.size_setCell, World.size_drew, World.heap_drewN] at hzz); omega); have hs_w6 := hb_w6.size; (try simp only [World.size_alloc, World.size_setCell, World.size_drew, World.heap_drewN] at hs_w6)
  go_wp2_with fail
  go_at_call 20
  refine (lv_next2 _).mono ?_
  rintro e w7 ⟨rfl, hb_w7⟩
  obtain ⟨hc_w7, hf_w7⟩ := bcell hb_w7; have hz_w7_w_0 : w.heap.size < w7.heap.size := (by have hzz := hb_w7.size; (try simp only [World.size_alloc, World.size_setCell, World.size_drew, World.heap_drewN] at hzz); omega); have hz_w7_w2_0 : w2.heap.size < w7.heap.size := (by have hzz := hb_w7.size; (try simp only [World.size_alloc, World.size_setCell, World.size_drew, World.heap_drewN] at hzz); omega); have hs_w7 := hb_w7.size; (try simp only [World.size_alloc, World.size_setCell, World.size_drew, World.heap_drewN] at hs_w7)
  go_wp2_with fail
  go_at_call 14
  refine (lv_check _).mono ?_
  rintro e w8 ⟨rfl, hb_w8⟩
  obtain ⟨hc_w8, hf_w8⟩ := bcell hb_w8; have hz_w8_w_0 : w.heap.size < w8.heap.size := (by have hzz := hb_w8.size; (try simp only [World.size_alloc, World.size_setCell, World.size_drew, World.heap_drewN] at hzz); omega); have hs_w8 := hb_w8.size; (try simp only [World.size_alloc, World.size_setCell, World.size_drew, World.heap_drewN] at hs_w8)
  go_wp2
  go_ret
  exact ⟨rfl, (by repeat (first | exact Below.refl _ _ | assumption | (refine below_drewN ?_ _) | (refine Below.drew ?_) | (refine Below.alloc ?_ (by first | omega | (simp; omega) | simp) _) | (refine Below.setCell ?_ (by first | omega | (simp; omega) | simp) _) | (refine below_trans ?_ (by assumption) (by first | omega | (simp; omega) | simp))))⟩
end Go.Proofs.Ytkfmhghjgdeekaa
