/- The law's own question: answers that the document gives (lives). -/
import Derived.Test.YtkdbcoibapcmjaaN24
import Derived.Test.YtkdbcoibapcmjaaN11
namespace Go.Proofs.Ytkdbcoibapcmjaa
open Go.RowKit
set_option linter.unusedVariables false
set_option linter.unusedSimpArgs false
set_option maxRecDepth 100000

def P0 : Pc := ⟨100, 10, 0, false, 0, 0, 0, 0, 0, [0, 0]⟩
def P1 : Pc := ⟨100, 10, 1000, false, 0, 0, 0, 0, 0, [0, 0]⟩
def P2 : Pc := ⟨100, 10, 1000, true, 1000, 300, 0, 0, 0, [0, 0]⟩
def P3 : Pc := ⟨100, 10, 1000, true, 1000, 300, 0, 0, 3, [0, 10]⟩
def P4 : Pc := ⟨100, 10, 1000, true, 1000, 300, 1, 11, 3, [0, 0]⟩
def P5 : Pc := ⟨100, 10, 1000, true, 1000, 300, 1, 11, 3, [0, 0]⟩
def P6 : Pc := ⟨100, 10, 5, false, 0, 0, 0, 0, 0, [0, 0]⟩
theorem ok_P1 : OkP P1 := ⟨by decide, by decide, by decide, by decide, by decide, by decide, by decide, by decide, by decide, by decide, by decide, by decide, fun d hd => by simp [P1] at hd; omega, fun h => (by cases h), fun _ => ⟨rfl, rfl, rfl, rfl, rfl, fun d hd => by simp [P1] at hd; exact hd⟩⟩
theorem e_P2 : P2 = begP P1 1700 := by kernel_rfl
theorem ok_P2 : OkP P2 := by rw [e_P2]; exact begP_ok ok_P1 rfl _
theorem e_P3 : P3 = allP P2 1 3 := by kernel_rfl
theorem ok_P3 : OkP P3 := by rw [e_P3]; exact allP_ok ok_P2 rfl _ _
theorem e_P4 : P4 = wrk 1 P3 [4, 7] := by kernel_rfl
theorem ok_P4 : OkP P4 := by rw [e_P4]; exact (wrk_ok ok_P3 rfl _ _).1
theorem e_P5 : P5 = allP P4 0 0 := by kernel_rfl
theorem ok_P5 : OkP P5 := by rw [e_P5]; exact allP_ok ok_P4 rfl _ _
theorem e_P6 : P6 = endP P5 5 := by kernel_rfl
theorem ok_P6 : OkP P6 := by rw [e_P6]; exact endP_ok ok_P5 (by decide)
theorem all_47 : AllM [4, 7] := fun d hd => by simp at hd; omega
theorem words_47 : Words [4, 7] := fun d hd => by simp at hd; unfold W64; omega
theorem l_make (w : World)  :
    Calls Try.prog 13 #[.int .i64 100, .int .u64 10, .int .i64 2] w fun e w' => ∃ A c, e = .returned (.tuple #[.agg #[.int .i64 100, .int .u64 10, .int .u64 0, .bool false, .int .u64 0, .int .u64 0, .int .u64 0, .int .u64 0, .int .u64 0, .slice A 2 c], .int .i64 0]) ∧ OwnD w' w.heap.size A c [0, 0] ∧ Below w.heap.size w w' :=
  pmakeP_any 100 10 2 (by decide) (by decide) (by decide) P0 0 (.inl ⟨2, rfl, by decide, by decide, newP_ok (by decide) (by decide) (by decide) (by decide) (by decide) (by decide), rfl, rfl⟩)
theorem l_goal (w : World) (A : Option Addr) (c : Nat) (hr : Row w w.heap.size A [0, 0]) :
    Calls Try.prog 9 #[.agg #[.int .i64 100, .int .u64 10, .int .u64 1000, .bool false, .int .u64 0, .int .u64 0, .int .u64 0, .int .u64 0, .int .u64 0, .slice A 2 c]] w fun e w' => e = .returned (.tuple #[.int .u64 2000, .int .u64 1700, .int .i64 0]) ∧ Below w.heap.size w w' :=
  pgoalX_any (p := P1) c ok_P1.fit hr (by decide) 2000 1700 0 (.inl ⟨ok_P1, by kernel_rfl, by kernel_rfl, rfl⟩)
theorem l_due (w : World) (A : Option Addr) (c : Nat) (hr : Row w w.heap.size A [0, 0]) :
    Calls Try.prog 11 #[.agg #[.int .i64 100, .int .u64 10, .int .u64 1000, .bool false, .int .u64 0, .int .u64 0, .int .u64 0, .int .u64 0, .int .u64 0, .slice A 2 c], .int .u64 1700] w fun e w' => e = .returned (.tuple #[.bool true, .int .i64 0]) ∧ Below w.heap.size w w' :=
  pdue_any (p := P1) c ok_P1.fit hr (by decide) 1700 true 0 (.inl ⟨ok_P1, by kernel_rfl, rfl⟩)
theorem l_begin (w : World) (A : Option Addr) (c : Nat) (hr : Row w w.heap.size A [0, 0]) (hn : A = none → c = 0) :
    Calls Try.prog 20 #[.agg #[.int .i64 100, .int .u64 10, .int .u64 1000, .bool false, .int .u64 0, .int .u64 0, .int .u64 0, .int .u64 0, .int .u64 0, .slice A 2 c], .int .u64 1700] w fun e w' => ∃ A c, e = .returned (.tuple #[.agg #[.int .i64 100, .int .u64 10, .int .u64 1000, .bool true, .int .u64 1000, .int .u64 300, .int .u64 0, .int .u64 0, .int .u64 0, .slice A 2 c], .int .i64 0]) ∧ OwnD w' w.heap.size A c [0, 0] ∧ Below w.heap.size w w' :=
  pbeginX_any (p := P1) c ok_P1.fit hr (by decide) hn 1700 P2 0 (.inr (.inr (.inr ⟨ok_P1, rfl, by decide, e_P2, rfl⟩)))
theorem l_alloc (w : World) (A : Option Addr) (c : Nat) (hr : Row w w.heap.size A [0, 0]) (hn : A = none → c = 0) :
    Calls Try.prog 24 #[.agg #[.int .i64 100, .int .u64 10, .int .u64 1000, .bool true, .int .u64 1000, .int .u64 300, .int .u64 0, .int .u64 0, .int .u64 0, .slice A 2 c], .int .i64 1, .int .u64 3] w fun e w' => ∃ A c, e = .returned (.tuple #[.agg #[.int .i64 100, .int .u64 10, .int .u64 1000, .bool true, .int .u64 1000, .int .u64 300, .int .u64 0, .int .u64 0, .int .u64 3, .slice A 2 c], .int .u64 10, .int .i64 0]) ∧ OwnD w' w.heap.size A c [0, 10] ∧ Below w.heap.size w w' :=
  pallocX_any (p := P2) c ok_P2.fit hr (by decide) hn 1 3 P3 10 0 (.inr (.inr (.inr (.inr ⟨1, rfl, by decide, ok_P2, by decide, rfl, e_P3, by kernel_rfl, rfl⟩))))
theorem l_work (w : World) (A : Option Addr) (c : Nat) (hr : Row w w.heap.size A [0, 10]) (hn : A = none → c = 0) (S : Option Addr) (hs : Row w w.heap.size S [4, 7]) :
    Calls Try.prog 26 #[.agg #[.int .i64 100, .int .u64 10, .int .u64 1000, .bool true, .int .u64 1000, .int .u64 300, .int .u64 0, .int .u64 0, .int .u64 3, .slice A 2 c], .int .i64 1, .slice S 2 2] w fun e w' => ∃ A c, e = .returned (.tuple #[.agg #[.int .i64 100, .int .u64 10, .int .u64 1000, .bool true, .int .u64 1000, .int .u64 300, .int .u64 1, .int .u64 11, .int .u64 3, .slice A 2 c], .int .i64 0]) ∧ OwnD w' w.heap.size A c [0, 0] ∧ Below w.heap.size w w' :=
  pworkX_any (p := P3) (l := [4, 7]) c 2 ok_P3.fit hr (by decide) hn hs (by decide) 1 P4 0 (.inr (.inr (.inr (.inr ⟨ok_P3, by decide, by decide, rfl, all_47, e_P4, rfl⟩))))
theorem l_alloc2 (w : World) (A : Option Addr) (c : Nat) (hr : Row w w.heap.size A [0, 0]) (hn : A = none → c = 0) :
    Calls Try.prog 24 #[.agg #[.int .i64 100, .int .u64 10, .int .u64 1000, .bool true, .int .u64 1000, .int .u64 300, .int .u64 1, .int .u64 11, .int .u64 3, .slice A 2 c], .int .i64 0, .int .u64 0] w fun e w' => ∃ A c, e = .returned (.tuple #[.agg #[.int .i64 100, .int .u64 10, .int .u64 1000, .bool true, .int .u64 1000, .int .u64 300, .int .u64 1, .int .u64 11, .int .u64 3, .slice A 2 c], .int .u64 0, .int .i64 0]) ∧ OwnD w' w.heap.size A c [0, 0] ∧ Below w.heap.size w w' :=
  pallocX_any (p := P4) c ok_P4.fit hr (by decide) hn 0 0 P5 0 0 (.inr (.inr (.inr (.inr ⟨0, rfl, by decide, ok_P4, by decide, rfl, e_P5, by kernel_rfl, rfl⟩))))
theorem l_end (w : World) (A : Option Addr) (c : Nat) (hr : Row w w.heap.size A [0, 0]) (hn : A = none → c = 0) :
    Calls Try.prog 22 #[.agg #[.int .i64 100, .int .u64 10, .int .u64 1000, .bool true, .int .u64 1000, .int .u64 300, .int .u64 1, .int .u64 11, .int .u64 3, .slice A 2 c], .int .u64 5] w fun e w' => ∃ A c, e = .returned (.tuple #[.agg #[.int .i64 100, .int .u64 10, .int .u64 5, .bool false, .int .u64 0, .int .u64 0, .int .u64 0, .int .u64 0, .int .u64 0, .slice A 2 c], .int .i64 0]) ∧ OwnD w' w.heap.size A c [0, 0] ∧ Below w.heap.size w w' :=
  pendX_any (p := P5) c ok_P5.fit hr (by decide) hn 5 P6 0 (.inr (.inr (.inr ⟨ok_P5, rfl, by decide, e_P6, rfl⟩)))
theorem l_make2 (w : World)  :
    Calls Try.prog 13 #[.int .i64 0, .int .u64 1, .int .i64 1] w fun e w' => ∃ A c, e = .returned (.tuple #[.agg #[.int .i64 0, .int .u64 0, .int .u64 0, .bool false, .int .u64 0, .int .u64 0, .int .u64 0, .int .u64 0, .int .u64 0, .slice A 0 c], .int .i64 1]) ∧ OwnD w' w.heap.size A c [] ∧ Below w.heap.size w w' :=
  pmakeP_any 0 1 1 (by decide) (by decide) (by decide) Pc.zero 1 (.inr (.inl ⟨1, rfl, by decide, by decide, fun h => absurd h.pct1 (by decide), rfl, rfl⟩))
theorem l_check (w : World) (A : Option Addr) (c : Nat) (hr : Row w w.heap.size A [0, 0]) :
    Calls Try.prog 17 #[.agg #[.int .i64 100, .int .u64 10, .int .u64 5, .bool false, .int .u64 0, .int .u64 0, .int .u64 0, .int .u64 0, .int .u64 0, .slice A 2 c]] w fun e w' => e = .returned (.int .i64 0) ∧ Below w.heap.size w w' :=
  pcheck_anyP (p := P6) c ok_P6.fit hr (by decide) 0 (.inl ⟨ok_P6, rfl⟩)
set_option maxHeartbeats 8000000 in
theorem plives_any (w : World) : Calls Try.prog 15 #[] w fun e w' => e = .returned (.bool true) ∧ Below w.heap.size w w' := by
  have HMk := Lib.hid l_make; have HGo := Lib.hid l_goal; have HDu := Lib.hid l_due; have HBe := Lib.hid l_begin; have HAl := Lib.hid l_alloc; have HWo := Lib.hid l_work; have HAm := Lib.hid l_alloc2; have HEn := Lib.hid l_end; have HMl := Lib.hid l_make2; have HCk := Lib.hid l_check
  go_enter Try.func15, Try.ntmps15
  go_wp2_with fail
  go_at_call 13
  refine (HMk.out _).mono ?_
  rintro e w1 ⟨A1, c1, rfl, o_r1, hb_w1⟩
  have s_w1 := hb_w1.size
  (try simp only [World.size_alloc, size_ten] at s_w1)
  have hb0_w1 := hb_w1
  clear hb_w1
  have r1 := o_r1.row
  have n1 := o_r1.nil
  have b_r1 := Below.refl w1.heap.size w1
  have b_w0 := hb0_w1
  have b_r1 : Below w1.heap.size w1 (w1.alloc (.cells #[.int .i64 100, .int .u64 10, .int .u64 1000, .bool false, .int .u64 0, .int .u64 0, .int .u64 0, .int .u64 0, .int .u64 0, .slice A1 2 c1] 25)) := b_r1.alloc (by first | omega | (simp only [World.size_alloc, size_ten]; omega)) _
  have bp := Ten.new w1 (.int .i64 100) (.int .u64 10) (.int .u64 1000) (.bool false) (.int .u64 0) (.int .u64 0) (.int .u64 0) (.int .u64 0) (.int .u64 0) (.slice A1 2 c1) 25
  (try simp only [World.size_alloc, size_ten] at bp)
  go_wp2_with fail
  go_at_call 9
  refine (HGo.out _ A1 c1 (by exact r1.later b_r1)).mono ?_
  rintro e w2 ⟨rfl, hb_w2⟩
  have s_w2 := hb_w2.size
  (try simp only [World.size_alloc, size_ten] at s_w2)
  have bp := bp.later hb_w2
  have bp_lt := bp.lt
  have b_r1 := below_trans b_r1 hb_w2 b_r1.size
  clear hb_w2
  obtain ⟨bp_0, bp_1, bp_2, bp_3, bp_4, bp_5, bp_6, bp_7, bp_8, bp_9, bp_f⟩ := id bp
  go_wp2_with fail
  go_at_call 11
  refine (HDu.out _ A1 c1 (by exact r1.later b_r1)).mono ?_
  rintro e w3 ⟨rfl, hb_w3⟩
  clear bp_0 bp_1 bp_2 bp_3 bp_4 bp_5 bp_6 bp_7 bp_8 bp_9 bp_f
  have s_w3 := hb_w3.size
  (try simp only [World.size_alloc, size_ten] at s_w3)
  have bp := bp.later hb_w3
  have bp_lt := bp.lt
  have b_r1 := below_trans b_r1 hb_w3 b_r1.size
  clear hb_w3
  obtain ⟨bp_0, bp_1, bp_2, bp_3, bp_4, bp_5, bp_6, bp_7, bp_8, bp_9, bp_f⟩ := id bp
  go_wp2_with fail
  go_at_call 20
  refine (HBe.out _ A1 c1 (by exact r1.later b_r1) n1).mono ?_
  rintro e w4 ⟨A4, c4, rfl, o_r4, hb_w4⟩
  clear bp_0 bp_1 bp_2 bp_3 bp_4 bp_5 bp_6 bp_7 bp_8 bp_9 bp_f
  have s_w4 := hb_w4.size
  (try simp only [World.size_alloc, size_ten] at s_w4)
  have bp := bp.later hb_w4
  have bp_lt := bp.lt
  have b_r1 := below_trans b_r1 hb_w4 b_r1.size
  clear hb_w4
  have r4 := o_r4.row
  have n4 := o_r4.nil
  have b_r4 := Below.refl w4.heap.size w4
  obtain ⟨bp_0, bp_1, bp_2, bp_3, bp_4, bp_5, bp_6, bp_7, bp_8, bp_9, bp_f⟩ := id bp
  have b_r1 := below_ten (b := w1.heap.size) b_r1 (by omega) (.int .i64 100) (.int .u64 10) (.int .u64 1000) (.bool true) (.int .u64 1000) (.int .u64 300) (.int .u64 0) (.int .u64 0) (.int .u64 0) (.slice A4 2 c4)
  have o_r4 := o_r4.ten (g := w1.heap.size) (.inl (by first | omega | (simp only [World.size_alloc, size_ten]; omega))) (.int .i64 100) (.int .u64 10) (.int .u64 1000) (.bool true) (.int .u64 1000) (.int .u64 300) (.int .u64 0) (.int .u64 0) (.int .u64 0) (.slice A4 2 c4)
  have r4 := o_r4.row
  have n4 := o_r4.nil
  have b_r4 := Below.refl (((((((((((w4.setCell ⟨w1.heap.size, 0, none⟩ (.int .i64 100)).setCell ⟨w1.heap.size, 1, none⟩ (.int .u64 10)).setCell ⟨w1.heap.size, 2, none⟩ (.int .u64 1000)).setCell ⟨w1.heap.size, 3, none⟩ (.bool true)).setCell ⟨w1.heap.size, 4, none⟩ (.int .u64 1000)).setCell ⟨w1.heap.size, 5, none⟩ (.int .u64 300)).setCell ⟨w1.heap.size, 6, none⟩ (.int .u64 0)).setCell ⟨w1.heap.size, 7, none⟩ (.int .u64 0)).setCell ⟨w1.heap.size, 8, none⟩ (.int .u64 0)).setCell ⟨w1.heap.size, 9, none⟩ (.slice A4 2 c4))).heap.size ((((((((((w4.setCell ⟨w1.heap.size, 0, none⟩ (.int .i64 100)).setCell ⟨w1.heap.size, 1, none⟩ (.int .u64 10)).setCell ⟨w1.heap.size, 2, none⟩ (.int .u64 1000)).setCell ⟨w1.heap.size, 3, none⟩ (.bool true)).setCell ⟨w1.heap.size, 4, none⟩ (.int .u64 1000)).setCell ⟨w1.heap.size, 5, none⟩ (.int .u64 300)).setCell ⟨w1.heap.size, 6, none⟩ (.int .u64 0)).setCell ⟨w1.heap.size, 7, none⟩ (.int .u64 0)).setCell ⟨w1.heap.size, 8, none⟩ (.int .u64 0)).setCell ⟨w1.heap.size, 9, none⟩ (.slice A4 2 c4))
  have bp := bp.all (.int .i64 100) (.int .u64 10) (.int .u64 1000) (.bool true) (.int .u64 1000) (.int .u64 300) (.int .u64 0) (.int .u64 0) (.int .u64 0) (.slice A4 2 c4)
  go_wp2_with fail
  go_at_call 24
  refine (HAl.out _ A4 c4 (by exact r4.later b_r4) n4).mono ?_
  rintro e w5 ⟨A5, c5, rfl, o_r5, hb_w5⟩
  clear bp_0 bp_1 bp_2 bp_3 bp_4 bp_5 bp_6 bp_7 bp_8 bp_9 bp_f
  have s_w5 := hb_w5.size
  (try simp only [World.size_alloc, size_ten] at s_w5)
  have bp := bp.later hb_w5
  have bp_lt := bp.lt
  have b_r1 := below_trans b_r1 hb_w5 b_r1.size
  have b_r4 := below_trans b_r4 hb_w5 b_r4.size
  clear hb_w5
  have r5 := o_r5.row
  have n5 := o_r5.nil
  have b_r5 := Below.refl w5.heap.size w5
  obtain ⟨bp_0, bp_1, bp_2, bp_3, bp_4, bp_5, bp_6, bp_7, bp_8, bp_9, bp_f⟩ := id bp
  have bp := bp.later ((Below.refl _ _).alloc (Nat.le_refl _) (.cells #[.int .i64 100, .int .u64 10, .int .u64 1000, .bool true, .int .u64 1000, .int .u64 300, .int .u64 0, .int .u64 0, .int .u64 3, .slice A5 2 c5] 25))
  have b_r1 : Below w1.heap.size w1 (w5.alloc (.cells #[.int .i64 100, .int .u64 10, .int .u64 1000, .bool true, .int .u64 1000, .int .u64 300, .int .u64 0, .int .u64 0, .int .u64 3, .slice A5 2 c5] 25)) := b_r1.alloc (by first | omega | (simp only [World.size_alloc, size_ten]; omega)) _
  have b_r4 : Below ((((((((((w4.setCell ⟨w1.heap.size, 0, none⟩ (.int .i64 100)).setCell ⟨w1.heap.size, 1, none⟩ (.int .u64 10)).setCell ⟨w1.heap.size, 2, none⟩ (.int .u64 1000)).setCell ⟨w1.heap.size, 3, none⟩ (.bool true)).setCell ⟨w1.heap.size, 4, none⟩ (.int .u64 1000)).setCell ⟨w1.heap.size, 5, none⟩ (.int .u64 300)).setCell ⟨w1.heap.size, 6, none⟩ (.int .u64 0)).setCell ⟨w1.heap.size, 7, none⟩ (.int .u64 0)).setCell ⟨w1.heap.size, 8, none⟩ (.int .u64 0)).setCell ⟨w1.heap.size, 9, none⟩ (.slice A4 2 c4)).heap.size ((((((((((w4.setCell ⟨w1.heap.size, 0, none⟩ (.int .i64 100)).setCell ⟨w1.heap.size, 1, none⟩ (.int .u64 10)).setCell ⟨w1.heap.size, 2, none⟩ (.int .u64 1000)).setCell ⟨w1.heap.size, 3, none⟩ (.bool true)).setCell ⟨w1.heap.size, 4, none⟩ (.int .u64 1000)).setCell ⟨w1.heap.size, 5, none⟩ (.int .u64 300)).setCell ⟨w1.heap.size, 6, none⟩ (.int .u64 0)).setCell ⟨w1.heap.size, 7, none⟩ (.int .u64 0)).setCell ⟨w1.heap.size, 8, none⟩ (.int .u64 0)).setCell ⟨w1.heap.size, 9, none⟩ (.slice A4 2 c4)) (w5.alloc (.cells #[.int .i64 100, .int .u64 10, .int .u64 1000, .bool true, .int .u64 1000, .int .u64 300, .int .u64 0, .int .u64 0, .int .u64 3, .slice A5 2 c5] 25)) := b_r4.alloc (by first | omega | (simp only [World.size_alloc, size_ten]; omega)) _
  have b_r5 : Below w5.heap.size w5 (w5.alloc (.cells #[.int .i64 100, .int .u64 10, .int .u64 1000, .bool true, .int .u64 1000, .int .u64 300, .int .u64 0, .int .u64 0, .int .u64 3, .slice A5 2 c5] 25)) := b_r5.alloc (by first | omega | (simp only [World.size_alloc, size_ten]; omega)) _
  have bq := Ten.new w5 (.int .i64 100) (.int .u64 10) (.int .u64 1000) (.bool true) (.int .u64 1000) (.int .u64 300) (.int .u64 0) (.int .u64 0) (.int .u64 3) (.slice A5 2 c5) 25
  (try simp only [World.size_alloc, size_ten] at bq)
  have bp := bp.later ((Below.refl _ _).alloc (Nat.le_refl _) (.cells #[.int .u64 4, .int .u64 7] 22))
  have bq := bq.later ((Below.refl _ _).alloc (Nat.le_refl _) (.cells #[.int .u64 4, .int .u64 7] 22))
  have b_r1 : Below w1.heap.size w1 ((w5.alloc (.cells #[.int .i64 100, .int .u64 10, .int .u64 1000, .bool true, .int .u64 1000, .int .u64 300, .int .u64 0, .int .u64 0, .int .u64 3, .slice A5 2 c5] 25)).alloc (.cells #[.int .u64 4, .int .u64 7] 22)) := b_r1.alloc (by first | omega | (simp only [World.size_alloc, size_ten]; omega)) _
  have b_r4 : Below ((((((((((w4.setCell ⟨w1.heap.size, 0, none⟩ (.int .i64 100)).setCell ⟨w1.heap.size, 1, none⟩ (.int .u64 10)).setCell ⟨w1.heap.size, 2, none⟩ (.int .u64 1000)).setCell ⟨w1.heap.size, 3, none⟩ (.bool true)).setCell ⟨w1.heap.size, 4, none⟩ (.int .u64 1000)).setCell ⟨w1.heap.size, 5, none⟩ (.int .u64 300)).setCell ⟨w1.heap.size, 6, none⟩ (.int .u64 0)).setCell ⟨w1.heap.size, 7, none⟩ (.int .u64 0)).setCell ⟨w1.heap.size, 8, none⟩ (.int .u64 0)).setCell ⟨w1.heap.size, 9, none⟩ (.slice A4 2 c4)).heap.size ((((((((((w4.setCell ⟨w1.heap.size, 0, none⟩ (.int .i64 100)).setCell ⟨w1.heap.size, 1, none⟩ (.int .u64 10)).setCell ⟨w1.heap.size, 2, none⟩ (.int .u64 1000)).setCell ⟨w1.heap.size, 3, none⟩ (.bool true)).setCell ⟨w1.heap.size, 4, none⟩ (.int .u64 1000)).setCell ⟨w1.heap.size, 5, none⟩ (.int .u64 300)).setCell ⟨w1.heap.size, 6, none⟩ (.int .u64 0)).setCell ⟨w1.heap.size, 7, none⟩ (.int .u64 0)).setCell ⟨w1.heap.size, 8, none⟩ (.int .u64 0)).setCell ⟨w1.heap.size, 9, none⟩ (.slice A4 2 c4)) ((w5.alloc (.cells #[.int .i64 100, .int .u64 10, .int .u64 1000, .bool true, .int .u64 1000, .int .u64 300, .int .u64 0, .int .u64 0, .int .u64 3, .slice A5 2 c5] 25)).alloc (.cells #[.int .u64 4, .int .u64 7] 22)) := b_r4.alloc (by first | omega | (simp only [World.size_alloc, size_ten]; omega)) _
  have b_r5 : Below w5.heap.size w5 ((w5.alloc (.cells #[.int .i64 100, .int .u64 10, .int .u64 1000, .bool true, .int .u64 1000, .int .u64 300, .int .u64 0, .int .u64 0, .int .u64 3, .slice A5 2 c5] 25)).alloc (.cells #[.int .u64 4, .int .u64 7] 22)) := b_r5.alloc (by first | omega | (simp only [World.size_alloc, size_ten]; omega)) _
  go_wp2_with fail
  go_at_call 26
  refine (HWo.out _ A5 c5 (by exact r5.later b_r5) n5 _ (by exact Row.news words_47 (by simp only [World.size_alloc]))).mono ?_
  rintro e w6 ⟨A6, c6, rfl, o_r6, hb_w6⟩
  clear bp_0 bp_1 bp_2 bp_3 bp_4 bp_5 bp_6 bp_7 bp_8 bp_9 bp_f
  have s_w6 := hb_w6.size
  (try simp only [World.size_alloc, size_ten] at s_w6)
  have bp := bp.later hb_w6
  have bp_lt := bp.lt
  have bq := bq.later hb_w6
  have bq_lt := bq.lt
  have b_r1 := below_trans b_r1 hb_w6 b_r1.size
  have b_r4 := below_trans b_r4 hb_w6 b_r4.size
  have b_r5 := below_trans b_r5 hb_w6 b_r5.size
  clear hb_w6
  have r6 := o_r6.row
  have n6 := o_r6.nil
  have b_r6 := Below.refl w6.heap.size w6
  obtain ⟨bq_0, bq_1, bq_2, bq_3, bq_4, bq_5, bq_6, bq_7, bq_8, bq_9, bq_f⟩ := id bq
  clear b_r4 r4 b_r5 r5
  have bp := bp.over (g := w5.heap.size) (by omega) (.int .i64 100) (.int .u64 10) (.int .u64 1000) (.bool true) (.int .u64 1000) (.int .u64 300) (.int .u64 1) (.int .u64 11) (.int .u64 3) (.slice A6 2 c6)
  have b_r1 := below_ten (b := w5.heap.size) b_r1 (by omega) (.int .i64 100) (.int .u64 10) (.int .u64 1000) (.bool true) (.int .u64 1000) (.int .u64 300) (.int .u64 1) (.int .u64 11) (.int .u64 3) (.slice A6 2 c6)
  have o_r6 := o_r6.ten (g := w5.heap.size) (.inl (by first | omega | (simp only [World.size_alloc, size_ten]; omega))) (.int .i64 100) (.int .u64 10) (.int .u64 1000) (.bool true) (.int .u64 1000) (.int .u64 300) (.int .u64 1) (.int .u64 11) (.int .u64 3) (.slice A6 2 c6)
  have r6 := o_r6.row
  have n6 := o_r6.nil
  have b_r6 := Below.refl (((((((((((w6.setCell ⟨w5.heap.size, 0, none⟩ (.int .i64 100)).setCell ⟨w5.heap.size, 1, none⟩ (.int .u64 10)).setCell ⟨w5.heap.size, 2, none⟩ (.int .u64 1000)).setCell ⟨w5.heap.size, 3, none⟩ (.bool true)).setCell ⟨w5.heap.size, 4, none⟩ (.int .u64 1000)).setCell ⟨w5.heap.size, 5, none⟩ (.int .u64 300)).setCell ⟨w5.heap.size, 6, none⟩ (.int .u64 1)).setCell ⟨w5.heap.size, 7, none⟩ (.int .u64 11)).setCell ⟨w5.heap.size, 8, none⟩ (.int .u64 3)).setCell ⟨w5.heap.size, 9, none⟩ (.slice A6 2 c6))).heap.size ((((((((((w6.setCell ⟨w5.heap.size, 0, none⟩ (.int .i64 100)).setCell ⟨w5.heap.size, 1, none⟩ (.int .u64 10)).setCell ⟨w5.heap.size, 2, none⟩ (.int .u64 1000)).setCell ⟨w5.heap.size, 3, none⟩ (.bool true)).setCell ⟨w5.heap.size, 4, none⟩ (.int .u64 1000)).setCell ⟨w5.heap.size, 5, none⟩ (.int .u64 300)).setCell ⟨w5.heap.size, 6, none⟩ (.int .u64 1)).setCell ⟨w5.heap.size, 7, none⟩ (.int .u64 11)).setCell ⟨w5.heap.size, 8, none⟩ (.int .u64 3)).setCell ⟨w5.heap.size, 9, none⟩ (.slice A6 2 c6))
  have bq := bq.all (.int .i64 100) (.int .u64 10) (.int .u64 1000) (.bool true) (.int .u64 1000) (.int .u64 300) (.int .u64 1) (.int .u64 11) (.int .u64 3) (.slice A6 2 c6)
  go_wp2_with fail
  go_at_call 24
  refine (HAm.out _ A6 c6 (by exact r6.later b_r6) n6).mono ?_
  rintro e w7 ⟨A7, c7, rfl, o_r7, hb_w7⟩
  clear bq_0 bq_1 bq_2 bq_3 bq_4 bq_5 bq_6 bq_7 bq_8 bq_9 bq_f
  have s_w7 := hb_w7.size
  (try simp only [World.size_alloc, size_ten] at s_w7)
  have bp := bp.later hb_w7
  have bp_lt := bp.lt
  have bq := bq.later hb_w7
  have bq_lt := bq.lt
  have b_r1 := below_trans b_r1 hb_w7 b_r1.size
  have b_r6 := below_trans b_r6 hb_w7 b_r6.size
  clear hb_w7
  have r7 := o_r7.row
  have n7 := o_r7.nil
  have b_r7 := Below.refl w7.heap.size w7
  obtain ⟨bq_0, bq_1, bq_2, bq_3, bq_4, bq_5, bq_6, bq_7, bq_8, bq_9, bq_f⟩ := id bq
  clear b_r6 r6
  have bp := bp.over (g := w5.heap.size) (by omega) (.int .i64 100) (.int .u64 10) (.int .u64 1000) (.bool true) (.int .u64 1000) (.int .u64 300) (.int .u64 1) (.int .u64 11) (.int .u64 3) (.slice A7 2 c7)
  have b_r1 := below_ten (b := w5.heap.size) b_r1 (by omega) (.int .i64 100) (.int .u64 10) (.int .u64 1000) (.bool true) (.int .u64 1000) (.int .u64 300) (.int .u64 1) (.int .u64 11) (.int .u64 3) (.slice A7 2 c7)
  have o_r7 := o_r7.ten (g := w5.heap.size) (.inl (by first | omega | (simp only [World.size_alloc, size_ten]; omega))) (.int .i64 100) (.int .u64 10) (.int .u64 1000) (.bool true) (.int .u64 1000) (.int .u64 300) (.int .u64 1) (.int .u64 11) (.int .u64 3) (.slice A7 2 c7)
  have r7 := o_r7.row
  have n7 := o_r7.nil
  have b_r7 := Below.refl (((((((((((w7.setCell ⟨w5.heap.size, 0, none⟩ (.int .i64 100)).setCell ⟨w5.heap.size, 1, none⟩ (.int .u64 10)).setCell ⟨w5.heap.size, 2, none⟩ (.int .u64 1000)).setCell ⟨w5.heap.size, 3, none⟩ (.bool true)).setCell ⟨w5.heap.size, 4, none⟩ (.int .u64 1000)).setCell ⟨w5.heap.size, 5, none⟩ (.int .u64 300)).setCell ⟨w5.heap.size, 6, none⟩ (.int .u64 1)).setCell ⟨w5.heap.size, 7, none⟩ (.int .u64 11)).setCell ⟨w5.heap.size, 8, none⟩ (.int .u64 3)).setCell ⟨w5.heap.size, 9, none⟩ (.slice A7 2 c7))).heap.size ((((((((((w7.setCell ⟨w5.heap.size, 0, none⟩ (.int .i64 100)).setCell ⟨w5.heap.size, 1, none⟩ (.int .u64 10)).setCell ⟨w5.heap.size, 2, none⟩ (.int .u64 1000)).setCell ⟨w5.heap.size, 3, none⟩ (.bool true)).setCell ⟨w5.heap.size, 4, none⟩ (.int .u64 1000)).setCell ⟨w5.heap.size, 5, none⟩ (.int .u64 300)).setCell ⟨w5.heap.size, 6, none⟩ (.int .u64 1)).setCell ⟨w5.heap.size, 7, none⟩ (.int .u64 11)).setCell ⟨w5.heap.size, 8, none⟩ (.int .u64 3)).setCell ⟨w5.heap.size, 9, none⟩ (.slice A7 2 c7))
  have bq := bq.all (.int .i64 100) (.int .u64 10) (.int .u64 1000) (.bool true) (.int .u64 1000) (.int .u64 300) (.int .u64 1) (.int .u64 11) (.int .u64 3) (.slice A7 2 c7)
  go_wp2_with fail
  go_at_call 22
  refine (HEn.out _ A7 c7 (by exact r7.later b_r7) n7).mono ?_
  rintro e w8 ⟨A8, c8, rfl, o_r8, hb_w8⟩
  clear bq_0 bq_1 bq_2 bq_3 bq_4 bq_5 bq_6 bq_7 bq_8 bq_9 bq_f
  have s_w8 := hb_w8.size
  (try simp only [World.size_alloc, size_ten] at s_w8)
  have bp := bp.later hb_w8
  have bp_lt := bp.lt
  have bq := bq.later hb_w8
  have bq_lt := bq.lt
  have b_r1 := below_trans b_r1 hb_w8 b_r1.size
  have b_r7 := below_trans b_r7 hb_w8 b_r7.size
  clear hb_w8
  have r8 := o_r8.row
  have n8 := o_r8.nil
  have b_r8 := Below.refl w8.heap.size w8
  obtain ⟨bq_0, bq_1, bq_2, bq_3, bq_4, bq_5, bq_6, bq_7, bq_8, bq_9, bq_f⟩ := id bq
  have bp := bp.later ((Below.refl _ _).alloc (Nat.le_refl _) (.cells #[.int .i64 100, .int .u64 10, .int .u64 5, .bool false, .int .u64 0, .int .u64 0, .int .u64 0, .int .u64 0, .int .u64 0, .slice A8 2 c8] 25))
  have bq := bq.later ((Below.refl _ _).alloc (Nat.le_refl _) (.cells #[.int .i64 100, .int .u64 10, .int .u64 5, .bool false, .int .u64 0, .int .u64 0, .int .u64 0, .int .u64 0, .int .u64 0, .slice A8 2 c8] 25))
  have b_r1 : Below w1.heap.size w1 (w8.alloc (.cells #[.int .i64 100, .int .u64 10, .int .u64 5, .bool false, .int .u64 0, .int .u64 0, .int .u64 0, .int .u64 0, .int .u64 0, .slice A8 2 c8] 25)) := b_r1.alloc (by first | omega | (simp only [World.size_alloc, size_ten]; omega)) _
  have b_r7 : Below ((((((((((w7.setCell ⟨w5.heap.size, 0, none⟩ (.int .i64 100)).setCell ⟨w5.heap.size, 1, none⟩ (.int .u64 10)).setCell ⟨w5.heap.size, 2, none⟩ (.int .u64 1000)).setCell ⟨w5.heap.size, 3, none⟩ (.bool true)).setCell ⟨w5.heap.size, 4, none⟩ (.int .u64 1000)).setCell ⟨w5.heap.size, 5, none⟩ (.int .u64 300)).setCell ⟨w5.heap.size, 6, none⟩ (.int .u64 1)).setCell ⟨w5.heap.size, 7, none⟩ (.int .u64 11)).setCell ⟨w5.heap.size, 8, none⟩ (.int .u64 3)).setCell ⟨w5.heap.size, 9, none⟩ (.slice A7 2 c7)).heap.size ((((((((((w7.setCell ⟨w5.heap.size, 0, none⟩ (.int .i64 100)).setCell ⟨w5.heap.size, 1, none⟩ (.int .u64 10)).setCell ⟨w5.heap.size, 2, none⟩ (.int .u64 1000)).setCell ⟨w5.heap.size, 3, none⟩ (.bool true)).setCell ⟨w5.heap.size, 4, none⟩ (.int .u64 1000)).setCell ⟨w5.heap.size, 5, none⟩ (.int .u64 300)).setCell ⟨w5.heap.size, 6, none⟩ (.int .u64 1)).setCell ⟨w5.heap.size, 7, none⟩ (.int .u64 11)).setCell ⟨w5.heap.size, 8, none⟩ (.int .u64 3)).setCell ⟨w5.heap.size, 9, none⟩ (.slice A7 2 c7)) (w8.alloc (.cells #[.int .i64 100, .int .u64 10, .int .u64 5, .bool false, .int .u64 0, .int .u64 0, .int .u64 0, .int .u64 0, .int .u64 0, .slice A8 2 c8] 25)) := b_r7.alloc (by first | omega | (simp only [World.size_alloc, size_ten]; omega)) _
  have b_r8 : Below w8.heap.size w8 (w8.alloc (.cells #[.int .i64 100, .int .u64 10, .int .u64 5, .bool false, .int .u64 0, .int .u64 0, .int .u64 0, .int .u64 0, .int .u64 0, .slice A8 2 c8] 25)) := b_r8.alloc (by first | omega | (simp only [World.size_alloc, size_ten]; omega)) _
  have be := Ten.new w8 (.int .i64 100) (.int .u64 10) (.int .u64 5) (.bool false) (.int .u64 0) (.int .u64 0) (.int .u64 0) (.int .u64 0) (.int .u64 0) (.slice A8 2 c8) 25
  (try simp only [World.size_alloc, size_ten] at be)
  go_wp2_with fail
  go_at_call 13
  refine (HMl.out _).mono ?_
  rintro e w9 ⟨A9, c9, rfl, o_r9, hb_w9⟩
  clear bq_0 bq_1 bq_2 bq_3 bq_4 bq_5 bq_6 bq_7 bq_8 bq_9 bq_f
  have s_w9 := hb_w9.size
  (try simp only [World.size_alloc, size_ten] at s_w9)
  have bp := bp.later hb_w9
  have bp_lt := bp.lt
  have bq := bq.later hb_w9
  have bq_lt := bq.lt
  have be := be.later hb_w9
  have be_lt := be.lt
  have b_r1 := below_trans b_r1 hb_w9 b_r1.size
  have b_r7 := below_trans b_r7 hb_w9 b_r7.size
  have b_r8 := below_trans b_r8 hb_w9 b_r8.size
  clear hb_w9
  have r9 := o_r9.row
  have b_r9 := Below.refl w9.heap.size w9
  obtain ⟨bq_0, bq_1, bq_2, bq_3, bq_4, bq_5, bq_6, bq_7, bq_8, bq_9, bq_f⟩ := id bq
  obtain ⟨be_0, be_1, be_2, be_3, be_4, be_5, be_6, be_7, be_8, be_9, be_f⟩ := id be
  have bp := bp.later ((Below.refl _ _).alloc (Nat.le_refl _) (.cells #[.int .i64 0, .int .u64 0, .int .u64 0, .bool false, .int .u64 0, .int .u64 0, .int .u64 0, .int .u64 0, .int .u64 0, .slice A9 0 c9] 25))
  have bq := bq.later ((Below.refl _ _).alloc (Nat.le_refl _) (.cells #[.int .i64 0, .int .u64 0, .int .u64 0, .bool false, .int .u64 0, .int .u64 0, .int .u64 0, .int .u64 0, .int .u64 0, .slice A9 0 c9] 25))
  have be := be.later ((Below.refl _ _).alloc (Nat.le_refl _) (.cells #[.int .i64 0, .int .u64 0, .int .u64 0, .bool false, .int .u64 0, .int .u64 0, .int .u64 0, .int .u64 0, .int .u64 0, .slice A9 0 c9] 25))
  have b_r1 : Below w1.heap.size w1 (w9.alloc (.cells #[.int .i64 0, .int .u64 0, .int .u64 0, .bool false, .int .u64 0, .int .u64 0, .int .u64 0, .int .u64 0, .int .u64 0, .slice A9 0 c9] 25)) := b_r1.alloc (by first | omega | (simp only [World.size_alloc, size_ten]; omega)) _
  have b_r7 : Below ((((((((((w7.setCell ⟨w5.heap.size, 0, none⟩ (.int .i64 100)).setCell ⟨w5.heap.size, 1, none⟩ (.int .u64 10)).setCell ⟨w5.heap.size, 2, none⟩ (.int .u64 1000)).setCell ⟨w5.heap.size, 3, none⟩ (.bool true)).setCell ⟨w5.heap.size, 4, none⟩ (.int .u64 1000)).setCell ⟨w5.heap.size, 5, none⟩ (.int .u64 300)).setCell ⟨w5.heap.size, 6, none⟩ (.int .u64 1)).setCell ⟨w5.heap.size, 7, none⟩ (.int .u64 11)).setCell ⟨w5.heap.size, 8, none⟩ (.int .u64 3)).setCell ⟨w5.heap.size, 9, none⟩ (.slice A7 2 c7)).heap.size ((((((((((w7.setCell ⟨w5.heap.size, 0, none⟩ (.int .i64 100)).setCell ⟨w5.heap.size, 1, none⟩ (.int .u64 10)).setCell ⟨w5.heap.size, 2, none⟩ (.int .u64 1000)).setCell ⟨w5.heap.size, 3, none⟩ (.bool true)).setCell ⟨w5.heap.size, 4, none⟩ (.int .u64 1000)).setCell ⟨w5.heap.size, 5, none⟩ (.int .u64 300)).setCell ⟨w5.heap.size, 6, none⟩ (.int .u64 1)).setCell ⟨w5.heap.size, 7, none⟩ (.int .u64 11)).setCell ⟨w5.heap.size, 8, none⟩ (.int .u64 3)).setCell ⟨w5.heap.size, 9, none⟩ (.slice A7 2 c7)) (w9.alloc (.cells #[.int .i64 0, .int .u64 0, .int .u64 0, .bool false, .int .u64 0, .int .u64 0, .int .u64 0, .int .u64 0, .int .u64 0, .slice A9 0 c9] 25)) := b_r7.alloc (by first | omega | (simp only [World.size_alloc, size_ten]; omega)) _
  have b_r8 : Below w8.heap.size w8 (w9.alloc (.cells #[.int .i64 0, .int .u64 0, .int .u64 0, .bool false, .int .u64 0, .int .u64 0, .int .u64 0, .int .u64 0, .int .u64 0, .slice A9 0 c9] 25)) := b_r8.alloc (by first | omega | (simp only [World.size_alloc, size_ten]; omega)) _
  have b_r9 : Below w9.heap.size w9 (w9.alloc (.cells #[.int .i64 0, .int .u64 0, .int .u64 0, .bool false, .int .u64 0, .int .u64 0, .int .u64 0, .int .u64 0, .int .u64 0, .slice A9 0 c9] 25)) := b_r9.alloc (by first | omega | (simp only [World.size_alloc, size_ten]; omega)) _
  have bz := Ten.new w9 (.int .i64 0) (.int .u64 0) (.int .u64 0) (.bool false) (.int .u64 0) (.int .u64 0) (.int .u64 0) (.int .u64 0) (.int .u64 0) (.slice A9 0 c9) 25
  (try simp only [World.size_alloc, size_ten] at bz)
  go_wp2_with fail
  go_at_call 17
  refine (HCk.out _ A8 c8 (by exact r8.later b_r8)).mono ?_
  rintro e w10 ⟨rfl, hb_w10⟩
  clear bq_0 bq_1 bq_2 bq_3 bq_4 bq_5 bq_6 bq_7 bq_8 bq_9 bq_f
  clear be_0 be_1 be_2 be_3 be_4 be_5 be_6 be_7 be_8 be_9 be_f
  have s_w10 := hb_w10.size
  (try simp only [World.size_alloc, size_ten] at s_w10)
  have bp := bp.later hb_w10
  have bp_lt := bp.lt
  have bq := bq.later hb_w10
  have bq_lt := bq.lt
  have be := be.later hb_w10
  have be_lt := be.lt
  have bz := bz.later hb_w10
  have bz_lt := bz.lt
  have b_r1 := below_trans b_r1 hb_w10 b_r1.size
  have b_r7 := below_trans b_r7 hb_w10 b_r7.size
  have b_r8 := below_trans b_r8 hb_w10 b_r8.size
  have b_r9 := below_trans b_r9 hb_w10 b_r9.size
  clear hb_w10
  obtain ⟨bq_0, bq_1, bq_2, bq_3, bq_4, bq_5, bq_6, bq_7, bq_8, bq_9, bq_f⟩ := id bq
  obtain ⟨be_0, be_1, be_2, be_3, be_4, be_5, be_6, be_7, be_8, be_9, be_f⟩ := id be
  go_wp2
  go_ret
  exact ⟨rfl, below_trans b_w0 b_r1 s_w1⟩
end Go.Proofs.Ytkdbcoibapcmjaa
