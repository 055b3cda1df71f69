/- Contracts: the questions whose answers the document gives (puts). -/
import Derived.Test.YtbhblffomlhopaaRun
import Derived.Test.YtbhblffomlhopaaRBoth
namespace Go.Proofs.Ytbhblffomlhopaa
open Go.RowKit
set_option linter.unusedVariables false
set_option linter.unusedSimpArgs false

theorem tb_zeros (k i : Nat) : tb (List.replicate k 0) i = false := by
  unfold tb
  have : (List.replicate k 0).getD (i / 64) 0 = 0 := by
    rw [List.getD_eq_getElem?_getD, List.getElem?_replicate]
    split <;> rfl
  rw [this, Nat.zero_testBit]
theorem right_wordsN (n : Int) (h0 : 0 ≤ n) (h1 : n ≤ 4096) : Right n (wordsN n) :=
  ⟨h0, h1, by unfold wordsN; rw [List.length_replicate]; omega, fun i _ _ => tb_zeros _ _⟩

/-- bits that are named: some words, of which a fact is kept -/
def Got (w : World) (n : Int) (ws : List Nat) (why : Int) (e : Ending) (w' : World) : Prop :=
  ∃ us A cap, Hid (us = ws) ∧ e = .returned (.tuple #[.agg #[.int .i64 n, .slice A us.length cap], .int .i64 why]) ∧ Own w' w.heap.size A us ∧ Below w.heap.size w w'
theorem Fresh.got {w : World} {n : Int} {ws vs : List Nat} {why : Int} {e : Ending} {w' : World} (h : Fresh w n ws why e w') (hv : ws = vs) : Got w n vs why e w' := by
  obtain ⟨A, cap, h1, h2, h3⟩ := h
  exact ⟨ws, A, cap, hv, h1, h2, h3⟩

theorem right70 : Right 70 [0, 0] := right_wordsN 70 (by omega) (by omega)
theorem right70' : Right 70 [0, 32] := right_putW right70 69 true (by omega)
theorem right70'' : Right 70 [6, 32] := right_fillW right70' 1 2 true (by omega)
theorem length70 {us : List Nat} {a b : Nat} (h : us = [a, b]) : us.length = 2 := by rw [h]; rfl

theorem puts_any (w : World) : Calls Try.prog 17 #[] w fun e w' => e = .returned (.bool true) ∧ Below w.heap.size w w' := by
  go_enter Try.func17, Try.ntmps17
  go_wp2_with fail
  go_at_call 15
  refine ((make_ok 70 _ (by omega) (by omega)).mono fun _ _ h => h.got (vs := [0, 0]) rfl).mono ?_
  rintro e w1 ⟨u1, A1, cap1, hu1, rfl, ho1, hb_w1⟩
  obtain ⟨hc_w1, hf_w1⟩ := bcell hb_w1; have hs_w1 := hb_w1.size; (try simp only [World.size_alloc, World.size_setCell, World.size_drew, World.heap_drewN] at hs_w1)
  have hR1 : Hid (Right 70 u1) := by rw [hu1.out]; exact right70
  go_wp2_with fail
  go_at_call 24
  refine ((put_in cap1 true 69 (ho1.row.later (by repeat (first | exact Below.refl _ _ | assumption | (refine below_drewN ?_ _) | (refine Below.drew ?_) | (refine Below.alloc ?_ (by first | omega | (simp; omega) | simp) _) | (refine Below.setCell ?_ (by first | omega | (simp; omega) | simp) _) | (refine below_trans ?_ (by assumption) (by first | omega | (simp; omega) | simp))))) hR1.out (by omega) (by omega)).mono fun _ _ h => h.got (vs := [0, 32]) (by rw [hu1.out]; decide)).mono ?_
  rintro e w2 ⟨u2, A2, cap2, hu2, rfl, ho2, hb_w2⟩
  obtain ⟨hc_w2, hf_w2⟩ := bcell hb_w2; have hz_w2_w1_0 : w1.heap.size < w2.heap.size := (by have hzz := hb_w2.size; (try simp only [World.size_alloc, World.size_setCell, World.size_drew, World.heap_drewN] at hzz); omega); have hs_w2 := hb_w2.size; (try simp only [World.size_alloc, World.size_setCell, World.size_drew, World.heap_drewN] at hs_w2)
  have hR2 : Hid (Right 70 u2) := by rw [hu2.out]; exact right70'
  have t2 : Two w2 w1.heap.size _ _ := (Two.new w1 _ _ _).below hb_w2 (by first | omega | (simp; omega) | simp)
  obtain ⟨q0, q1, _⟩ := id t2
  have s0 : ∀ V, (w2.setCell ⟨w1.heap.size, 0, none⟩ V).cell? ⟨w1.heap.size, 0, none⟩ = some V := fun V => World.cell?_setCell_same _ _ _ q0
  have s1 : ∀ V V', ((w2.setCell ⟨w1.heap.size, 0, none⟩ V).setCell ⟨w1.heap.size, 1, none⟩ V').cell? ⟨w1.heap.size, 1, none⟩ = some V' := fun V V' => (set_two V V' q0 q1).2
  go_wp2_with fail
  go_at_call 22
  have r2 := (ho2.two (g := w1.heap.size) (u := .int .i64 70) (v := .slice A2 u2.length cap2) (by first | omega | (simp; omega) | simp))
  refine (get_in cap2 69 r2.row hR2.out (by omega) (by omega)).mono ?_
  rintro e w3 ⟨rfl, hb_w3⟩
  rw [show tb u2 (69 : Int).toNat = true by rw [hu2.out]; decide]
  obtain ⟨hc_w3, hf_w3⟩ := bcell hb_w3; have hz_w3_w1_0 : w1.heap.size < w3.heap.size := (by have hzz := hb_w3.size; (try simp only [World.size_alloc, World.size_setCell, World.size_drew, World.heap_drewN] at hzz); omega); have hs_w3 := hb_w3.size; (try simp only [World.size_alloc, World.size_setCell, World.size_drew, World.heap_drewN] at hs_w3)
  have r3 := r2.later hb_w3
  have t3 := (t2.set_ (.int .i64 70) (.slice A2 u2.length cap2)).below hb_w3 (by first | omega | (simp; omega) | simp)
  obtain ⟨y0, y1, _⟩ := id t3
  go_wp2_with fail
  go_at_call 26
  refine ((fill_in cap2 1 2 true r3.row hR2.out (by omega) (by omega) (by omega)).mono fun _ _ h => h.got (vs := [6, 32]) (by rw [hu2.out]; decide)).mono ?_
  rintro e w4 ⟨u4, A4, cap4, hu4, rfl, ho4, hb_w4⟩
  obtain ⟨hc_w4, hf_w4⟩ := bcell hb_w4; have hz_w4_w1_0 : w1.heap.size < w4.heap.size := (by have hzz := hb_w4.size; (try simp only [World.size_alloc, World.size_setCell, World.size_drew, World.heap_drewN] at hzz); omega); have hs_w4 := hb_w4.size; (try simp only [World.size_alloc, World.size_setCell, World.size_drew, World.heap_drewN] at hs_w4)
  have r4 := r3.later hb_w4
  have t4 := t3.below hb_w4 (by first | omega | (simp; omega) | simp)
  obtain ⟨x0, x1, _⟩ := id t4
  go_wp2_with fail
  go_at_call 24
  refine (put_out cap2 true 70 (r4.later (by repeat (first | exact Below.refl _ _ | assumption | (refine below_drewN ?_ _) | (refine Below.drew ?_) | (refine Below.alloc ?_ (by first | omega | (simp; omega) | simp) _) | (refine Below.setCell ?_ (by first | omega | (simp; omega) | simp) _) | (refine below_trans ?_ (by assumption) (by first | omega | (simp; omega) | simp))))).row hR2.out (by omega) (by omega)).mono ?_
  rintro e w5 ⟨A5, cap5, rfl, ho5, hb_w5⟩
  obtain ⟨hc_w5, hf_w5⟩ := bcell hb_w5; have hz_w5_w1_0 : w1.heap.size < w5.heap.size := (by have hzz := hb_w5.size; (try simp only [World.size_alloc, World.size_setCell, World.size_drew, World.heap_drewN] at hzz); omega); have hz_w5_w4_0 : w4.heap.size < w5.heap.size := (by have hzz := hb_w5.size; (try simp only [World.size_alloc, World.size_setCell, World.size_drew, World.heap_drewN] at hzz); omega); have hs_w5 := hb_w5.size; (try simp only [World.size_alloc, World.size_setCell, World.size_drew, World.heap_drewN] at hs_w5)
  have r5 := (r4.later ((Below.refl w4.heap.size w4).alloc (Nat.le_refl _) _)).later hb_w5
  have t5 := (t4.old (by first | omega | (simp; omega) | simp) _).below hb_w5 (by first | omega | (simp; omega) | simp)
  have c5 := (Two.new w4 (.int .i64 70) (.slice A4 u4.length cap4) 24).below hb_w5 (by first | omega | (simp; omega) | simp)
  have o5 := (ho4.later ((Below.refl w4.heap.size w4).alloc (Nat.le_refl _) _)).later hb_w5
  obtain ⟨v0, v1, _⟩ := id t5
  obtain ⟨p0, p1, _⟩ := id c5
  obtain ⟨g2, rfl, _, hg2, hcg2⟩ := r5.at_ (by rw [length70 hu2.out]; omega)
  obtain ⟨g4, rfl, _, hg4, hcg4⟩ := o5.at_ (by rw [length70 hu4.out]; omega)
  have f2 : w5.cell? ⟨g2, 1, none⟩ = some (.int .u64 32) := by
    have := (hcg2 1 (by rw [length70 hu2.out]; omega)).1
    rw [hu2.out] at this
    exact this
  have f4 : w5.cell? ⟨g4, 0, none⟩ = some (.int .u64 6) := by
    have := (hcg4 0 (by rw [length70 hu4.out]; omega)).1
    rw [hu4.out] at this
    exact this
  have hl2 : 1 < u2.length ∧ u2.length ≤ 2 := by have := length70 hu2.out; omega
  have hl4 : 0 < u4.length ∧ u4.length ≤ 2 := by have := length70 hu4.out; omega
  have HN : Hid (¬ Right 1 []) := fun h => by have := h.2.2.1; simp at this
  clear hcg2 hcg4
  go_wp2_with (go_at_call 19; refine (check_bad (A := none) (ws := []) 0 (Own.nil _ 0).row HN.out).mono ?_; rintro e w6 ⟨rfl, hb_w6⟩; obtain ⟨hc_w6, hf_w6⟩ := bcell hb_w6; have hs_w6 := hb_w6.size; (try simp only [World.size_alloc, World.size_setCell, World.size_drew, World.heap_drewN] at hs_w6))
  go_ret
  exact ⟨rfl, (by repeat (first | exact Below.refl _ _ | assumption | (refine below_drewN ?_ _) | (refine Below.drew ?_) | (refine Below.alloc ?_ (by first | omega | (simp; omega) | simp) _) | (refine Below.setCell ?_ (by first | omega | (simp; omega) | simp) _) | (refine below_trans ?_ (by assumption) (by first | omega | (simp; omega) | simp))))⟩
end Go.Proofs.Ytbhblffomlhopaa
