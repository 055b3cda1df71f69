/- The walk of PaceAsks. -/
import Derived.Test.YtkdbcoibapcmjaaN26
import Derived.Deep.RegionHeld3
namespace Go.Proofs.Ytkdbcoibapcmjaa
open Go.RowKit
set_option linter.unusedVariables false
set_option linter.unusedSimpArgs false
set_option maxRecDepth 100000

theorem makP_len {pct : Int} {lst : Nat} {mu : Int} {q : Pc} {y : Int} (h : MakP pct lst mu q y) : q.ds.length ≤ 17592186044416 := by
  rcases h with ⟨k, _, _, hk, _, rfl, _⟩ | ⟨k, _, _, _, _, rfl, _⟩ | ⟨_, rfl, _⟩
  · simp only [newP, List.length_replicate]; omega
  · simp [Pc.zero]
  · simp [Pc.zero]
section
variable {w : World} {p : Pc} {A : Option Addr} (c : Nat)
set_option maxHeartbeats 16000000 in
theorem paceAsks_walk (hf : FitP p) (hr : Row w w.heap.size A p.ds) (hl : p.ds.length ≤ 17592186044416) (heap : Nat) (pct : Int) (lst : Nat) (mu : Int) (hp1 : -9223372036854775808 ≤ pct) (hp2 : pct ≤ 9223372036854775807) (hl3 : lst < W64) :
    Calls Try.prog 3 #[(.agg #[.int .i64 p.pct, .int .u64 (p.least : Nat), .int .u64 (p.live : Nat), .bool p.on, .int .u64 (p.est : Nat), .int .u64 (p.room : Nat), .int .u64 (p.credit : Nat), .int .u64 (p.done : Nat), .int .u64 (p.made : Nat), .slice A p.ds.length c]), .int .u64 (heap : Nat), .int .i64 pct, .int .u64 (lst : Nat), .int .i64 mu] w fun e w' => e = .returned (.bool true) ∧ Below w.heap.size w w' := by
  have HLv := Lib.hid plives_any
  obtain ⟨g, t, y1, E1⟩ := GoalE.ex p
  obtain ⟨bb, y2, E2⟩ := DueE.ex p heap
  obtain ⟨m, y3, E3⟩ := MakP.ex pct lst mu
  obtain ⟨y4, E4⟩ := ChkP.ex p
  have H1 := Lib.hid fun (w : World) hr => pgoalX_any (w := w) (p := p) (A := A) c hf hr hl g t y1 E1
  have X1 := Lib.hid fun (w : World) hr => xpgoalX_any (w := w) (p := p) (A := A) c hf hr g t y1 E1
  have H2 := Lib.hid fun (w : World) hr => pdue_any (w := w) (p := p) (A := A) c hf hr hl heap bb y2 E2
  have X2 := Lib.hid fun (w : World) hr => xpdue_any (w := w) (p := p) (A := A) c hf hr heap bb y2 E2
  have H3 := Lib.hid fun (w : World) => pmakeP_any (w := w) pct lst mu hp1 hp2 hl3 m y3 E3
  have X3 := Lib.hid fun (w : World) => xpmake_any (w := w) pct lst mu hp1 hp2 hl3 m y3 E3
  have H4 := Lib.hid fun (w : World) hr => pcheck_anyP (w := w) (p := p) (A := A) c hf hr hl y4 E4
  have X4 := Lib.hid fun (w : World) hr => xpcheck_any (w := w) (p := p) (A := A) c hf hr y4 E4
  have lm := makP_len E3
  have HS := Lib.hid fun (w : World) (A C : Option Addr) (c cc : Nat) hr hq => xpsame_ok (w := w) (p := m) (A := A) (C := C) c cc hr hq lm
  clear E1 E2 E3 E4 hf
  go_enter Try.func3, Try.ntmps3
  have r1 := hr
  have b_r1 := Below.refl w.heap.size w
  have b_r1 : Below w.heap.size w (w.alloc (.cells #[.int .i64 p.pct, .int .u64 (p.least : Nat), .int .u64 (p.live : Nat), .bool p.on, .int .u64 (p.est : Nat), .int .u64 (p.room : Nat), .int .u64 (p.credit : Nat), .int .u64 (p.done : Nat), .int .u64 (p.made : Nat), .slice A p.ds.length c] 25)) := b_r1.alloc (by first | omega | (simp only [World.size_alloc, size_ten]; omega)) _
  have bp := Ten.new w (.int .i64 p.pct) (.int .u64 (p.least : Nat)) (.int .u64 (p.live : Nat)) (.bool p.on) (.int .u64 (p.est : Nat)) (.int .u64 (p.room : Nat)) (.int .u64 (p.credit : Nat)) (.int .u64 (p.done : Nat)) (.int .u64 (p.made : Nat)) (.slice A p.ds.length c) 25
  (try simp only [World.size_alloc, size_ten] at bp)
  go_wp2_with fail
  go_at_call 9
  refine (H1.out _ (by exact r1.later b_r1)).mono ?_
  rintro e w1 ⟨rfl, hb_w1⟩
  have s_w1 := hb_w1.size
  (try simp only [World.size_alloc, size_ten] at s_w1)
  have bp := bp.later hb_w1
  have bp_lt := bp.lt
  have b_r1 := below_trans b_r1 hb_w1 b_r1.size
  clear hb_w1
  obtain ⟨bp_0, bp_1, bp_2, bp_3, bp_4, bp_5, bp_6, bp_7, bp_8, bp_9, bp_f⟩ := id bp
  go_wp2_with fail
  go_at_call 10
  refine (X1.out _ (by exact r1.later b_r1)).mono ?_
  rintro e w2 ⟨rfl, hb_w2⟩
  clear bp_0 bp_1 bp_2 bp_3 bp_4 bp_5 bp_6 bp_7 bp_8 bp_9 bp_f
  have s_w2 := hb_w2.size
  (try simp only [World.size_alloc, size_ten] at s_w2)
  have bp := bp.later hb_w2
  have bp_lt := bp.lt
  have b_r1 := below_trans b_r1 hb_w2 b_r1.size
  clear hb_w2
  obtain ⟨bp_0, bp_1, bp_2, bp_3, bp_4, bp_5, bp_6, bp_7, bp_8, bp_9, bp_f⟩ := id bp
  go_wp2_with fail
  go_at_call 11
  refine (H2.out _ (by exact r1.later b_r1)).mono ?_
  rintro e w3 ⟨rfl, hb_w3⟩
  clear bp_0 bp_1 bp_2 bp_3 bp_4 bp_5 bp_6 bp_7 bp_8 bp_9 bp_f
  have s_w3 := hb_w3.size
  (try simp only [World.size_alloc, size_ten] at s_w3)
  have bp := bp.later hb_w3
  have bp_lt := bp.lt
  have b_r1 := below_trans b_r1 hb_w3 b_r1.size
  clear hb_w3
  obtain ⟨bp_0, bp_1, bp_2, bp_3, bp_4, bp_5, bp_6, bp_7, bp_8, bp_9, bp_f⟩ := id bp
  go_wp2_with fail
  go_at_call 12
  refine (X2.out _ (by exact r1.later b_r1)).mono ?_
  rintro e w4 ⟨rfl, hb_w4⟩
  clear bp_0 bp_1 bp_2 bp_3 bp_4 bp_5 bp_6 bp_7 bp_8 bp_9 bp_f
  have s_w4 := hb_w4.size
  (try simp only [World.size_alloc, size_ten] at s_w4)
  have bp := bp.later hb_w4
  have bp_lt := bp.lt
  have b_r1 := below_trans b_r1 hb_w4 b_r1.size
  clear hb_w4
  obtain ⟨bp_0, bp_1, bp_2, bp_3, bp_4, bp_5, bp_6, bp_7, bp_8, bp_9, bp_f⟩ := id bp
  go_wp2_with fail
  go_at_call 13
  refine (H3.out _).mono ?_
  rintro e w5 ⟨A2, c2, rfl, o_r2, hb_w5⟩
  clear bp_0 bp_1 bp_2 bp_3 bp_4 bp_5 bp_6 bp_7 bp_8 bp_9 bp_f
  have s_w5 := hb_w5.size
  (try simp only [World.size_alloc, size_ten] at s_w5)
  have bp := bp.later hb_w5
  have bp_lt := bp.lt
  have b_r1 := below_trans b_r1 hb_w5 b_r1.size
  clear hb_w5
  have r2 := o_r2.row
  have b_r2 := Below.refl w5.heap.size w5
  obtain ⟨bp_0, bp_1, bp_2, bp_3, bp_4, bp_5, bp_6, bp_7, bp_8, bp_9, bp_f⟩ := id bp
  have bp := bp.later ((Below.refl _ _).alloc (Nat.le_refl _) (.cells #[.int .i64 m.pct, .int .u64 (m.least : Nat), .int .u64 (m.live : Nat), .bool m.on, .int .u64 (m.est : Nat), .int .u64 (m.room : Nat), .int .u64 (m.credit : Nat), .int .u64 (m.done : Nat), .int .u64 (m.made : Nat), .slice A2 m.ds.length c2] 25))
  have b_r1 : Below w.heap.size w (w5.alloc (.cells #[.int .i64 m.pct, .int .u64 (m.least : Nat), .int .u64 (m.live : Nat), .bool m.on, .int .u64 (m.est : Nat), .int .u64 (m.room : Nat), .int .u64 (m.credit : Nat), .int .u64 (m.done : Nat), .int .u64 (m.made : Nat), .slice A2 m.ds.length c2] 25)) := b_r1.alloc (by first | omega | (simp only [World.size_alloc, size_ten]; omega)) _
  have b_r2 : Below w5.heap.size w5 (w5.alloc (.cells #[.int .i64 m.pct, .int .u64 (m.least : Nat), .int .u64 (m.live : Nat), .bool m.on, .int .u64 (m.est : Nat), .int .u64 (m.room : Nat), .int .u64 (m.credit : Nat), .int .u64 (m.done : Nat), .int .u64 (m.made : Nat), .slice A2 m.ds.length c2] 25)) := b_r2.alloc (by first | omega | (simp only [World.size_alloc, size_ten]; omega)) _
  have bm := Ten.new w5 (.int .i64 m.pct) (.int .u64 (m.least : Nat)) (.int .u64 (m.live : Nat)) (.bool m.on) (.int .u64 (m.est : Nat)) (.int .u64 (m.room : Nat)) (.int .u64 (m.credit : Nat)) (.int .u64 (m.done : Nat)) (.int .u64 (m.made : Nat)) (.slice A2 m.ds.length c2) 25
  (try simp only [World.size_alloc, size_ten] at bm)
  go_wp2_with fail
  go_at_call 14
  refine (X3.out _).mono ?_
  rintro e w6 ⟨A3, c3, rfl, o_r3, hb_w6⟩
  clear bp_0 bp_1 bp_2 bp_3 bp_4 bp_5 bp_6 bp_7 bp_8 bp_9 bp_f
  have s_w6 := hb_w6.size
  (try simp only [World.size_alloc, size_ten] at s_w6)
  have bp := bp.later hb_w6
  have bp_lt := bp.lt
  have bm := bm.later hb_w6
  have bm_lt := bm.lt
  have b_r1 := below_trans b_r1 hb_w6 b_r1.size
  have b_r2 := below_trans b_r2 hb_w6 b_r2.size
  clear hb_w6
  have r3 := o_r3.row
  have b_r3 := Below.refl w6.heap.size w6
  obtain ⟨bp_0, bp_1, bp_2, bp_3, bp_4, bp_5, bp_6, bp_7, bp_8, bp_9, bp_f⟩ := id bp
  obtain ⟨bm_0, bm_1, bm_2, bm_3, bm_4, bm_5, bm_6, bm_7, bm_8, bm_9, bm_f⟩ := id bm
  have bp := bp.later ((Below.refl _ _).alloc (Nat.le_refl _) (.cells #[.int .i64 m.pct, .int .u64 (m.least : Nat), .int .u64 (m.live : Nat), .bool m.on, .int .u64 (m.est : Nat), .int .u64 (m.room : Nat), .int .u64 (m.credit : Nat), .int .u64 (m.done : Nat), .int .u64 (m.made : Nat), .slice A3 m.ds.length c3] 25))
  have bm := bm.later ((Below.refl _ _).alloc (Nat.le_refl _) (.cells #[.int .i64 m.pct, .int .u64 (m.least : Nat), .int .u64 (m.live : Nat), .bool m.on, .int .u64 (m.est : Nat), .int .u64 (m.room : Nat), .int .u64 (m.credit : Nat), .int .u64 (m.done : Nat), .int .u64 (m.made : Nat), .slice A3 m.ds.length c3] 25))
  have b_r1 : Below w.heap.size w (w6.alloc (.cells #[.int .i64 m.pct, .int .u64 (m.least : Nat), .int .u64 (m.live : Nat), .bool m.on, .int .u64 (m.est : Nat), .int .u64 (m.room : Nat), .int .u64 (m.credit : Nat), .int .u64 (m.done : Nat), .int .u64 (m.made : Nat), .slice A3 m.ds.length c3] 25)) := b_r1.alloc (by first | omega | (simp only [World.size_alloc, size_ten]; omega)) _
  have b_r2 : Below w5.heap.size w5 (w6.alloc (.cells #[.int .i64 m.pct, .int .u64 (m.least : Nat), .int .u64 (m.live : Nat), .bool m.on, .int .u64 (m.est : Nat), .int .u64 (m.room : Nat), .int .u64 (m.credit : Nat), .int .u64 (m.done : Nat), .int .u64 (m.made : Nat), .slice A3 m.ds.length c3] 25)) := b_r2.alloc (by first | omega | (simp only [World.size_alloc, size_ten]; omega)) _
  have b_r3 : Below w6.heap.size w6 (w6.alloc (.cells #[.int .i64 m.pct, .int .u64 (m.least : Nat), .int .u64 (m.live : Nat), .bool m.on, .int .u64 (m.est : Nat), .int .u64 (m.room : Nat), .int .u64 (m.credit : Nat), .int .u64 (m.done : Nat), .int .u64 (m.made : Nat), .slice A3 m.ds.length c3] 25)) := b_r3.alloc (by first | omega | (simp only [World.size_alloc, size_ten]; omega)) _
  have bn := Ten.new w6 (.int .i64 m.pct) (.int .u64 (m.least : Nat)) (.int .u64 (m.live : Nat)) (.bool m.on) (.int .u64 (m.est : Nat)) (.int .u64 (m.room : Nat)) (.int .u64 (m.credit : Nat)) (.int .u64 (m.done : Nat)) (.int .u64 (m.made : Nat)) (.slice A3 m.ds.length c3) 25
  (try simp only [World.size_alloc, size_ten] at bn)
  go_wp2_with fail
  have b_r1 := b_r1.drew
  have b_r2 := b_r2.drew
  have b_r3 := b_r3.drew
  have bp := bp.later (Below.refl _ _).drew
  have bm := bm.later (Below.refl _ _).drew
  have bn := bn.later (Below.refl _ _).drew
  obtain ⟨bpd_0, bpd_1, bpd_2, bpd_3, bpd_4, bpd_5, bpd_6, bpd_7, bpd_8, bpd_9, _⟩ := id bp
  obtain ⟨bmd_0, bmd_1, bmd_2, bmd_3, bmd_4, bmd_5, bmd_6, bmd_7, bmd_8, bmd_9, _⟩ := id bm
  obtain ⟨bnd_0, bnd_1, bnd_2, bnd_3, bnd_4, bnd_5, bnd_6, bnd_7, bnd_8, bnd_9, _⟩ := id bn
  go_region_held3 (fun X : World => X.cell? ⟨w.heap.size, 0, none⟩ = some (.int .i64 p.pct) ∧ X.cell? ⟨w.heap.size, 1, none⟩ = some (.int .u64 (p.least : Nat)) ∧ X.cell? ⟨w.heap.size, 2, none⟩ = some (.int .u64 (p.live : Nat)) ∧ X.cell? ⟨w.heap.size, 3, none⟩ = some (.bool p.on) ∧ X.cell? ⟨w.heap.size, 4, none⟩ = some (.int .u64 (p.est : Nat)) ∧ X.cell? ⟨w.heap.size, 5, none⟩ = some (.int .u64 (p.room : Nat)) ∧ X.cell? ⟨w.heap.size, 6, none⟩ = some (.int .u64 (p.credit : Nat)) ∧ X.cell? ⟨w.heap.size, 7, none⟩ = some (.int .u64 (p.done : Nat)) ∧ X.cell? ⟨w.heap.size, 8, none⟩ = some (.int .u64 (p.made : Nat)) ∧ X.cell? ⟨w.heap.size, 9, none⟩ = some (.slice A p.ds.length c) ∧ X.cell? ⟨w5.heap.size, 0, none⟩ = some (.int .i64 m.pct) ∧ X.cell? ⟨w5.heap.size, 1, none⟩ = some (.int .u64 (m.least : Nat)) ∧ X.cell? ⟨w5.heap.size, 2, none⟩ = some (.int .u64 (m.live : Nat)) ∧ X.cell? ⟨w5.heap.size, 3, none⟩ = some (.bool m.on) ∧ X.cell? ⟨w5.heap.size, 4, none⟩ = some (.int .u64 (m.est : Nat)) ∧ X.cell? ⟨w5.heap.size, 5, none⟩ = some (.int .u64 (m.room : Nat)) ∧ X.cell? ⟨w5.heap.size, 6, none⟩ = some (.int .u64 (m.credit : Nat)) ∧ X.cell? ⟨w5.heap.size, 7, none⟩ = some (.int .u64 (m.done : Nat)) ∧ X.cell? ⟨w5.heap.size, 8, none⟩ = some (.int .u64 (m.made : Nat)) ∧ X.cell? ⟨w5.heap.size, 9, none⟩ = some (.slice A2 m.ds.length c2) ∧ X.cell? ⟨w6.heap.size, 0, none⟩ = some (.int .i64 m.pct) ∧ X.cell? ⟨w6.heap.size, 1, none⟩ = some (.int .u64 (m.least : Nat)) ∧ X.cell? ⟨w6.heap.size, 2, none⟩ = some (.int .u64 (m.live : Nat)) ∧ X.cell? ⟨w6.heap.size, 3, none⟩ = some (.bool m.on) ∧ X.cell? ⟨w6.heap.size, 4, none⟩ = some (.int .u64 (m.est : Nat)) ∧ X.cell? ⟨w6.heap.size, 5, none⟩ = some (.int .u64 (m.room : Nat)) ∧ X.cell? ⟨w6.heap.size, 6, none⟩ = some (.int .u64 (m.credit : Nat)) ∧ X.cell? ⟨w6.heap.size, 7, none⟩ = some (.int .u64 (m.done : Nat)) ∧ X.cell? ⟨w6.heap.size, 8, none⟩ = some (.int .u64 (m.made : Nat)) ∧ X.cell? ⟨w6.heap.size, 9, none⟩ = some (.slice A3 m.ds.length c3))
    ((refine ⟨?_, ?_, ?_, ?_, ?_, ?_, ?_, ?_, ?_, ?_, ?_, ?_, ?_, ?_, ?_, ?_, ?_, ?_, ?_, ?_, ?_, ?_, ?_, ?_, ?_, ?_, ?_, ?_, ?_, ?_⟩ <;> first | assumption | (simp [go_sem]; done)))
    ((first
      | (go_at_call 15; refine (HLv.out _).mono ?_; rintro e w7 ⟨rfl, hb_w7⟩; obtain ⟨hc_w7, hf_w7⟩ := bcell hb_w7; have hs_w7 := hb_w7.size; (try simp only [World.size_alloc, World.size_setCell, World.size_drew, World.heap_drewN] at hs_w7); clear hc_w7 hf_w7; have b_r1 := below_trans b_r1 hb_w7 b_r1.size; have b_r2 := below_trans b_r2 hb_w7 b_r2.size; have b_r3 := below_trans b_r3 hb_w7 b_r3.size; have bp := bp.later hb_w7; obtain ⟨bpw7_0, bpw7_1, bpw7_2, bpw7_3, bpw7_4, bpw7_5, bpw7_6, bpw7_7, bpw7_8, bpw7_9, _⟩ := id bp; have bm := bm.later hb_w7; obtain ⟨bmw7_0, bmw7_1, bmw7_2, bmw7_3, bmw7_4, bmw7_5, bmw7_6, bmw7_7, bmw7_8, bmw7_9, _⟩ := id bm; have bn := bn.later hb_w7; obtain ⟨bnw7_0, bnw7_1, bnw7_2, bnw7_3, bnw7_4, bnw7_5, bnw7_6, bnw7_7, bnw7_8, bnw7_9, _⟩ := id bn)
      | (go_at_call 16; refine (HS.out _ _ _ _ _ (by exact r2.later b_r2) (by exact r3.later b_r3)).mono ?_; rintro e w8 ⟨rfl, hb_w8⟩; obtain ⟨hc_w8, hf_w8⟩ := bcell hb_w8; have hs_w8 := hb_w8.size; (try simp only [World.size_alloc, World.size_setCell, World.size_drew, World.heap_drewN] at hs_w8); clear hc_w8 hf_w8; have b_r1 := below_trans b_r1 hb_w8 b_r1.size; have b_r2 := below_trans b_r2 hb_w8 b_r2.size; have b_r3 := below_trans b_r3 hb_w8 b_r3.size; have bp := bp.later hb_w8; obtain ⟨bpw8_0, bpw8_1, bpw8_2, bpw8_3, bpw8_4, bpw8_5, bpw8_6, bpw8_7, bpw8_8, bpw8_9, _⟩ := id bp; have bm := bm.later hb_w8; obtain ⟨bmw8_0, bmw8_1, bmw8_2, bmw8_3, bmw8_4, bmw8_5, bmw8_6, bmw8_7, bmw8_8, bmw8_9, _⟩ := id bm; have bn := bn.later hb_w8; obtain ⟨bnw8_0, bnw8_1, bnw8_2, bnw8_3, bnw8_4, bnw8_5, bnw8_6, bnw8_7, bnw8_8, bnw8_9, _⟩ := id bn)
      | (go_at_call 17; refine (H4.out _ (by exact r1.later b_r1)).mono ?_; rintro e w9 ⟨rfl, hb_w9⟩; obtain ⟨hc_w9, hf_w9⟩ := bcell hb_w9; have hs_w9 := hb_w9.size; (try simp only [World.size_alloc, World.size_setCell, World.size_drew, World.heap_drewN] at hs_w9); clear hc_w9 hf_w9; have b_r1 := below_trans b_r1 hb_w9 b_r1.size; have b_r2 := below_trans b_r2 hb_w9 b_r2.size; have b_r3 := below_trans b_r3 hb_w9 b_r3.size; have bp := bp.later hb_w9; obtain ⟨bpw9_0, bpw9_1, bpw9_2, bpw9_3, bpw9_4, bpw9_5, bpw9_6, bpw9_7, bpw9_8, bpw9_9, _⟩ := id bp; have bm := bm.later hb_w9; obtain ⟨bmw9_0, bmw9_1, bmw9_2, bmw9_3, bmw9_4, bmw9_5, bmw9_6, bmw9_7, bmw9_8, bmw9_9, _⟩ := id bm; have bn := bn.later hb_w9; obtain ⟨bnw9_0, bnw9_1, bnw9_2, bnw9_3, bnw9_4, bnw9_5, bnw9_6, bnw9_7, bnw9_8, bnw9_9, _⟩ := id bn)
      | (go_at_call 18; refine (X4.out _ (by exact r1.later b_r1)).mono ?_; rintro e w10 ⟨rfl, hb_w10⟩; obtain ⟨hc_w10, hf_w10⟩ := bcell hb_w10; have hs_w10 := hb_w10.size; (try simp only [World.size_alloc, World.size_setCell, World.size_drew, World.heap_drewN] at hs_w10); clear hc_w10 hf_w10; have b_r1 := below_trans b_r1 hb_w10 b_r1.size; have b_r2 := below_trans b_r2 hb_w10 b_r2.size; have b_r3 := below_trans b_r3 hb_w10 b_r3.size; have bp := bp.later hb_w10; obtain ⟨bpw10_0, bpw10_1, bpw10_2, bpw10_3, bpw10_4, bpw10_5, bpw10_6, bpw10_7, bpw10_8, bpw10_9, _⟩ := id bp; have bm := bm.later hb_w10; obtain ⟨bmw10_0, bmw10_1, bmw10_2, bmw10_3, bmw10_4, bmw10_5, bmw10_6, bmw10_7, bmw10_8, bmw10_9, _⟩ := id bm; have bn := bn.later hb_w10; obtain ⟨bnw10_0, bnw10_1, bnw10_2, bnw10_3, bnw10_4, bnw10_5, bnw10_6, bnw10_7, bnw10_8, bnw10_9, _⟩ := id bn)))
  all_goals
    go_wp2
    go_ret
    exact ⟨rfl, by assumption⟩
end
end Go.Proofs.Ytkdbcoibapcmjaa
