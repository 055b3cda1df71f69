/- The walk of PaceOwn. -/
import Derived.Test.YtkdbcoibapcmjaaN26
import Derived.Test.YtkdbcoibapcmjaaN28
namespace Go.Proofs.Ytkdbcoibapcmjaa
open Go.RowKit
set_option linter.unusedVariables false
set_option linter.unusedSimpArgs false
set_option maxRecDepth 100000

/-- words that can be written, in a block from B on ahead of C -/
def WdR (w : World) (B C : Nat) (A : Option Addr) (n : Nat) : Prop :=
  0 < n → ∃ g, A = some ⟨g, 0, none⟩ ∧ B ≤ g ∧ g < C ∧ ∀ i, i < n → (∃ v : Nat, v < W64 ∧ w.cell? ⟨g, i, none⟩ = some (.int .u64 (v : Nat))) ∧ w.frozen? ⟨g, i, none⟩ = false
theorem OwnD.wd {w : World} {B C c : Nat} {A : Option Addr} {ds : List Nat} (h : OwnD w B A c ds) (hC : w.heap.size ≤ C) : WdR w B C A ds.length := fun hl => by
  obtain ⟨g, e, hB, hg, hc⟩ := h.own.at_ hl
  exact ⟨g, e, hB, by omega, fun i hi => ⟨⟨_, h.own.words.at_ i, (hc i hi).1⟩, (hc i hi).2⟩⟩
theorem WdR.keep {w w' : World} {B C n : Nat} {A : Option Addr} (h : WdR w B C A n) (hb : Below C w w') : WdR w' B C A n := fun hl => by
  obtain ⟨g, e, hB, hg, hc⟩ := h hl
  refine ⟨g, e, hB, hg, fun i hi => ?_⟩
  obtain ⟨⟨v, hv, c0⟩, f0⟩ := hc i hi
  exact ⟨⟨v, hv, ((bcell hb).1 _ _ hg).trans c0⟩, ((bcell hb).2 _ _ hg).trans f0⟩
theorem WdR.mono {w : World} {B B' C C' n : Nat} {A : Option Addr} (h : WdR w B C A n) (hB : B' ≤ B) (hC : C ≤ C') : WdR w B' C' A n := fun hl => by
  obtain ⟨g, e, h1, hg, hc⟩ := h hl
  exact ⟨g, e, by omega, by omega, hc⟩
theorem WdR.set {w : World} {B C n : Nat} {A : Option Addr} (h : WdR w B C A n) (g j u : Nat) (hu : u < W64) : WdR (w.setCell ⟨g, j, none⟩ (.int .u64 (u : Nat))) B C A n := fun hl => by
  obtain ⟨g', e, hB, hg, hc⟩ := h hl
  refine ⟨g', e, hB, hg, fun i hi => ?_⟩
  obtain ⟨⟨v, hv, c0⟩, f0⟩ := hc i hi
  refine ⟨?_, by rw [World.frozen?_setCell]; exact f0⟩
  by_cases hq : (⟨g, j, none⟩ : Addr) = ⟨g', i, none⟩
  · rw [hq]
    exact ⟨u, hu, World.cell?_setCell_same _ _ _ c0⟩
  · exact ⟨v, hv, (World.cell?_setCell_other _ _ _ _ hq).trans c0⟩
/-- what holds while results are written into -/
structure OwnI (W w : World) (B C : Nat) (Aa : Option Addr) (na : Nat) (Ab : Option Addr) (nb : Nat) (Ac : Option Addr) (nc : Nat) : Prop where
  blk : ∀ i, w.cell? ⟨C, i, none⟩ = W.cell? ⟨C, i, none⟩
  a : WdR w B C Aa na
  b : WdR w B C Ab nb
  c : WdR w B C Ac nc
  below : Below B W w
  size : C < w.heap.size
section
variable {W w : World} {B C na nb nc : Nat} {Aa Ab Ac : Option Addr}
theorem OwnI.set (h : OwnI W w B C Aa na Ab nb Ac nc) {g j u : Nat} (hB : B ≤ g) (hg : g < C) (hu : u < W64) : OwnI W (w.setCell ⟨g, j, none⟩ (.int .u64 (u : Nat))) B C Aa na Ab nb Ac nc :=
  ⟨fun i => (World.cell?_setCell_other _ _ _ _ (by intro e; injection e; omega)).trans (h.blk i), h.a.set _ _ _ hu, h.b.set _ _ _ hu, h.c.set _ _ _ hu, h.below.setCell hB _, by simpa using h.size⟩
theorem OwnI.alloc (h : OwnI W w B C Aa na Ab nb Ac nc) (ob : Obj) (hB : B ≤ C) : OwnI W (w.alloc ob) B C Aa na Ab nb Ac nc :=
  have hb : Below (C + 1) w (w.alloc ob) := (Below.refl _ _).alloc (by have := h.size; omega) ob
  ⟨fun i => ((bcell hb).1 _ _ (by omega)).trans (h.blk i), h.a.keep (hb.mono (by omega)), h.b.keep (hb.mono (by omega)), h.c.keep (hb.mono (by omega)), h.below.alloc (by have := h.size; have := h.below.size; omega) ob, by have := h.size; simp; omega⟩
end
theorem plus5 (v : Nat) : ∃ u : Nat, u < W64 ∧ IntKind.u64.wrap ((v : Int) + 5) = (u : Int) := ⟨(v + 5) % 18446744073709551616, by unfold W64; omega, by rw [IntKind.wrap_u64]; omega⟩
section
variable {w : World} {p : Pc} {A : Option Addr} (c : Nat)
set_option maxHeartbeats 16000000 in
theorem paceOwn_walk (hf : FitP p) (hr : Row w w.heap.size A p.ds) (hn : A = none → c = 0) (hl : p.ds.length ≤ 17592186044416) (who : Int) (n : Nat) (hnw : n < W64) :
    Calls Try.prog 8 #[(.agg #[.int .i64 p.pct, .int .u64 (p.least : Nat), .int .u64 (p.live : Nat), .bool p.on, .int .u64 (p.est : Nat), .int .u64 (p.room : Nat), .int .u64 (p.credit : Nat), .int .u64 (p.done : Nat), .int .u64 (p.made : Nat), .slice A p.ds.length c]), .int .i64 who, .int .u64 (n : Nat)] w fun e w' => e = .returned (.bool true) ∧ Below w.heap.size w w' := by
  have HLv := Lib.hid plives_any
  have HC := Lib.hid fun (w : World) hr => xpcopy_any (w := w) (p := p) (A := A) c hr hl
  have HS := Lib.hid fun (w : World) (C : Option Addr) (cc : Nat) hr hq => xpsame_ok (w := w) (p := p) (A := A) (C := C) c cc hr hq hl
  obtain ⟨q1, o1, y1, E1⟩ := AllE.ex p who n
  obtain ⟨q2, y2, E2⟩ := WrkE.ex p who [n]
  obtain ⟨q3, y3, E3⟩ := BegE.ex p n
  have H1 := Lib.hid fun (w : World) hr => pallocX_any (w := w) (p := p) (A := A) c hf hr hl hn who n q1 o1 y1 E1
  have H2 := Lib.hid fun (w : World) (S : Option Addr) hr hs => pworkX_any (w := w) (p := p) (A := A) (S := S) (l := [n]) c 1 hf hr hl hn hs (by simp) who q2 y2 E2
  have H3 := Lib.hid fun (w : World) hr => pbeginX_any (w := w) (p := p) (A := A) c hf hr hl hn n q3 y3 E3
  have l1 := allE_len E1 hl; have l2 := wrkE_len E2 hl; have l3 := begE_len E3 hl
  have HNW := Lib.hid hnw
  clear E1 E2 E3 hf hnw
  go_enter Try.func8, Try.ntmps8
  have r1 := hr
  have b_r1 := Below.refl w.heap.size w
  have b_r1 : Below w.heap.size w (w.alloc (.cells #[.int .i64 p.pct, .int .u64 (p.least : Nat), .int .u64 (p.live : Nat), .bool p.on, .int .u64 (p.est : Nat), .int .u64 (p.room : Nat), .int .u64 (p.credit : Nat), .int .u64 (p.done : Nat), .int .u64 (p.made : Nat), .slice A p.ds.length c] 25)) := b_r1.alloc (by first | omega | (simp only [World.size_alloc, size_ten]; omega)) _
  have bp := Ten.new w (.int .i64 p.pct) (.int .u64 (p.least : Nat)) (.int .u64 (p.live : Nat)) (.bool p.on) (.int .u64 (p.est : Nat)) (.int .u64 (p.room : Nat)) (.int .u64 (p.credit : Nat)) (.int .u64 (p.done : Nat)) (.int .u64 (p.made : Nat)) (.slice A p.ds.length c) 25
  (try simp only [World.size_alloc, size_ten] at bp)
  go_wp2_with fail
  go_at_call 15
  refine (HLv.out _).mono ?_
  rintro e w1 ⟨rfl, hb_w1⟩
  have s_w1 := hb_w1.size
  (try simp only [World.size_alloc, size_ten] at s_w1)
  have bp := bp.later hb_w1
  have bp_lt := bp.lt
  have b_r1 := below_trans b_r1 hb_w1 b_r1.size
  clear hb_w1
  obtain ⟨bp_0, bp_1, bp_2, bp_3, bp_4, bp_5, bp_6, bp_7, bp_8, bp_9, bp_f⟩ := id bp
  go_wp2_with fail
  go_at_call 19
  refine (HC.out _ (by exact r1.later b_r1)).mono ?_
  rintro e w2 ⟨A2, c2, rfl, o_r2, hb_w2⟩
  clear bp_0 bp_1 bp_2 bp_3 bp_4 bp_5 bp_6 bp_7 bp_8 bp_9 bp_f
  have s_w2 := hb_w2.size
  (try simp only [World.size_alloc, size_ten] at s_w2)
  have bp := bp.later hb_w2
  have bp_lt := bp.lt
  have b_r1 := below_trans b_r1 hb_w2 b_r1.size
  clear hb_w2
  have r2 := o_r2.row
  have b_r2 := Below.refl w2.heap.size w2
  obtain ⟨bp_0, bp_1, bp_2, bp_3, bp_4, bp_5, bp_6, bp_7, bp_8, bp_9, bp_f⟩ := id bp
  have bp := bp.later ((Below.refl _ _).alloc (Nat.le_refl _) (.cells #[.int .i64 p.pct, .int .u64 (p.least : Nat), .int .u64 (p.live : Nat), .bool p.on, .int .u64 (p.est : Nat), .int .u64 (p.room : Nat), .int .u64 (p.credit : Nat), .int .u64 (p.done : Nat), .int .u64 (p.made : Nat), .slice A2 p.ds.length c2] 25))
  have b_r1 : Below w.heap.size w (w2.alloc (.cells #[.int .i64 p.pct, .int .u64 (p.least : Nat), .int .u64 (p.live : Nat), .bool p.on, .int .u64 (p.est : Nat), .int .u64 (p.room : Nat), .int .u64 (p.credit : Nat), .int .u64 (p.done : Nat), .int .u64 (p.made : Nat), .slice A2 p.ds.length c2] 25)) := b_r1.alloc (by first | omega | (simp only [World.size_alloc, size_ten]; omega)) _
  have b_r2 : Below w2.heap.size w2 (w2.alloc (.cells #[.int .i64 p.pct, .int .u64 (p.least : Nat), .int .u64 (p.live : Nat), .bool p.on, .int .u64 (p.est : Nat), .int .u64 (p.room : Nat), .int .u64 (p.credit : Nat), .int .u64 (p.done : Nat), .int .u64 (p.made : Nat), .slice A2 p.ds.length c2] 25)) := b_r2.alloc (by first | omega | (simp only [World.size_alloc, size_ten]; omega)) _
  have bk := Ten.new w2 (.int .i64 p.pct) (.int .u64 (p.least : Nat)) (.int .u64 (p.live : Nat)) (.bool p.on) (.int .u64 (p.est : Nat)) (.int .u64 (p.room : Nat)) (.int .u64 (p.credit : Nat)) (.int .u64 (p.done : Nat)) (.int .u64 (p.made : Nat)) (.slice A2 p.ds.length c2) 25
  (try simp only [World.size_alloc, size_ten] at bk)
  go_wp2_with fail
  go_at_call 24
  refine (H1.out _ (by exact r1.later b_r1)).mono ?_
  rintro e w3 ⟨A3, c3, rfl, o_r3, hb_w3⟩
  clear bp_0 bp_1 bp_2 bp_3 bp_4 bp_5 bp_6 bp_7 bp_8 bp_9 bp_f
  have s_w3 := hb_w3.size
  (try simp only [World.size_alloc, size_ten] at s_w3)
  have bp := bp.later hb_w3
  have bp_lt := bp.lt
  have bk := bk.later hb_w3
  have bk_lt := bk.lt
  have b_r1 := below_trans b_r1 hb_w3 b_r1.size
  have b_r2 := below_trans b_r2 hb_w3 b_r2.size
  clear hb_w3
  obtain ⟨bp_0, bp_1, bp_2, bp_3, bp_4, bp_5, bp_6, bp_7, bp_8, bp_9, bp_f⟩ := id bp
  have d3 := o_r3.wd (C := w3.heap.size) (Nat.le_refl _)
  have b_d3 := Below.refl w3.heap.size w3
  have bp := bp.later ((Below.refl _ _).alloc (Nat.le_refl _) (.cells #[.int .i64 q1.pct, .int .u64 (q1.least : Nat), .int .u64 (q1.live : Nat), .bool q1.on, .int .u64 (q1.est : Nat), .int .u64 (q1.room : Nat), .int .u64 (q1.credit : Nat), .int .u64 (q1.done : Nat), .int .u64 (q1.made : Nat), .slice A3 q1.ds.length c3] 25))
  have bk := bk.later ((Below.refl _ _).alloc (Nat.le_refl _) (.cells #[.int .i64 q1.pct, .int .u64 (q1.least : Nat), .int .u64 (q1.live : Nat), .bool q1.on, .int .u64 (q1.est : Nat), .int .u64 (q1.room : Nat), .int .u64 (q1.credit : Nat), .int .u64 (q1.done : Nat), .int .u64 (q1.made : Nat), .slice A3 q1.ds.length c3] 25))
  have b_r1 : Below w.heap.size w (w3.alloc (.cells #[.int .i64 q1.pct, .int .u64 (q1.least : Nat), .int .u64 (q1.live : Nat), .bool q1.on, .int .u64 (q1.est : Nat), .int .u64 (q1.room : Nat), .int .u64 (q1.credit : Nat), .int .u64 (q1.done : Nat), .int .u64 (q1.made : Nat), .slice A3 q1.ds.length c3] 25)) := b_r1.alloc (by first | omega | (simp only [World.size_alloc, size_ten]; omega)) _
  have b_r2 : Below w2.heap.size w2 (w3.alloc (.cells #[.int .i64 q1.pct, .int .u64 (q1.least : Nat), .int .u64 (q1.live : Nat), .bool q1.on, .int .u64 (q1.est : Nat), .int .u64 (q1.room : Nat), .int .u64 (q1.credit : Nat), .int .u64 (q1.done : Nat), .int .u64 (q1.made : Nat), .slice A3 q1.ds.length c3] 25)) := b_r2.alloc (by first | omega | (simp only [World.size_alloc, size_ten]; omega)) _
  have b_d3 : Below w3.heap.size w3 (w3.alloc (.cells #[.int .i64 q1.pct, .int .u64 (q1.least : Nat), .int .u64 (q1.live : Nat), .bool q1.on, .int .u64 (q1.est : Nat), .int .u64 (q1.room : Nat), .int .u64 (q1.credit : Nat), .int .u64 (q1.done : Nat), .int .u64 (q1.made : Nat), .slice A3 q1.ds.length c3] 25)) := b_d3.alloc (by first | omega | (simp only [World.size_alloc, size_ten]; omega)) _
  have ba := Ten.new w3 (.int .i64 q1.pct) (.int .u64 (q1.least : Nat)) (.int .u64 (q1.live : Nat)) (.bool q1.on) (.int .u64 (q1.est : Nat)) (.int .u64 (q1.room : Nat)) (.int .u64 (q1.credit : Nat)) (.int .u64 (q1.done : Nat)) (.int .u64 (q1.made : Nat)) (.slice A3 q1.ds.length c3) 25
  (try simp only [World.size_alloc, size_ten] at ba)
  have bp := bp.later ((Below.refl _ _).alloc (Nat.le_refl _) (.cells #[.int .u64 (n : Nat)] 22))
  have bk := bk.later ((Below.refl _ _).alloc (Nat.le_refl _) (.cells #[.int .u64 (n : Nat)] 22))
  have ba := ba.later ((Below.refl _ _).alloc (Nat.le_refl _) (.cells #[.int .u64 (n : Nat)] 22))
  have b_r1 : Below w.heap.size w ((w3.alloc (.cells #[.int .i64 q1.pct, .int .u64 (q1.least : Nat), .int .u64 (q1.live : Nat), .bool q1.on, .int .u64 (q1.est : Nat), .int .u64 (q1.room : Nat), .int .u64 (q1.credit : Nat), .int .u64 (q1.done : Nat), .int .u64 (q1.made : Nat), .slice A3 q1.ds.length c3] 25)).alloc (.cells #[.int .u64 (n : Nat)] 22)) := b_r1.alloc (by first | omega | (simp only [World.size_alloc, size_ten]; omega)) _
  have b_r2 : Below w2.heap.size w2 ((w3.alloc (.cells #[.int .i64 q1.pct, .int .u64 (q1.least : Nat), .int .u64 (q1.live : Nat), .bool q1.on, .int .u64 (q1.est : Nat), .int .u64 (q1.room : Nat), .int .u64 (q1.credit : Nat), .int .u64 (q1.done : Nat), .int .u64 (q1.made : Nat), .slice A3 q1.ds.length c3] 25)).alloc (.cells #[.int .u64 (n : Nat)] 22)) := b_r2.alloc (by first | omega | (simp only [World.size_alloc, size_ten]; omega)) _
  have b_d3 : Below w3.heap.size w3 ((w3.alloc (.cells #[.int .i64 q1.pct, .int .u64 (q1.least : Nat), .int .u64 (q1.live : Nat), .bool q1.on, .int .u64 (q1.est : Nat), .int .u64 (q1.room : Nat), .int .u64 (q1.credit : Nat), .int .u64 (q1.done : Nat), .int .u64 (q1.made : Nat), .slice A3 q1.ds.length c3] 25)).alloc (.cells #[.int .u64 (n : Nat)] 22)) := b_d3.alloc (by first | omega | (simp only [World.size_alloc, size_ten]; omega)) _
  go_wp2_with fail
  go_at_call 26
  refine (H2.out _ _ (by exact r1.later b_r1) (by exact row_one HNW.out (by simp only [World.size_alloc]))).mono ?_
  rintro e w4 ⟨A4, c4, rfl, o_r4, hb_w4⟩
  clear bp_0 bp_1 bp_2 bp_3 bp_4 bp_5 bp_6 bp_7 bp_8 bp_9 bp_f
  have s_w4 := hb_w4.size
  (try simp only [World.size_alloc, size_ten] at s_w4)
  have bp := bp.later hb_w4
  have bp_lt := bp.lt
  have bk := bk.later hb_w4
  have bk_lt := bk.lt
  have ba := ba.later hb_w4
  have ba_lt := ba.lt
  have b_r1 := below_trans b_r1 hb_w4 b_r1.size
  have b_r2 := below_trans b_r2 hb_w4 b_r2.size
  have b_d3 := below_trans b_d3 hb_w4 b_d3.size
  clear hb_w4
  obtain ⟨bp_0, bp_1, bp_2, bp_3, bp_4, bp_5, bp_6, bp_7, bp_8, bp_9, bp_f⟩ := id bp
  have d4 := o_r4.wd (C := w4.heap.size) (Nat.le_refl _)
  have b_d4 := Below.refl w4.heap.size w4
  have bp := bp.later ((Below.refl _ _).alloc (Nat.le_refl _) (.cells #[.int .i64 q2.pct, .int .u64 (q2.least : Nat), .int .u64 (q2.live : Nat), .bool q2.on, .int .u64 (q2.est : Nat), .int .u64 (q2.room : Nat), .int .u64 (q2.credit : Nat), .int .u64 (q2.done : Nat), .int .u64 (q2.made : Nat), .slice A4 q2.ds.length c4] 25))
  have bk := bk.later ((Below.refl _ _).alloc (Nat.le_refl _) (.cells #[.int .i64 q2.pct, .int .u64 (q2.least : Nat), .int .u64 (q2.live : Nat), .bool q2.on, .int .u64 (q2.est : Nat), .int .u64 (q2.room : Nat), .int .u64 (q2.credit : Nat), .int .u64 (q2.done : Nat), .int .u64 (q2.made : Nat), .slice A4 q2.ds.length c4] 25))
  have ba := ba.later ((Below.refl _ _).alloc (Nat.le_refl _) (.cells #[.int .i64 q2.pct, .int .u64 (q2.least : Nat), .int .u64 (q2.live : Nat), .bool q2.on, .int .u64 (q2.est : Nat), .int .u64 (q2.room : Nat), .int .u64 (q2.credit : Nat), .int .u64 (q2.done : Nat), .int .u64 (q2.made : Nat), .slice A4 q2.ds.length c4] 25))
  have b_r1 : Below w.heap.size w (w4.alloc (.cells #[.int .i64 q2.pct, .int .u64 (q2.least : Nat), .int .u64 (q2.live : Nat), .bool q2.on, .int .u64 (q2.est : Nat), .int .u64 (q2.room : Nat), .int .u64 (q2.credit : Nat), .int .u64 (q2.done : Nat), .int .u64 (q2.made : Nat), .slice A4 q2.ds.length c4] 25)) := b_r1.alloc (by first | omega | (simp only [World.size_alloc, size_ten]; omega)) _
  have b_r2 : Below w2.heap.size w2 (w4.alloc (.cells #[.int .i64 q2.pct, .int .u64 (q2.least : Nat), .int .u64 (q2.live : Nat), .bool q2.on, .int .u64 (q2.est : Nat), .int .u64 (q2.room : Nat), .int .u64 (q2.credit : Nat), .int .u64 (q2.done : Nat), .int .u64 (q2.made : Nat), .slice A4 q2.ds.length c4] 25)) := b_r2.alloc (by first | omega | (simp only [World.size_alloc, size_ten]; omega)) _
  have b_d3 : Below w3.heap.size w3 (w4.alloc (.cells #[.int .i64 q2.pct, .int .u64 (q2.least : Nat), .int .u64 (q2.live : Nat), .bool q2.on, .int .u64 (q2.est : Nat), .int .u64 (q2.room : Nat), .int .u64 (q2.credit : Nat), .int .u64 (q2.done : Nat), .int .u64 (q2.made : Nat), .slice A4 q2.ds.length c4] 25)) := b_d3.alloc (by first | omega | (simp only [World.size_alloc, size_ten]; omega)) _
  have b_d4 : Below w4.heap.size w4 (w4.alloc (.cells #[.int .i64 q2.pct, .int .u64 (q2.least : Nat), .int .u64 (q2.live : Nat), .bool q2.on, .int .u64 (q2.est : Nat), .int .u64 (q2.room : Nat), .int .u64 (q2.credit : Nat), .int .u64 (q2.done : Nat), .int .u64 (q2.made : Nat), .slice A4 q2.ds.length c4] 25)) := b_d4.alloc (by first | omega | (simp only [World.size_alloc, size_ten]; omega)) _
  have bb := Ten.new w4 (.int .i64 q2.pct) (.int .u64 (q2.least : Nat)) (.int .u64 (q2.live : Nat)) (.bool q2.on) (.int .u64 (q2.est : Nat)) (.int .u64 (q2.room : Nat)) (.int .u64 (q2.credit : Nat)) (.int .u64 (q2.done : Nat)) (.int .u64 (q2.made : Nat)) (.slice A4 q2.ds.length c4) 25
  (try simp only [World.size_alloc, size_ten] at bb)
  go_wp2_with fail
  go_at_call 20
  refine (H3.out _ (by exact r1.later b_r1)).mono ?_
  rintro e w5 ⟨A5, c5, rfl, o_r5, hb_w5⟩
  clear bp_0 bp_1 bp_2 bp_3 bp_4 bp_5 bp_6 bp_7 bp_8 bp_9 bp_f
  have s_w5 := hb_w5.size
  (try simp only [World.size_alloc, size_ten] at s_w5)
  have bp := bp.later hb_w5
  have bp_lt := bp.lt
  have bk := bk.later hb_w5
  have bk_lt := bk.lt
  have ba := ba.later hb_w5
  have ba_lt := ba.lt
  have bb := bb.later hb_w5
  have bb_lt := bb.lt
  have b_r1 := below_trans b_r1 hb_w5 b_r1.size
  have b_r2 := below_trans b_r2 hb_w5 b_r2.size
  have b_d3 := below_trans b_d3 hb_w5 b_d3.size
  have b_d4 := below_trans b_d4 hb_w5 b_d4.size
  clear hb_w5
  obtain ⟨ba_0, ba_1, ba_2, ba_3, ba_4, ba_5, ba_6, ba_7, ba_8, ba_9, ba_f⟩ := id ba
  obtain ⟨bb_0, bb_1, bb_2, bb_3, bb_4, bb_5, bb_6, bb_7, bb_8, bb_9, bb_f⟩ := id bb
  have d5 := o_r5.wd (C := w5.heap.size) (Nat.le_refl _)
  have b_d5 := Below.refl w5.heap.size w5
  have bp := bp.later ((Below.refl _ _).alloc (Nat.le_refl _) (.cells #[.int .i64 q3.pct, .int .u64 (q3.least : Nat), .int .u64 (q3.live : Nat), .bool q3.on, .int .u64 (q3.est : Nat), .int .u64 (q3.room : Nat), .int .u64 (q3.credit : Nat), .int .u64 (q3.done : Nat), .int .u64 (q3.made : Nat), .slice A5 q3.ds.length c5] 25))
  have bk := bk.later ((Below.refl _ _).alloc (Nat.le_refl _) (.cells #[.int .i64 q3.pct, .int .u64 (q3.least : Nat), .int .u64 (q3.live : Nat), .bool q3.on, .int .u64 (q3.est : Nat), .int .u64 (q3.room : Nat), .int .u64 (q3.credit : Nat), .int .u64 (q3.done : Nat), .int .u64 (q3.made : Nat), .slice A5 q3.ds.length c5] 25))
  have ba := ba.later ((Below.refl _ _).alloc (Nat.le_refl _) (.cells #[.int .i64 q3.pct, .int .u64 (q3.least : Nat), .int .u64 (q3.live : Nat), .bool q3.on, .int .u64 (q3.est : Nat), .int .u64 (q3.room : Nat), .int .u64 (q3.credit : Nat), .int .u64 (q3.done : Nat), .int .u64 (q3.made : Nat), .slice A5 q3.ds.length c5] 25))
  have bb := bb.later ((Below.refl _ _).alloc (Nat.le_refl _) (.cells #[.int .i64 q3.pct, .int .u64 (q3.least : Nat), .int .u64 (q3.live : Nat), .bool q3.on, .int .u64 (q3.est : Nat), .int .u64 (q3.room : Nat), .int .u64 (q3.credit : Nat), .int .u64 (q3.done : Nat), .int .u64 (q3.made : Nat), .slice A5 q3.ds.length c5] 25))
  have b_r1 : Below w.heap.size w (w5.alloc (.cells #[.int .i64 q3.pct, .int .u64 (q3.least : Nat), .int .u64 (q3.live : Nat), .bool q3.on, .int .u64 (q3.est : Nat), .int .u64 (q3.room : Nat), .int .u64 (q3.credit : Nat), .int .u64 (q3.done : Nat), .int .u64 (q3.made : Nat), .slice A5 q3.ds.length c5] 25)) := b_r1.alloc (by first | omega | (simp only [World.size_alloc, size_ten]; omega)) _
  have b_r2 : Below w2.heap.size w2 (w5.alloc (.cells #[.int .i64 q3.pct, .int .u64 (q3.least : Nat), .int .u64 (q3.live : Nat), .bool q3.on, .int .u64 (q3.est : Nat), .int .u64 (q3.room : Nat), .int .u64 (q3.credit : Nat), .int .u64 (q3.done : Nat), .int .u64 (q3.made : Nat), .slice A5 q3.ds.length c5] 25)) := b_r2.alloc (by first | omega | (simp only [World.size_alloc, size_ten]; omega)) _
  have b_d3 : Below w3.heap.size w3 (w5.alloc (.cells #[.int .i64 q3.pct, .int .u64 (q3.least : Nat), .int .u64 (q3.live : Nat), .bool q3.on, .int .u64 (q3.est : Nat), .int .u64 (q3.room : Nat), .int .u64 (q3.credit : Nat), .int .u64 (q3.done : Nat), .int .u64 (q3.made : Nat), .slice A5 q3.ds.length c5] 25)) := b_d3.alloc (by first | omega | (simp only [World.size_alloc, size_ten]; omega)) _
  have b_d4 : Below w4.heap.size w4 (w5.alloc (.cells #[.int .i64 q3.pct, .int .u64 (q3.least : Nat), .int .u64 (q3.live : Nat), .bool q3.on, .int .u64 (q3.est : Nat), .int .u64 (q3.room : Nat), .int .u64 (q3.credit : Nat), .int .u64 (q3.done : Nat), .int .u64 (q3.made : Nat), .slice A5 q3.ds.length c5] 25)) := b_d4.alloc (by first | omega | (simp only [World.size_alloc, size_ten]; omega)) _
  have b_d5 : Below w5.heap.size w5 (w5.alloc (.cells #[.int .i64 q3.pct, .int .u64 (q3.least : Nat), .int .u64 (q3.live : Nat), .bool q3.on, .int .u64 (q3.est : Nat), .int .u64 (q3.room : Nat), .int .u64 (q3.credit : Nat), .int .u64 (q3.done : Nat), .int .u64 (q3.made : Nat), .slice A5 q3.ds.length c5] 25)) := b_d5.alloc (by first | omega | (simp only [World.size_alloc, size_ten]; omega)) _
  have bc := Ten.new w5 (.int .i64 q3.pct) (.int .u64 (q3.least : Nat)) (.int .u64 (q3.live : Nat)) (.bool q3.on) (.int .u64 (q3.est : Nat)) (.int .u64 (q3.room : Nat)) (.int .u64 (q3.credit : Nat)) (.int .u64 (q3.done : Nat)) (.int .u64 (q3.made : Nat)) (.slice A5 q3.ds.length c5) 25
  (try simp only [World.size_alloc, size_ten] at bc)
  have bp := bp.later ((Below.refl _ _).alloc (Nat.le_refl _) (.cells #[.int .i64 q1.pct, .int .u64 (q1.least : Nat), .int .u64 (q1.live : Nat), .bool q1.on, .int .u64 (q1.est : Nat), .int .u64 (q1.room : Nat), .int .u64 (q1.credit : Nat), .int .u64 (q1.done : Nat), .int .u64 (q1.made : Nat), .slice A3 q1.ds.length c3, .int .i64 q2.pct, .int .u64 (q2.least : Nat), .int .u64 (q2.live : Nat), .bool q2.on, .int .u64 (q2.est : Nat), .int .u64 (q2.room : Nat), .int .u64 (q2.credit : Nat), .int .u64 (q2.done : Nat), .int .u64 (q2.made : Nat), .slice A4 q2.ds.length c4, .int .i64 q3.pct, .int .u64 (q3.least : Nat), .int .u64 (q3.live : Nat), .bool q3.on, .int .u64 (q3.est : Nat), .int .u64 (q3.room : Nat), .int .u64 (q3.credit : Nat), .int .u64 (q3.done : Nat), .int .u64 (q3.made : Nat), .slice A5 q3.ds.length c5] 25))
  have bk := bk.later ((Below.refl _ _).alloc (Nat.le_refl _) (.cells #[.int .i64 q1.pct, .int .u64 (q1.least : Nat), .int .u64 (q1.live : Nat), .bool q1.on, .int .u64 (q1.est : Nat), .int .u64 (q1.room : Nat), .int .u64 (q1.credit : Nat), .int .u64 (q1.done : Nat), .int .u64 (q1.made : Nat), .slice A3 q1.ds.length c3, .int .i64 q2.pct, .int .u64 (q2.least : Nat), .int .u64 (q2.live : Nat), .bool q2.on, .int .u64 (q2.est : Nat), .int .u64 (q2.room : Nat), .int .u64 (q2.credit : Nat), .int .u64 (q2.done : Nat), .int .u64 (q2.made : Nat), .slice A4 q2.ds.length c4, .int .i64 q3.pct, .int .u64 (q3.least : Nat), .int .u64 (q3.live : Nat), .bool q3.on, .int .u64 (q3.est : Nat), .int .u64 (q3.room : Nat), .int .u64 (q3.credit : Nat), .int .u64 (q3.done : Nat), .int .u64 (q3.made : Nat), .slice A5 q3.ds.length c5] 25))
  have ba := ba.later ((Below.refl _ _).alloc (Nat.le_refl _) (.cells #[.int .i64 q1.pct, .int .u64 (q1.least : Nat), .int .u64 (q1.live : Nat), .bool q1.on, .int .u64 (q1.est : Nat), .int .u64 (q1.room : Nat), .int .u64 (q1.credit : Nat), .int .u64 (q1.done : Nat), .int .u64 (q1.made : Nat), .slice A3 q1.ds.length c3, .int .i64 q2.pct, .int .u64 (q2.least : Nat), .int .u64 (q2.live : Nat), .bool q2.on, .int .u64 (q2.est : Nat), .int .u64 (q2.room : Nat), .int .u64 (q2.credit : Nat), .int .u64 (q2.done : Nat), .int .u64 (q2.made : Nat), .slice A4 q2.ds.length c4, .int .i64 q3.pct, .int .u64 (q3.least : Nat), .int .u64 (q3.live : Nat), .bool q3.on, .int .u64 (q3.est : Nat), .int .u64 (q3.room : Nat), .int .u64 (q3.credit : Nat), .int .u64 (q3.done : Nat), .int .u64 (q3.made : Nat), .slice A5 q3.ds.length c5] 25))
  have bb := bb.later ((Below.refl _ _).alloc (Nat.le_refl _) (.cells #[.int .i64 q1.pct, .int .u64 (q1.least : Nat), .int .u64 (q1.live : Nat), .bool q1.on, .int .u64 (q1.est : Nat), .int .u64 (q1.room : Nat), .int .u64 (q1.credit : Nat), .int .u64 (q1.done : Nat), .int .u64 (q1.made : Nat), .slice A3 q1.ds.length c3, .int .i64 q2.pct, .int .u64 (q2.least : Nat), .int .u64 (q2.live : Nat), .bool q2.on, .int .u64 (q2.est : Nat), .int .u64 (q2.room : Nat), .int .u64 (q2.credit : Nat), .int .u64 (q2.done : Nat), .int .u64 (q2.made : Nat), .slice A4 q2.ds.length c4, .int .i64 q3.pct, .int .u64 (q3.least : Nat), .int .u64 (q3.live : Nat), .bool q3.on, .int .u64 (q3.est : Nat), .int .u64 (q3.room : Nat), .int .u64 (q3.credit : Nat), .int .u64 (q3.done : Nat), .int .u64 (q3.made : Nat), .slice A5 q3.ds.length c5] 25))
  have bc := bc.later ((Below.refl _ _).alloc (Nat.le_refl _) (.cells #[.int .i64 q1.pct, .int .u64 (q1.least : Nat), .int .u64 (q1.live : Nat), .bool q1.on, .int .u64 (q1.est : Nat), .int .u64 (q1.room : Nat), .int .u64 (q1.credit : Nat), .int .u64 (q1.done : Nat), .int .u64 (q1.made : Nat), .slice A3 q1.ds.length c3, .int .i64 q2.pct, .int .u64 (q2.least : Nat), .int .u64 (q2.live : Nat), .bool q2.on, .int .u64 (q2.est : Nat), .int .u64 (q2.room : Nat), .int .u64 (q2.credit : Nat), .int .u64 (q2.done : Nat), .int .u64 (q2.made : Nat), .slice A4 q2.ds.length c4, .int .i64 q3.pct, .int .u64 (q3.least : Nat), .int .u64 (q3.live : Nat), .bool q3.on, .int .u64 (q3.est : Nat), .int .u64 (q3.room : Nat), .int .u64 (q3.credit : Nat), .int .u64 (q3.done : Nat), .int .u64 (q3.made : Nat), .slice A5 q3.ds.length c5] 25))
  have b_r1 : Below w.heap.size w ((w5.alloc (.cells #[.int .i64 q3.pct, .int .u64 (q3.least : Nat), .int .u64 (q3.live : Nat), .bool q3.on, .int .u64 (q3.est : Nat), .int .u64 (q3.room : Nat), .int .u64 (q3.credit : Nat), .int .u64 (q3.done : Nat), .int .u64 (q3.made : Nat), .slice A5 q3.ds.length c5] 25)).alloc (.cells #[.int .i64 q1.pct, .int .u64 (q1.least : Nat), .int .u64 (q1.live : Nat), .bool q1.on, .int .u64 (q1.est : Nat), .int .u64 (q1.room : Nat), .int .u64 (q1.credit : Nat), .int .u64 (q1.done : Nat), .int .u64 (q1.made : Nat), .slice A3 q1.ds.length c3, .int .i64 q2.pct, .int .u64 (q2.least : Nat), .int .u64 (q2.live : Nat), .bool q2.on, .int .u64 (q2.est : Nat), .int .u64 (q2.room : Nat), .int .u64 (q2.credit : Nat), .int .u64 (q2.done : Nat), .int .u64 (q2.made : Nat), .slice A4 q2.ds.length c4, .int .i64 q3.pct, .int .u64 (q3.least : Nat), .int .u64 (q3.live : Nat), .bool q3.on, .int .u64 (q3.est : Nat), .int .u64 (q3.room : Nat), .int .u64 (q3.credit : Nat), .int .u64 (q3.done : Nat), .int .u64 (q3.made : Nat), .slice A5 q3.ds.length c5] 25)) := b_r1.alloc (by first | omega | (simp only [World.size_alloc, size_ten]; omega)) _
  have b_r2 : Below w2.heap.size w2 ((w5.alloc (.cells #[.int .i64 q3.pct, .int .u64 (q3.least : Nat), .int .u64 (q3.live : Nat), .bool q3.on, .int .u64 (q3.est : Nat), .int .u64 (q3.room : Nat), .int .u64 (q3.credit : Nat), .int .u64 (q3.done : Nat), .int .u64 (q3.made : Nat), .slice A5 q3.ds.length c5] 25)).alloc (.cells #[.int .i64 q1.pct, .int .u64 (q1.least : Nat), .int .u64 (q1.live : Nat), .bool q1.on, .int .u64 (q1.est : Nat), .int .u64 (q1.room : Nat), .int .u64 (q1.credit : Nat), .int .u64 (q1.done : Nat), .int .u64 (q1.made : Nat), .slice A3 q1.ds.length c3, .int .i64 q2.pct, .int .u64 (q2.least : Nat), .int .u64 (q2.live : Nat), .bool q2.on, .int .u64 (q2.est : Nat), .int .u64 (q2.room : Nat), .int .u64 (q2.credit : Nat), .int .u64 (q2.done : Nat), .int .u64 (q2.made : Nat), .slice A4 q2.ds.length c4, .int .i64 q3.pct, .int .u64 (q3.least : Nat), .int .u64 (q3.live : Nat), .bool q3.on, .int .u64 (q3.est : Nat), .int .u64 (q3.room : Nat), .int .u64 (q3.credit : Nat), .int .u64 (q3.done : Nat), .int .u64 (q3.made : Nat), .slice A5 q3.ds.length c5] 25)) := b_r2.alloc (by first | omega | (simp only [World.size_alloc, size_ten]; omega)) _
  have b_d3 : Below w3.heap.size w3 ((w5.alloc (.cells #[.int .i64 q3.pct, .int .u64 (q3.least : Nat), .int .u64 (q3.live : Nat), .bool q3.on, .int .u64 (q3.est : Nat), .int .u64 (q3.room : Nat), .int .u64 (q3.credit : Nat), .int .u64 (q3.done : Nat), .int .u64 (q3.made : Nat), .slice A5 q3.ds.length c5] 25)).alloc (.cells #[.int .i64 q1.pct, .int .u64 (q1.least : Nat), .int .u64 (q1.live : Nat), .bool q1.on, .int .u64 (q1.est : Nat), .int .u64 (q1.room : Nat), .int .u64 (q1.credit : Nat), .int .u64 (q1.done : Nat), .int .u64 (q1.made : Nat), .slice A3 q1.ds.length c3, .int .i64 q2.pct, .int .u64 (q2.least : Nat), .int .u64 (q2.live : Nat), .bool q2.on, .int .u64 (q2.est : Nat), .int .u64 (q2.room : Nat), .int .u64 (q2.credit : Nat), .int .u64 (q2.done : Nat), .int .u64 (q2.made : Nat), .slice A4 q2.ds.length c4, .int .i64 q3.pct, .int .u64 (q3.least : Nat), .int .u64 (q3.live : Nat), .bool q3.on, .int .u64 (q3.est : Nat), .int .u64 (q3.room : Nat), .int .u64 (q3.credit : Nat), .int .u64 (q3.done : Nat), .int .u64 (q3.made : Nat), .slice A5 q3.ds.length c5] 25)) := b_d3.alloc (by first | omega | (simp only [World.size_alloc, size_ten]; omega)) _
  have b_d4 : Below w4.heap.size w4 ((w5.alloc (.cells #[.int .i64 q3.pct, .int .u64 (q3.least : Nat), .int .u64 (q3.live : Nat), .bool q3.on, .int .u64 (q3.est : Nat), .int .u64 (q3.room : Nat), .int .u64 (q3.credit : Nat), .int .u64 (q3.done : Nat), .int .u64 (q3.made : Nat), .slice A5 q3.ds.length c5] 25)).alloc (.cells #[.int .i64 q1.pct, .int .u64 (q1.least : Nat), .int .u64 (q1.live : Nat), .bool q1.on, .int .u64 (q1.est : Nat), .int .u64 (q1.room : Nat), .int .u64 (q1.credit : Nat), .int .u64 (q1.done : Nat), .int .u64 (q1.made : Nat), .slice A3 q1.ds.length c3, .int .i64 q2.pct, .int .u64 (q2.least : Nat), .int .u64 (q2.live : Nat), .bool q2.on, .int .u64 (q2.est : Nat), .int .u64 (q2.room : Nat), .int .u64 (q2.credit : Nat), .int .u64 (q2.done : Nat), .int .u64 (q2.made : Nat), .slice A4 q2.ds.length c4, .int .i64 q3.pct, .int .u64 (q3.least : Nat), .int .u64 (q3.live : Nat), .bool q3.on, .int .u64 (q3.est : Nat), .int .u64 (q3.room : Nat), .int .u64 (q3.credit : Nat), .int .u64 (q3.done : Nat), .int .u64 (q3.made : Nat), .slice A5 q3.ds.length c5] 25)) := b_d4.alloc (by first | omega | (simp only [World.size_alloc, size_ten]; omega)) _
  have b_d5 : Below w5.heap.size w5 ((w5.alloc (.cells #[.int .i64 q3.pct, .int .u64 (q3.least : Nat), .int .u64 (q3.live : Nat), .bool q3.on, .int .u64 (q3.est : Nat), .int .u64 (q3.room : Nat), .int .u64 (q3.credit : Nat), .int .u64 (q3.done : Nat), .int .u64 (q3.made : Nat), .slice A5 q3.ds.length c5] 25)).alloc (.cells #[.int .i64 q1.pct, .int .u64 (q1.least : Nat), .int .u64 (q1.live : Nat), .bool q1.on, .int .u64 (q1.est : Nat), .int .u64 (q1.room : Nat), .int .u64 (q1.credit : Nat), .int .u64 (q1.done : Nat), .int .u64 (q1.made : Nat), .slice A3 q1.ds.length c3, .int .i64 q2.pct, .int .u64 (q2.least : Nat), .int .u64 (q2.live : Nat), .bool q2.on, .int .u64 (q2.est : Nat), .int .u64 (q2.room : Nat), .int .u64 (q2.credit : Nat), .int .u64 (q2.done : Nat), .int .u64 (q2.made : Nat), .slice A4 q2.ds.length c4, .int .i64 q3.pct, .int .u64 (q3.least : Nat), .int .u64 (q3.live : Nat), .bool q3.on, .int .u64 (q3.est : Nat), .int .u64 (q3.room : Nat), .int .u64 (q3.credit : Nat), .int .u64 (q3.done : Nat), .int .u64 (q3.made : Nat), .slice A5 q3.ds.length c5] 25)) := b_d5.alloc (by first | omega | (simp only [World.size_alloc, size_ten]; omega)) _
  (try simp only [World.size_alloc] at d3 d4 d5)
  have e3 := (d3.keep b_d3).mono (B' := w2.heap.size + 1) (C' := w5.heap.size + 1) (by first | omega | (simp only [World.size_alloc]; omega)) (by omega)
  have e4 := (d4.keep b_d4).mono (B' := w2.heap.size + 1) (C' := w5.heap.size + 1) (by first | omega | (simp only [World.size_alloc]; omega)) (by omega)
  have e5 := (d5.keep b_d5).mono (B' := w2.heap.size + 1) (C' := w5.heap.size + 1) (by first | omega | (simp only [World.size_alloc]; omega)) (by omega)
  have cb0 : (((w5.alloc (.cells #[.int .i64 q3.pct, .int .u64 (q3.least : Nat), .int .u64 (q3.live : Nat), .bool q3.on, .int .u64 (q3.est : Nat), .int .u64 (q3.room : Nat), .int .u64 (q3.credit : Nat), .int .u64 (q3.done : Nat), .int .u64 (q3.made : Nat), .slice A5 q3.ds.length c5] 25)).alloc (.cells #[.int .i64 q1.pct, .int .u64 (q1.least : Nat), .int .u64 (q1.live : Nat), .bool q1.on, .int .u64 (q1.est : Nat), .int .u64 (q1.room : Nat), .int .u64 (q1.credit : Nat), .int .u64 (q1.done : Nat), .int .u64 (q1.made : Nat), .slice A3 q1.ds.length c3, .int .i64 q2.pct, .int .u64 (q2.least : Nat), .int .u64 (q2.live : Nat), .bool q2.on, .int .u64 (q2.est : Nat), .int .u64 (q2.room : Nat), .int .u64 (q2.credit : Nat), .int .u64 (q2.done : Nat), .int .u64 (q2.made : Nat), .slice A4 q2.ds.length c4, .int .i64 q3.pct, .int .u64 (q3.least : Nat), .int .u64 (q3.live : Nat), .bool q3.on, .int .u64 (q3.est : Nat), .int .u64 (q3.room : Nat), .int .u64 (q3.credit : Nat), .int .u64 (q3.done : Nat), .int .u64 (q3.made : Nat), .slice A5 q3.ds.length c5] 25))).cell? ⟨w5.heap.size + 1, 0, none⟩ = some (.int .i64 q1.pct) := by
    have := World.size_alloc w5 (.cells #[.int .i64 q3.pct, .int .u64 (q3.least : Nat), .int .u64 (q3.live : Nat), .bool q3.on, .int .u64 (q3.est : Nat), .int .u64 (q3.room : Nat), .int .u64 (q3.credit : Nat), .int .u64 (q3.done : Nat), .int .u64 (q3.made : Nat), .slice A5 q3.ds.length c5] 25)
    simp [go_sem]
  have cb1 : (((w5.alloc (.cells #[.int .i64 q3.pct, .int .u64 (q3.least : Nat), .int .u64 (q3.live : Nat), .bool q3.on, .int .u64 (q3.est : Nat), .int .u64 (q3.room : Nat), .int .u64 (q3.credit : Nat), .int .u64 (q3.done : Nat), .int .u64 (q3.made : Nat), .slice A5 q3.ds.length c5] 25)).alloc (.cells #[.int .i64 q1.pct, .int .u64 (q1.least : Nat), .int .u64 (q1.live : Nat), .bool q1.on, .int .u64 (q1.est : Nat), .int .u64 (q1.room : Nat), .int .u64 (q1.credit : Nat), .int .u64 (q1.done : Nat), .int .u64 (q1.made : Nat), .slice A3 q1.ds.length c3, .int .i64 q2.pct, .int .u64 (q2.least : Nat), .int .u64 (q2.live : Nat), .bool q2.on, .int .u64 (q2.est : Nat), .int .u64 (q2.room : Nat), .int .u64 (q2.credit : Nat), .int .u64 (q2.done : Nat), .int .u64 (q2.made : Nat), .slice A4 q2.ds.length c4, .int .i64 q3.pct, .int .u64 (q3.least : Nat), .int .u64 (q3.live : Nat), .bool q3.on, .int .u64 (q3.est : Nat), .int .u64 (q3.room : Nat), .int .u64 (q3.credit : Nat), .int .u64 (q3.done : Nat), .int .u64 (q3.made : Nat), .slice A5 q3.ds.length c5] 25))).cell? ⟨w5.heap.size + 1, 1, none⟩ = some (.int .u64 (q1.least : Nat)) := by
    have := World.size_alloc w5 (.cells #[.int .i64 q3.pct, .int .u64 (q3.least : Nat), .int .u64 (q3.live : Nat), .bool q3.on, .int .u64 (q3.est : Nat), .int .u64 (q3.room : Nat), .int .u64 (q3.credit : Nat), .int .u64 (q3.done : Nat), .int .u64 (q3.made : Nat), .slice A5 q3.ds.length c5] 25)
    simp [go_sem]
  have cb2 : (((w5.alloc (.cells #[.int .i64 q3.pct, .int .u64 (q3.least : Nat), .int .u64 (q3.live : Nat), .bool q3.on, .int .u64 (q3.est : Nat), .int .u64 (q3.room : Nat), .int .u64 (q3.credit : Nat), .int .u64 (q3.done : Nat), .int .u64 (q3.made : Nat), .slice A5 q3.ds.length c5] 25)).alloc (.cells #[.int .i64 q1.pct, .int .u64 (q1.least : Nat), .int .u64 (q1.live : Nat), .bool q1.on, .int .u64 (q1.est : Nat), .int .u64 (q1.room : Nat), .int .u64 (q1.credit : Nat), .int .u64 (q1.done : Nat), .int .u64 (q1.made : Nat), .slice A3 q1.ds.length c3, .int .i64 q2.pct, .int .u64 (q2.least : Nat), .int .u64 (q2.live : Nat), .bool q2.on, .int .u64 (q2.est : Nat), .int .u64 (q2.room : Nat), .int .u64 (q2.credit : Nat), .int .u64 (q2.done : Nat), .int .u64 (q2.made : Nat), .slice A4 q2.ds.length c4, .int .i64 q3.pct, .int .u64 (q3.least : Nat), .int .u64 (q3.live : Nat), .bool q3.on, .int .u64 (q3.est : Nat), .int .u64 (q3.room : Nat), .int .u64 (q3.credit : Nat), .int .u64 (q3.done : Nat), .int .u64 (q3.made : Nat), .slice A5 q3.ds.length c5] 25))).cell? ⟨w5.heap.size + 1, 2, none⟩ = some (.int .u64 (q1.live : Nat)) := by
    have := World.size_alloc w5 (.cells #[.int .i64 q3.pct, .int .u64 (q3.least : Nat), .int .u64 (q3.live : Nat), .bool q3.on, .int .u64 (q3.est : Nat), .int .u64 (q3.room : Nat), .int .u64 (q3.credit : Nat), .int .u64 (q3.done : Nat), .int .u64 (q3.made : Nat), .slice A5 q3.ds.length c5] 25)
    simp [go_sem]
  have cb3 : (((w5.alloc (.cells #[.int .i64 q3.pct, .int .u64 (q3.least : Nat), .int .u64 (q3.live : Nat), .bool q3.on, .int .u64 (q3.est : Nat), .int .u64 (q3.room : Nat), .int .u64 (q3.credit : Nat), .int .u64 (q3.done : Nat), .int .u64 (q3.made : Nat), .slice A5 q3.ds.length c5] 25)).alloc (.cells #[.int .i64 q1.pct, .int .u64 (q1.least : Nat), .int .u64 (q1.live : Nat), .bool q1.on, .int .u64 (q1.est : Nat), .int .u64 (q1.room : Nat), .int .u64 (q1.credit : Nat), .int .u64 (q1.done : Nat), .int .u64 (q1.made : Nat), .slice A3 q1.ds.length c3, .int .i64 q2.pct, .int .u64 (q2.least : Nat), .int .u64 (q2.live : Nat), .bool q2.on, .int .u64 (q2.est : Nat), .int .u64 (q2.room : Nat), .int .u64 (q2.credit : Nat), .int .u64 (q2.done : Nat), .int .u64 (q2.made : Nat), .slice A4 q2.ds.length c4, .int .i64 q3.pct, .int .u64 (q3.least : Nat), .int .u64 (q3.live : Nat), .bool q3.on, .int .u64 (q3.est : Nat), .int .u64 (q3.room : Nat), .int .u64 (q3.credit : Nat), .int .u64 (q3.done : Nat), .int .u64 (q3.made : Nat), .slice A5 q3.ds.length c5] 25))).cell? ⟨w5.heap.size + 1, 3, none⟩ = some (.bool q1.on) := by
    have := World.size_alloc w5 (.cells #[.int .i64 q3.pct, .int .u64 (q3.least : Nat), .int .u64 (q3.live : Nat), .bool q3.on, .int .u64 (q3.est : Nat), .int .u64 (q3.room : Nat), .int .u64 (q3.credit : Nat), .int .u64 (q3.done : Nat), .int .u64 (q3.made : Nat), .slice A5 q3.ds.length c5] 25)
    simp [go_sem]
  have cb4 : (((w5.alloc (.cells #[.int .i64 q3.pct, .int .u64 (q3.least : Nat), .int .u64 (q3.live : Nat), .bool q3.on, .int .u64 (q3.est : Nat), .int .u64 (q3.room : Nat), .int .u64 (q3.credit : Nat), .int .u64 (q3.done : Nat), .int .u64 (q3.made : Nat), .slice A5 q3.ds.length c5] 25)).alloc (.cells #[.int .i64 q1.pct, .int .u64 (q1.least : Nat), .int .u64 (q1.live : Nat), .bool q1.on, .int .u64 (q1.est : Nat), .int .u64 (q1.room : Nat), .int .u64 (q1.credit : Nat), .int .u64 (q1.done : Nat), .int .u64 (q1.made : Nat), .slice A3 q1.ds.length c3, .int .i64 q2.pct, .int .u64 (q2.least : Nat), .int .u64 (q2.live : Nat), .bool q2.on, .int .u64 (q2.est : Nat), .int .u64 (q2.room : Nat), .int .u64 (q2.credit : Nat), .int .u64 (q2.done : Nat), .int .u64 (q2.made : Nat), .slice A4 q2.ds.length c4, .int .i64 q3.pct, .int .u64 (q3.least : Nat), .int .u64 (q3.live : Nat), .bool q3.on, .int .u64 (q3.est : Nat), .int .u64 (q3.room : Nat), .int .u64 (q3.credit : Nat), .int .u64 (q3.done : Nat), .int .u64 (q3.made : Nat), .slice A5 q3.ds.length c5] 25))).cell? ⟨w5.heap.size + 1, 4, none⟩ = some (.int .u64 (q1.est : Nat)) := by
    have := World.size_alloc w5 (.cells #[.int .i64 q3.pct, .int .u64 (q3.least : Nat), .int .u64 (q3.live : Nat), .bool q3.on, .int .u64 (q3.est : Nat), .int .u64 (q3.room : Nat), .int .u64 (q3.credit : Nat), .int .u64 (q3.done : Nat), .int .u64 (q3.made : Nat), .slice A5 q3.ds.length c5] 25)
    simp [go_sem]
  have cb5 : (((w5.alloc (.cells #[.int .i64 q3.pct, .int .u64 (q3.least : Nat), .int .u64 (q3.live : Nat), .bool q3.on, .int .u64 (q3.est : Nat), .int .u64 (q3.room : Nat), .int .u64 (q3.credit : Nat), .int .u64 (q3.done : Nat), .int .u64 (q3.made : Nat), .slice A5 q3.ds.length c5] 25)).alloc (.cells #[.int .i64 q1.pct, .int .u64 (q1.least : Nat), .int .u64 (q1.live : Nat), .bool q1.on, .int .u64 (q1.est : Nat), .int .u64 (q1.room : Nat), .int .u64 (q1.credit : Nat), .int .u64 (q1.done : Nat), .int .u64 (q1.made : Nat), .slice A3 q1.ds.length c3, .int .i64 q2.pct, .int .u64 (q2.least : Nat), .int .u64 (q2.live : Nat), .bool q2.on, .int .u64 (q2.est : Nat), .int .u64 (q2.room : Nat), .int .u64 (q2.credit : Nat), .int .u64 (q2.done : Nat), .int .u64 (q2.made : Nat), .slice A4 q2.ds.length c4, .int .i64 q3.pct, .int .u64 (q3.least : Nat), .int .u64 (q3.live : Nat), .bool q3.on, .int .u64 (q3.est : Nat), .int .u64 (q3.room : Nat), .int .u64 (q3.credit : Nat), .int .u64 (q3.done : Nat), .int .u64 (q3.made : Nat), .slice A5 q3.ds.length c5] 25))).cell? ⟨w5.heap.size + 1, 5, none⟩ = some (.int .u64 (q1.room : Nat)) := by
    have := World.size_alloc w5 (.cells #[.int .i64 q3.pct, .int .u64 (q3.least : Nat), .int .u64 (q3.live : Nat), .bool q3.on, .int .u64 (q3.est : Nat), .int .u64 (q3.room : Nat), .int .u64 (q3.credit : Nat), .int .u64 (q3.done : Nat), .int .u64 (q3.made : Nat), .slice A5 q3.ds.length c5] 25)
    simp [go_sem]
  have cb6 : (((w5.alloc (.cells #[.int .i64 q3.pct, .int .u64 (q3.least : Nat), .int .u64 (q3.live : Nat), .bool q3.on, .int .u64 (q3.est : Nat), .int .u64 (q3.room : Nat), .int .u64 (q3.credit : Nat), .int .u64 (q3.done : Nat), .int .u64 (q3.made : Nat), .slice A5 q3.ds.length c5] 25)).alloc (.cells #[.int .i64 q1.pct, .int .u64 (q1.least : Nat), .int .u64 (q1.live : Nat), .bool q1.on, .int .u64 (q1.est : Nat), .int .u64 (q1.room : Nat), .int .u64 (q1.credit : Nat), .int .u64 (q1.done : Nat), .int .u64 (q1.made : Nat), .slice A3 q1.ds.length c3, .int .i64 q2.pct, .int .u64 (q2.least : Nat), .int .u64 (q2.live : Nat), .bool q2.on, .int .u64 (q2.est : Nat), .int .u64 (q2.room : Nat), .int .u64 (q2.credit : Nat), .int .u64 (q2.done : Nat), .int .u64 (q2.made : Nat), .slice A4 q2.ds.length c4, .int .i64 q3.pct, .int .u64 (q3.least : Nat), .int .u64 (q3.live : Nat), .bool q3.on, .int .u64 (q3.est : Nat), .int .u64 (q3.room : Nat), .int .u64 (q3.credit : Nat), .int .u64 (q3.done : Nat), .int .u64 (q3.made : Nat), .slice A5 q3.ds.length c5] 25))).cell? ⟨w5.heap.size + 1, 6, none⟩ = some (.int .u64 (q1.credit : Nat)) := by
    have := World.size_alloc w5 (.cells #[.int .i64 q3.pct, .int .u64 (q3.least : Nat), .int .u64 (q3.live : Nat), .bool q3.on, .int .u64 (q3.est : Nat), .int .u64 (q3.room : Nat), .int .u64 (q3.credit : Nat), .int .u64 (q3.done : Nat), .int .u64 (q3.made : Nat), .slice A5 q3.ds.length c5] 25)
    simp [go_sem]
  have cb7 : (((w5.alloc (.cells #[.int .i64 q3.pct, .int .u64 (q3.least : Nat), .int .u64 (q3.live : Nat), .bool q3.on, .int .u64 (q3.est : Nat), .int .u64 (q3.room : Nat), .int .u64 (q3.credit : Nat), .int .u64 (q3.done : Nat), .int .u64 (q3.made : Nat), .slice A5 q3.ds.length c5] 25)).alloc (.cells #[.int .i64 q1.pct, .int .u64 (q1.least : Nat), .int .u64 (q1.live : Nat), .bool q1.on, .int .u64 (q1.est : Nat), .int .u64 (q1.room : Nat), .int .u64 (q1.credit : Nat), .int .u64 (q1.done : Nat), .int .u64 (q1.made : Nat), .slice A3 q1.ds.length c3, .int .i64 q2.pct, .int .u64 (q2.least : Nat), .int .u64 (q2.live : Nat), .bool q2.on, .int .u64 (q2.est : Nat), .int .u64 (q2.room : Nat), .int .u64 (q2.credit : Nat), .int .u64 (q2.done : Nat), .int .u64 (q2.made : Nat), .slice A4 q2.ds.length c4, .int .i64 q3.pct, .int .u64 (q3.least : Nat), .int .u64 (q3.live : Nat), .bool q3.on, .int .u64 (q3.est : Nat), .int .u64 (q3.room : Nat), .int .u64 (q3.credit : Nat), .int .u64 (q3.done : Nat), .int .u64 (q3.made : Nat), .slice A5 q3.ds.length c5] 25))).cell? ⟨w5.heap.size + 1, 7, none⟩ = some (.int .u64 (q1.done : Nat)) := by
    have := World.size_alloc w5 (.cells #[.int .i64 q3.pct, .int .u64 (q3.least : Nat), .int .u64 (q3.live : Nat), .bool q3.on, .int .u64 (q3.est : Nat), .int .u64 (q3.room : Nat), .int .u64 (q3.credit : Nat), .int .u64 (q3.done : Nat), .int .u64 (q3.made : Nat), .slice A5 q3.ds.length c5] 25)
    simp [go_sem]
  have cb8 : (((w5.alloc (.cells #[.int .i64 q3.pct, .int .u64 (q3.least : Nat), .int .u64 (q3.live : Nat), .bool q3.on, .int .u64 (q3.est : Nat), .int .u64 (q3.room : Nat), .int .u64 (q3.credit : Nat), .int .u64 (q3.done : Nat), .int .u64 (q3.made : Nat), .slice A5 q3.ds.length c5] 25)).alloc (.cells #[.int .i64 q1.pct, .int .u64 (q1.least : Nat), .int .u64 (q1.live : Nat), .bool q1.on, .int .u64 (q1.est : Nat), .int .u64 (q1.room : Nat), .int .u64 (q1.credit : Nat), .int .u64 (q1.done : Nat), .int .u64 (q1.made : Nat), .slice A3 q1.ds.length c3, .int .i64 q2.pct, .int .u64 (q2.least : Nat), .int .u64 (q2.live : Nat), .bool q2.on, .int .u64 (q2.est : Nat), .int .u64 (q2.room : Nat), .int .u64 (q2.credit : Nat), .int .u64 (q2.done : Nat), .int .u64 (q2.made : Nat), .slice A4 q2.ds.length c4, .int .i64 q3.pct, .int .u64 (q3.least : Nat), .int .u64 (q3.live : Nat), .bool q3.on, .int .u64 (q3.est : Nat), .int .u64 (q3.room : Nat), .int .u64 (q3.credit : Nat), .int .u64 (q3.done : Nat), .int .u64 (q3.made : Nat), .slice A5 q3.ds.length c5] 25))).cell? ⟨w5.heap.size + 1, 8, none⟩ = some (.int .u64 (q1.made : Nat)) := by
    have := World.size_alloc w5 (.cells #[.int .i64 q3.pct, .int .u64 (q3.least : Nat), .int .u64 (q3.live : Nat), .bool q3.on, .int .u64 (q3.est : Nat), .int .u64 (q3.room : Nat), .int .u64 (q3.credit : Nat), .int .u64 (q3.done : Nat), .int .u64 (q3.made : Nat), .slice A5 q3.ds.length c5] 25)
    simp [go_sem]
  have cb9 : (((w5.alloc (.cells #[.int .i64 q3.pct, .int .u64 (q3.least : Nat), .int .u64 (q3.live : Nat), .bool q3.on, .int .u64 (q3.est : Nat), .int .u64 (q3.room : Nat), .int .u64 (q3.credit : Nat), .int .u64 (q3.done : Nat), .int .u64 (q3.made : Nat), .slice A5 q3.ds.length c5] 25)).alloc (.cells #[.int .i64 q1.pct, .int .u64 (q1.least : Nat), .int .u64 (q1.live : Nat), .bool q1.on, .int .u64 (q1.est : Nat), .int .u64 (q1.room : Nat), .int .u64 (q1.credit : Nat), .int .u64 (q1.done : Nat), .int .u64 (q1.made : Nat), .slice A3 q1.ds.length c3, .int .i64 q2.pct, .int .u64 (q2.least : Nat), .int .u64 (q2.live : Nat), .bool q2.on, .int .u64 (q2.est : Nat), .int .u64 (q2.room : Nat), .int .u64 (q2.credit : Nat), .int .u64 (q2.done : Nat), .int .u64 (q2.made : Nat), .slice A4 q2.ds.length c4, .int .i64 q3.pct, .int .u64 (q3.least : Nat), .int .u64 (q3.live : Nat), .bool q3.on, .int .u64 (q3.est : Nat), .int .u64 (q3.room : Nat), .int .u64 (q3.credit : Nat), .int .u64 (q3.done : Nat), .int .u64 (q3.made : Nat), .slice A5 q3.ds.length c5] 25))).cell? ⟨w5.heap.size + 1, 9, none⟩ = some (.slice A3 q1.ds.length c3) := by
    have := World.size_alloc w5 (.cells #[.int .i64 q3.pct, .int .u64 (q3.least : Nat), .int .u64 (q3.live : Nat), .bool q3.on, .int .u64 (q3.est : Nat), .int .u64 (q3.room : Nat), .int .u64 (q3.credit : Nat), .int .u64 (q3.done : Nat), .int .u64 (q3.made : Nat), .slice A5 q3.ds.length c5] 25)
    simp [go_sem]
  have cb10 : (((w5.alloc (.cells #[.int .i64 q3.pct, .int .u64 (q3.least : Nat), .int .u64 (q3.live : Nat), .bool q3.on, .int .u64 (q3.est : Nat), .int .u64 (q3.room : Nat), .int .u64 (q3.credit : Nat), .int .u64 (q3.done : Nat), .int .u64 (q3.made : Nat), .slice A5 q3.ds.length c5] 25)).alloc (.cells #[.int .i64 q1.pct, .int .u64 (q1.least : Nat), .int .u64 (q1.live : Nat), .bool q1.on, .int .u64 (q1.est : Nat), .int .u64 (q1.room : Nat), .int .u64 (q1.credit : Nat), .int .u64 (q1.done : Nat), .int .u64 (q1.made : Nat), .slice A3 q1.ds.length c3, .int .i64 q2.pct, .int .u64 (q2.least : Nat), .int .u64 (q2.live : Nat), .bool q2.on, .int .u64 (q2.est : Nat), .int .u64 (q2.room : Nat), .int .u64 (q2.credit : Nat), .int .u64 (q2.done : Nat), .int .u64 (q2.made : Nat), .slice A4 q2.ds.length c4, .int .i64 q3.pct, .int .u64 (q3.least : Nat), .int .u64 (q3.live : Nat), .bool q3.on, .int .u64 (q3.est : Nat), .int .u64 (q3.room : Nat), .int .u64 (q3.credit : Nat), .int .u64 (q3.done : Nat), .int .u64 (q3.made : Nat), .slice A5 q3.ds.length c5] 25))).cell? ⟨w5.heap.size + 1, 10, none⟩ = some (.int .i64 q2.pct) := by
    have := World.size_alloc w5 (.cells #[.int .i64 q3.pct, .int .u64 (q3.least : Nat), .int .u64 (q3.live : Nat), .bool q3.on, .int .u64 (q3.est : Nat), .int .u64 (q3.room : Nat), .int .u64 (q3.credit : Nat), .int .u64 (q3.done : Nat), .int .u64 (q3.made : Nat), .slice A5 q3.ds.length c5] 25)
    simp [go_sem]
  have cb11 : (((w5.alloc (.cells #[.int .i64 q3.pct, .int .u64 (q3.least : Nat), .int .u64 (q3.live : Nat), .bool q3.on, .int .u64 (q3.est : Nat), .int .u64 (q3.room : Nat), .int .u64 (q3.credit : Nat), .int .u64 (q3.done : Nat), .int .u64 (q3.made : Nat), .slice A5 q3.ds.length c5] 25)).alloc (.cells #[.int .i64 q1.pct, .int .u64 (q1.least : Nat), .int .u64 (q1.live : Nat), .bool q1.on, .int .u64 (q1.est : Nat), .int .u64 (q1.room : Nat), .int .u64 (q1.credit : Nat), .int .u64 (q1.done : Nat), .int .u64 (q1.made : Nat), .slice A3 q1.ds.length c3, .int .i64 q2.pct, .int .u64 (q2.least : Nat), .int .u64 (q2.live : Nat), .bool q2.on, .int .u64 (q2.est : Nat), .int .u64 (q2.room : Nat), .int .u64 (q2.credit : Nat), .int .u64 (q2.done : Nat), .int .u64 (q2.made : Nat), .slice A4 q2.ds.length c4, .int .i64 q3.pct, .int .u64 (q3.least : Nat), .int .u64 (q3.live : Nat), .bool q3.on, .int .u64 (q3.est : Nat), .int .u64 (q3.room : Nat), .int .u64 (q3.credit : Nat), .int .u64 (q3.done : Nat), .int .u64 (q3.made : Nat), .slice A5 q3.ds.length c5] 25))).cell? ⟨w5.heap.size + 1, 11, none⟩ = some (.int .u64 (q2.least : Nat)) := by
    have := World.size_alloc w5 (.cells #[.int .i64 q3.pct, .int .u64 (q3.least : Nat), .int .u64 (q3.live : Nat), .bool q3.on, .int .u64 (q3.est : Nat), .int .u64 (q3.room : Nat), .int .u64 (q3.credit : Nat), .int .u64 (q3.done : Nat), .int .u64 (q3.made : Nat), .slice A5 q3.ds.length c5] 25)
    simp [go_sem]
  have cb12 : (((w5.alloc (.cells #[.int .i64 q3.pct, .int .u64 (q3.least : Nat), .int .u64 (q3.live : Nat), .bool q3.on, .int .u64 (q3.est : Nat), .int .u64 (q3.room : Nat), .int .u64 (q3.credit : Nat), .int .u64 (q3.done : Nat), .int .u64 (q3.made : Nat), .slice A5 q3.ds.length c5] 25)).alloc (.cells #[.int .i64 q1.pct, .int .u64 (q1.least : Nat), .int .u64 (q1.live : Nat), .bool q1.on, .int .u64 (q1.est : Nat), .int .u64 (q1.room : Nat), .int .u64 (q1.credit : Nat), .int .u64 (q1.done : Nat), .int .u64 (q1.made : Nat), .slice A3 q1.ds.length c3, .int .i64 q2.pct, .int .u64 (q2.least : Nat), .int .u64 (q2.live : Nat), .bool q2.on, .int .u64 (q2.est : Nat), .int .u64 (q2.room : Nat), .int .u64 (q2.credit : Nat), .int .u64 (q2.done : Nat), .int .u64 (q2.made : Nat), .slice A4 q2.ds.length c4, .int .i64 q3.pct, .int .u64 (q3.least : Nat), .int .u64 (q3.live : Nat), .bool q3.on, .int .u64 (q3.est : Nat), .int .u64 (q3.room : Nat), .int .u64 (q3.credit : Nat), .int .u64 (q3.done : Nat), .int .u64 (q3.made : Nat), .slice A5 q3.ds.length c5] 25))).cell? ⟨w5.heap.size + 1, 12, none⟩ = some (.int .u64 (q2.live : Nat)) := by
    have := World.size_alloc w5 (.cells #[.int .i64 q3.pct, .int .u64 (q3.least : Nat), .int .u64 (q3.live : Nat), .bool q3.on, .int .u64 (q3.est : Nat), .int .u64 (q3.room : Nat), .int .u64 (q3.credit : Nat), .int .u64 (q3.done : Nat), .int .u64 (q3.made : Nat), .slice A5 q3.ds.length c5] 25)
    simp [go_sem]
  have cb13 : (((w5.alloc (.cells #[.int .i64 q3.pct, .int .u64 (q3.least : Nat), .int .u64 (q3.live : Nat), .bool q3.on, .int .u64 (q3.est : Nat), .int .u64 (q3.room : Nat), .int .u64 (q3.credit : Nat), .int .u64 (q3.done : Nat), .int .u64 (q3.made : Nat), .slice A5 q3.ds.length c5] 25)).alloc (.cells #[.int .i64 q1.pct, .int .u64 (q1.least : Nat), .int .u64 (q1.live : Nat), .bool q1.on, .int .u64 (q1.est : Nat), .int .u64 (q1.room : Nat), .int .u64 (q1.credit : Nat), .int .u64 (q1.done : Nat), .int .u64 (q1.made : Nat), .slice A3 q1.ds.length c3, .int .i64 q2.pct, .int .u64 (q2.least : Nat), .int .u64 (q2.live : Nat), .bool q2.on, .int .u64 (q2.est : Nat), .int .u64 (q2.room : Nat), .int .u64 (q2.credit : Nat), .int .u64 (q2.done : Nat), .int .u64 (q2.made : Nat), .slice A4 q2.ds.length c4, .int .i64 q3.pct, .int .u64 (q3.least : Nat), .int .u64 (q3.live : Nat), .bool q3.on, .int .u64 (q3.est : Nat), .int .u64 (q3.room : Nat), .int .u64 (q3.credit : Nat), .int .u64 (q3.done : Nat), .int .u64 (q3.made : Nat), .slice A5 q3.ds.length c5] 25))).cell? ⟨w5.heap.size + 1, 13, none⟩ = some (.bool q2.on) := by
    have := World.size_alloc w5 (.cells #[.int .i64 q3.pct, .int .u64 (q3.least : Nat), .int .u64 (q3.live : Nat), .bool q3.on, .int .u64 (q3.est : Nat), .int .u64 (q3.room : Nat), .int .u64 (q3.credit : Nat), .int .u64 (q3.done : Nat), .int .u64 (q3.made : Nat), .slice A5 q3.ds.length c5] 25)
    simp [go_sem]
  have cb14 : (((w5.alloc (.cells #[.int .i64 q3.pct, .int .u64 (q3.least : Nat), .int .u64 (q3.live : Nat), .bool q3.on, .int .u64 (q3.est : Nat), .int .u64 (q3.room : Nat), .int .u64 (q3.credit : Nat), .int .u64 (q3.done : Nat), .int .u64 (q3.made : Nat), .slice A5 q3.ds.length c5] 25)).alloc (.cells #[.int .i64 q1.pct, .int .u64 (q1.least : Nat), .int .u64 (q1.live : Nat), .bool q1.on, .int .u64 (q1.est : Nat), .int .u64 (q1.room : Nat), .int .u64 (q1.credit : Nat), .int .u64 (q1.done : Nat), .int .u64 (q1.made : Nat), .slice A3 q1.ds.length c3, .int .i64 q2.pct, .int .u64 (q2.least : Nat), .int .u64 (q2.live : Nat), .bool q2.on, .int .u64 (q2.est : Nat), .int .u64 (q2.room : Nat), .int .u64 (q2.credit : Nat), .int .u64 (q2.done : Nat), .int .u64 (q2.made : Nat), .slice A4 q2.ds.length c4, .int .i64 q3.pct, .int .u64 (q3.least : Nat), .int .u64 (q3.live : Nat), .bool q3.on, .int .u64 (q3.est : Nat), .int .u64 (q3.room : Nat), .int .u64 (q3.credit : Nat), .int .u64 (q3.done : Nat), .int .u64 (q3.made : Nat), .slice A5 q3.ds.length c5] 25))).cell? ⟨w5.heap.size + 1, 14, none⟩ = some (.int .u64 (q2.est : Nat)) := by
    have := World.size_alloc w5 (.cells #[.int .i64 q3.pct, .int .u64 (q3.least : Nat), .int .u64 (q3.live : Nat), .bool q3.on, .int .u64 (q3.est : Nat), .int .u64 (q3.room : Nat), .int .u64 (q3.credit : Nat), .int .u64 (q3.done : Nat), .int .u64 (q3.made : Nat), .slice A5 q3.ds.length c5] 25)
    simp [go_sem]
  have cb15 : (((w5.alloc (.cells #[.int .i64 q3.pct, .int .u64 (q3.least : Nat), .int .u64 (q3.live : Nat), .bool q3.on, .int .u64 (q3.est : Nat), .int .u64 (q3.room : Nat), .int .u64 (q3.credit : Nat), .int .u64 (q3.done : Nat), .int .u64 (q3.made : Nat), .slice A5 q3.ds.length c5] 25)).alloc (.cells #[.int .i64 q1.pct, .int .u64 (q1.least : Nat), .int .u64 (q1.live : Nat), .bool q1.on, .int .u64 (q1.est : Nat), .int .u64 (q1.room : Nat), .int .u64 (q1.credit : Nat), .int .u64 (q1.done : Nat), .int .u64 (q1.made : Nat), .slice A3 q1.ds.length c3, .int .i64 q2.pct, .int .u64 (q2.least : Nat), .int .u64 (q2.live : Nat), .bool q2.on, .int .u64 (q2.est : Nat), .int .u64 (q2.room : Nat), .int .u64 (q2.credit : Nat), .int .u64 (q2.done : Nat), .int .u64 (q2.made : Nat), .slice A4 q2.ds.length c4, .int .i64 q3.pct, .int .u64 (q3.least : Nat), .int .u64 (q3.live : Nat), .bool q3.on, .int .u64 (q3.est : Nat), .int .u64 (q3.room : Nat), .int .u64 (q3.credit : Nat), .int .u64 (q3.done : Nat), .int .u64 (q3.made : Nat), .slice A5 q3.ds.length c5] 25))).cell? ⟨w5.heap.size + 1, 15, none⟩ = some (.int .u64 (q2.room : Nat)) := by
    have := World.size_alloc w5 (.cells #[.int .i64 q3.pct, .int .u64 (q3.least : Nat), .int .u64 (q3.live : Nat), .bool q3.on, .int .u64 (q3.est : Nat), .int .u64 (q3.room : Nat), .int .u64 (q3.credit : Nat), .int .u64 (q3.done : Nat), .int .u64 (q3.made : Nat), .slice A5 q3.ds.length c5] 25)
    simp [go_sem]
  have cb16 : (((w5.alloc (.cells #[.int .i64 q3.pct, .int .u64 (q3.least : Nat), .int .u64 (q3.live : Nat), .bool q3.on, .int .u64 (q3.est : Nat), .int .u64 (q3.room : Nat), .int .u64 (q3.credit : Nat), .int .u64 (q3.done : Nat), .int .u64 (q3.made : Nat), .slice A5 q3.ds.length c5] 25)).alloc (.cells #[.int .i64 q1.pct, .int .u64 (q1.least : Nat), .int .u64 (q1.live : Nat), .bool q1.on, .int .u64 (q1.est : Nat), .int .u64 (q1.room : Nat), .int .u64 (q1.credit : Nat), .int .u64 (q1.done : Nat), .int .u64 (q1.made : Nat), .slice A3 q1.ds.length c3, .int .i64 q2.pct, .int .u64 (q2.least : Nat), .int .u64 (q2.live : Nat), .bool q2.on, .int .u64 (q2.est : Nat), .int .u64 (q2.room : Nat), .int .u64 (q2.credit : Nat), .int .u64 (q2.done : Nat), .int .u64 (q2.made : Nat), .slice A4 q2.ds.length c4, .int .i64 q3.pct, .int .u64 (q3.least : Nat), .int .u64 (q3.live : Nat), .bool q3.on, .int .u64 (q3.est : Nat), .int .u64 (q3.room : Nat), .int .u64 (q3.credit : Nat), .int .u64 (q3.done : Nat), .int .u64 (q3.made : Nat), .slice A5 q3.ds.length c5] 25))).cell? ⟨w5.heap.size + 1, 16, none⟩ = some (.int .u64 (q2.credit : Nat)) := by
    have := World.size_alloc w5 (.cells #[.int .i64 q3.pct, .int .u64 (q3.least : Nat), .int .u64 (q3.live : Nat), .bool q3.on, .int .u64 (q3.est : Nat), .int .u64 (q3.room : Nat), .int .u64 (q3.credit : Nat), .int .u64 (q3.done : Nat), .int .u64 (q3.made : Nat), .slice A5 q3.ds.length c5] 25)
    simp [go_sem]
  have cb17 : (((w5.alloc (.cells #[.int .i64 q3.pct, .int .u64 (q3.least : Nat), .int .u64 (q3.live : Nat), .bool q3.on, .int .u64 (q3.est : Nat), .int .u64 (q3.room : Nat), .int .u64 (q3.credit : Nat), .int .u64 (q3.done : Nat), .int .u64 (q3.made : Nat), .slice A5 q3.ds.length c5] 25)).alloc (.cells #[.int .i64 q1.pct, .int .u64 (q1.least : Nat), .int .u64 (q1.live : Nat), .bool q1.on, .int .u64 (q1.est : Nat), .int .u64 (q1.room : Nat), .int .u64 (q1.credit : Nat), .int .u64 (q1.done : Nat), .int .u64 (q1.made : Nat), .slice A3 q1.ds.length c3, .int .i64 q2.pct, .int .u64 (q2.least : Nat), .int .u64 (q2.live : Nat), .bool q2.on, .int .u64 (q2.est : Nat), .int .u64 (q2.room : Nat), .int .u64 (q2.credit : Nat), .int .u64 (q2.done : Nat), .int .u64 (q2.made : Nat), .slice A4 q2.ds.length c4, .int .i64 q3.pct, .int .u64 (q3.least : Nat), .int .u64 (q3.live : Nat), .bool q3.on, .int .u64 (q3.est : Nat), .int .u64 (q3.room : Nat), .int .u64 (q3.credit : Nat), .int .u64 (q3.done : Nat), .int .u64 (q3.made : Nat), .slice A5 q3.ds.length c5] 25))).cell? ⟨w5.heap.size + 1, 17, none⟩ = some (.int .u64 (q2.done : Nat)) := by
    have := World.size_alloc w5 (.cells #[.int .i64 q3.pct, .int .u64 (q3.least : Nat), .int .u64 (q3.live : Nat), .bool q3.on, .int .u64 (q3.est : Nat), .int .u64 (q3.room : Nat), .int .u64 (q3.credit : Nat), .int .u64 (q3.done : Nat), .int .u64 (q3.made : Nat), .slice A5 q3.ds.length c5] 25)
    simp [go_sem]
  have cb18 : (((w5.alloc (.cells #[.int .i64 q3.pct, .int .u64 (q3.least : Nat), .int .u64 (q3.live : Nat), .bool q3.on, .int .u64 (q3.est : Nat), .int .u64 (q3.room : Nat), .int .u64 (q3.credit : Nat), .int .u64 (q3.done : Nat), .int .u64 (q3.made : Nat), .slice A5 q3.ds.length c5] 25)).alloc (.cells #[.int .i64 q1.pct, .int .u64 (q1.least : Nat), .int .u64 (q1.live : Nat), .bool q1.on, .int .u64 (q1.est : Nat), .int .u64 (q1.room : Nat), .int .u64 (q1.credit : Nat), .int .u64 (q1.done : Nat), .int .u64 (q1.made : Nat), .slice A3 q1.ds.length c3, .int .i64 q2.pct, .int .u64 (q2.least : Nat), .int .u64 (q2.live : Nat), .bool q2.on, .int .u64 (q2.est : Nat), .int .u64 (q2.room : Nat), .int .u64 (q2.credit : Nat), .int .u64 (q2.done : Nat), .int .u64 (q2.made : Nat), .slice A4 q2.ds.length c4, .int .i64 q3.pct, .int .u64 (q3.least : Nat), .int .u64 (q3.live : Nat), .bool q3.on, .int .u64 (q3.est : Nat), .int .u64 (q3.room : Nat), .int .u64 (q3.credit : Nat), .int .u64 (q3.done : Nat), .int .u64 (q3.made : Nat), .slice A5 q3.ds.length c5] 25))).cell? ⟨w5.heap.size + 1, 18, none⟩ = some (.int .u64 (q2.made : Nat)) := by
    have := World.size_alloc w5 (.cells #[.int .i64 q3.pct, .int .u64 (q3.least : Nat), .int .u64 (q3.live : Nat), .bool q3.on, .int .u64 (q3.est : Nat), .int .u64 (q3.room : Nat), .int .u64 (q3.credit : Nat), .int .u64 (q3.done : Nat), .int .u64 (q3.made : Nat), .slice A5 q3.ds.length c5] 25)
    simp [go_sem]
  have cb19 : (((w5.alloc (.cells #[.int .i64 q3.pct, .int .u64 (q3.least : Nat), .int .u64 (q3.live : Nat), .bool q3.on, .int .u64 (q3.est : Nat), .int .u64 (q3.room : Nat), .int .u64 (q3.credit : Nat), .int .u64 (q3.done : Nat), .int .u64 (q3.made : Nat), .slice A5 q3.ds.length c5] 25)).alloc (.cells #[.int .i64 q1.pct, .int .u64 (q1.least : Nat), .int .u64 (q1.live : Nat), .bool q1.on, .int .u64 (q1.est : Nat), .int .u64 (q1.room : Nat), .int .u64 (q1.credit : Nat), .int .u64 (q1.done : Nat), .int .u64 (q1.made : Nat), .slice A3 q1.ds.length c3, .int .i64 q2.pct, .int .u64 (q2.least : Nat), .int .u64 (q2.live : Nat), .bool q2.on, .int .u64 (q2.est : Nat), .int .u64 (q2.room : Nat), .int .u64 (q2.credit : Nat), .int .u64 (q2.done : Nat), .int .u64 (q2.made : Nat), .slice A4 q2.ds.length c4, .int .i64 q3.pct, .int .u64 (q3.least : Nat), .int .u64 (q3.live : Nat), .bool q3.on, .int .u64 (q3.est : Nat), .int .u64 (q3.room : Nat), .int .u64 (q3.credit : Nat), .int .u64 (q3.done : Nat), .int .u64 (q3.made : Nat), .slice A5 q3.ds.length c5] 25))).cell? ⟨w5.heap.size + 1, 19, none⟩ = some (.slice A4 q2.ds.length c4) := by
    have := World.size_alloc w5 (.cells #[.int .i64 q3.pct, .int .u64 (q3.least : Nat), .int .u64 (q3.live : Nat), .bool q3.on, .int .u64 (q3.est : Nat), .int .u64 (q3.room : Nat), .int .u64 (q3.credit : Nat), .int .u64 (q3.done : Nat), .int .u64 (q3.made : Nat), .slice A5 q3.ds.length c5] 25)
    simp [go_sem]
  have cb20 : (((w5.alloc (.cells #[.int .i64 q3.pct, .int .u64 (q3.least : Nat), .int .u64 (q3.live : Nat), .bool q3.on, .int .u64 (q3.est : Nat), .int .u64 (q3.room : Nat), .int .u64 (q3.credit : Nat), .int .u64 (q3.done : Nat), .int .u64 (q3.made : Nat), .slice A5 q3.ds.length c5] 25)).alloc (.cells #[.int .i64 q1.pct, .int .u64 (q1.least : Nat), .int .u64 (q1.live : Nat), .bool q1.on, .int .u64 (q1.est : Nat), .int .u64 (q1.room : Nat), .int .u64 (q1.credit : Nat), .int .u64 (q1.done : Nat), .int .u64 (q1.made : Nat), .slice A3 q1.ds.length c3, .int .i64 q2.pct, .int .u64 (q2.least : Nat), .int .u64 (q2.live : Nat), .bool q2.on, .int .u64 (q2.est : Nat), .int .u64 (q2.room : Nat), .int .u64 (q2.credit : Nat), .int .u64 (q2.done : Nat), .int .u64 (q2.made : Nat), .slice A4 q2.ds.length c4, .int .i64 q3.pct, .int .u64 (q3.least : Nat), .int .u64 (q3.live : Nat), .bool q3.on, .int .u64 (q3.est : Nat), .int .u64 (q3.room : Nat), .int .u64 (q3.credit : Nat), .int .u64 (q3.done : Nat), .int .u64 (q3.made : Nat), .slice A5 q3.ds.length c5] 25))).cell? ⟨w5.heap.size + 1, 20, none⟩ = some (.int .i64 q3.pct) := by
    have := World.size_alloc w5 (.cells #[.int .i64 q3.pct, .int .u64 (q3.least : Nat), .int .u64 (q3.live : Nat), .bool q3.on, .int .u64 (q3.est : Nat), .int .u64 (q3.room : Nat), .int .u64 (q3.credit : Nat), .int .u64 (q3.done : Nat), .int .u64 (q3.made : Nat), .slice A5 q3.ds.length c5] 25)
    simp [go_sem]
  have cb21 : (((w5.alloc (.cells #[.int .i64 q3.pct, .int .u64 (q3.least : Nat), .int .u64 (q3.live : Nat), .bool q3.on, .int .u64 (q3.est : Nat), .int .u64 (q3.room : Nat), .int .u64 (q3.credit : Nat), .int .u64 (q3.done : Nat), .int .u64 (q3.made : Nat), .slice A5 q3.ds.length c5] 25)).alloc (.cells #[.int .i64 q1.pct, .int .u64 (q1.least : Nat), .int .u64 (q1.live : Nat), .bool q1.on, .int .u64 (q1.est : Nat), .int .u64 (q1.room : Nat), .int .u64 (q1.credit : Nat), .int .u64 (q1.done : Nat), .int .u64 (q1.made : Nat), .slice A3 q1.ds.length c3, .int .i64 q2.pct, .int .u64 (q2.least : Nat), .int .u64 (q2.live : Nat), .bool q2.on, .int .u64 (q2.est : Nat), .int .u64 (q2.room : Nat), .int .u64 (q2.credit : Nat), .int .u64 (q2.done : Nat), .int .u64 (q2.made : Nat), .slice A4 q2.ds.length c4, .int .i64 q3.pct, .int .u64 (q3.least : Nat), .int .u64 (q3.live : Nat), .bool q3.on, .int .u64 (q3.est : Nat), .int .u64 (q3.room : Nat), .int .u64 (q3.credit : Nat), .int .u64 (q3.done : Nat), .int .u64 (q3.made : Nat), .slice A5 q3.ds.length c5] 25))).cell? ⟨w5.heap.size + 1, 21, none⟩ = some (.int .u64 (q3.least : Nat)) := by
    have := World.size_alloc w5 (.cells #[.int .i64 q3.pct, .int .u64 (q3.least : Nat), .int .u64 (q3.live : Nat), .bool q3.on, .int .u64 (q3.est : Nat), .int .u64 (q3.room : Nat), .int .u64 (q3.credit : Nat), .int .u64 (q3.done : Nat), .int .u64 (q3.made : Nat), .slice A5 q3.ds.length c5] 25)
    simp [go_sem]
  have cb22 : (((w5.alloc (.cells #[.int .i64 q3.pct, .int .u64 (q3.least : Nat), .int .u64 (q3.live : Nat), .bool q3.on, .int .u64 (q3.est : Nat), .int .u64 (q3.room : Nat), .int .u64 (q3.credit : Nat), .int .u64 (q3.done : Nat), .int .u64 (q3.made : Nat), .slice A5 q3.ds.length c5] 25)).alloc (.cells #[.int .i64 q1.pct, .int .u64 (q1.least : Nat), .int .u64 (q1.live : Nat), .bool q1.on, .int .u64 (q1.est : Nat), .int .u64 (q1.room : Nat), .int .u64 (q1.credit : Nat), .int .u64 (q1.done : Nat), .int .u64 (q1.made : Nat), .slice A3 q1.ds.length c3, .int .i64 q2.pct, .int .u64 (q2.least : Nat), .int .u64 (q2.live : Nat), .bool q2.on, .int .u64 (q2.est : Nat), .int .u64 (q2.room : Nat), .int .u64 (q2.credit : Nat), .int .u64 (q2.done : Nat), .int .u64 (q2.made : Nat), .slice A4 q2.ds.length c4, .int .i64 q3.pct, .int .u64 (q3.least : Nat), .int .u64 (q3.live : Nat), .bool q3.on, .int .u64 (q3.est : Nat), .int .u64 (q3.room : Nat), .int .u64 (q3.credit : Nat), .int .u64 (q3.done : Nat), .int .u64 (q3.made : Nat), .slice A5 q3.ds.length c5] 25))).cell? ⟨w5.heap.size + 1, 22, none⟩ = some (.int .u64 (q3.live : Nat)) := by
    have := World.size_alloc w5 (.cells #[.int .i64 q3.pct, .int .u64 (q3.least : Nat), .int .u64 (q3.live : Nat), .bool q3.on, .int .u64 (q3.est : Nat), .int .u64 (q3.room : Nat), .int .u64 (q3.credit : Nat), .int .u64 (q3.done : Nat), .int .u64 (q3.made : Nat), .slice A5 q3.ds.length c5] 25)
    simp [go_sem]
  have cb23 : (((w5.alloc (.cells #[.int .i64 q3.pct, .int .u64 (q3.least : Nat), .int .u64 (q3.live : Nat), .bool q3.on, .int .u64 (q3.est : Nat), .int .u64 (q3.room : Nat), .int .u64 (q3.credit : Nat), .int .u64 (q3.done : Nat), .int .u64 (q3.made : Nat), .slice A5 q3.ds.length c5] 25)).alloc (.cells #[.int .i64 q1.pct, .int .u64 (q1.least : Nat), .int .u64 (q1.live : Nat), .bool q1.on, .int .u64 (q1.est : Nat), .int .u64 (q1.room : Nat), .int .u64 (q1.credit : Nat), .int .u64 (q1.done : Nat), .int .u64 (q1.made : Nat), .slice A3 q1.ds.length c3, .int .i64 q2.pct, .int .u64 (q2.least : Nat), .int .u64 (q2.live : Nat), .bool q2.on, .int .u64 (q2.est : Nat), .int .u64 (q2.room : Nat), .int .u64 (q2.credit : Nat), .int .u64 (q2.done : Nat), .int .u64 (q2.made : Nat), .slice A4 q2.ds.length c4, .int .i64 q3.pct, .int .u64 (q3.least : Nat), .int .u64 (q3.live : Nat), .bool q3.on, .int .u64 (q3.est : Nat), .int .u64 (q3.room : Nat), .int .u64 (q3.credit : Nat), .int .u64 (q3.done : Nat), .int .u64 (q3.made : Nat), .slice A5 q3.ds.length c5] 25))).cell? ⟨w5.heap.size + 1, 23, none⟩ = some (.bool q3.on) := by
    have := World.size_alloc w5 (.cells #[.int .i64 q3.pct, .int .u64 (q3.least : Nat), .int .u64 (q3.live : Nat), .bool q3.on, .int .u64 (q3.est : Nat), .int .u64 (q3.room : Nat), .int .u64 (q3.credit : Nat), .int .u64 (q3.done : Nat), .int .u64 (q3.made : Nat), .slice A5 q3.ds.length c5] 25)
    simp [go_sem]
  have cb24 : (((w5.alloc (.cells #[.int .i64 q3.pct, .int .u64 (q3.least : Nat), .int .u64 (q3.live : Nat), .bool q3.on, .int .u64 (q3.est : Nat), .int .u64 (q3.room : Nat), .int .u64 (q3.credit : Nat), .int .u64 (q3.done : Nat), .int .u64 (q3.made : Nat), .slice A5 q3.ds.length c5] 25)).alloc (.cells #[.int .i64 q1.pct, .int .u64 (q1.least : Nat), .int .u64 (q1.live : Nat), .bool q1.on, .int .u64 (q1.est : Nat), .int .u64 (q1.room : Nat), .int .u64 (q1.credit : Nat), .int .u64 (q1.done : Nat), .int .u64 (q1.made : Nat), .slice A3 q1.ds.length c3, .int .i64 q2.pct, .int .u64 (q2.least : Nat), .int .u64 (q2.live : Nat), .bool q2.on, .int .u64 (q2.est : Nat), .int .u64 (q2.room : Nat), .int .u64 (q2.credit : Nat), .int .u64 (q2.done : Nat), .int .u64 (q2.made : Nat), .slice A4 q2.ds.length c4, .int .i64 q3.pct, .int .u64 (q3.least : Nat), .int .u64 (q3.live : Nat), .bool q3.on, .int .u64 (q3.est : Nat), .int .u64 (q3.room : Nat), .int .u64 (q3.credit : Nat), .int .u64 (q3.done : Nat), .int .u64 (q3.made : Nat), .slice A5 q3.ds.length c5] 25))).cell? ⟨w5.heap.size + 1, 24, none⟩ = some (.int .u64 (q3.est : Nat)) := by
    have := World.size_alloc w5 (.cells #[.int .i64 q3.pct, .int .u64 (q3.least : Nat), .int .u64 (q3.live : Nat), .bool q3.on, .int .u64 (q3.est : Nat), .int .u64 (q3.room : Nat), .int .u64 (q3.credit : Nat), .int .u64 (q3.done : Nat), .int .u64 (q3.made : Nat), .slice A5 q3.ds.length c5] 25)
    simp [go_sem]
  have cb25 : (((w5.alloc (.cells #[.int .i64 q3.pct, .int .u64 (q3.least : Nat), .int .u64 (q3.live : Nat), .bool q3.on, .int .u64 (q3.est : Nat), .int .u64 (q3.room : Nat), .int .u64 (q3.credit : Nat), .int .u64 (q3.done : Nat), .int .u64 (q3.made : Nat), .slice A5 q3.ds.length c5] 25)).alloc (.cells #[.int .i64 q1.pct, .int .u64 (q1.least : Nat), .int .u64 (q1.live : Nat), .bool q1.on, .int .u64 (q1.est : Nat), .int .u64 (q1.room : Nat), .int .u64 (q1.credit : Nat), .int .u64 (q1.done : Nat), .int .u64 (q1.made : Nat), .slice A3 q1.ds.length c3, .int .i64 q2.pct, .int .u64 (q2.least : Nat), .int .u64 (q2.live : Nat), .bool q2.on, .int .u64 (q2.est : Nat), .int .u64 (q2.room : Nat), .int .u64 (q2.credit : Nat), .int .u64 (q2.done : Nat), .int .u64 (q2.made : Nat), .slice A4 q2.ds.length c4, .int .i64 q3.pct, .int .u64 (q3.least : Nat), .int .u64 (q3.live : Nat), .bool q3.on, .int .u64 (q3.est : Nat), .int .u64 (q3.room : Nat), .int .u64 (q3.credit : Nat), .int .u64 (q3.done : Nat), .int .u64 (q3.made : Nat), .slice A5 q3.ds.length c5] 25))).cell? ⟨w5.heap.size + 1, 25, none⟩ = some (.int .u64 (q3.room : Nat)) := by
    have := World.size_alloc w5 (.cells #[.int .i64 q3.pct, .int .u64 (q3.least : Nat), .int .u64 (q3.live : Nat), .bool q3.on, .int .u64 (q3.est : Nat), .int .u64 (q3.room : Nat), .int .u64 (q3.credit : Nat), .int .u64 (q3.done : Nat), .int .u64 (q3.made : Nat), .slice A5 q3.ds.length c5] 25)
    simp [go_sem]
  have cb26 : (((w5.alloc (.cells #[.int .i64 q3.pct, .int .u64 (q3.least : Nat), .int .u64 (q3.live : Nat), .bool q3.on, .int .u64 (q3.est : Nat), .int .u64 (q3.room : Nat), .int .u64 (q3.credit : Nat), .int .u64 (q3.done : Nat), .int .u64 (q3.made : Nat), .slice A5 q3.ds.length c5] 25)).alloc (.cells #[.int .i64 q1.pct, .int .u64 (q1.least : Nat), .int .u64 (q1.live : Nat), .bool q1.on, .int .u64 (q1.est : Nat), .int .u64 (q1.room : Nat), .int .u64 (q1.credit : Nat), .int .u64 (q1.done : Nat), .int .u64 (q1.made : Nat), .slice A3 q1.ds.length c3, .int .i64 q2.pct, .int .u64 (q2.least : Nat), .int .u64 (q2.live : Nat), .bool q2.on, .int .u64 (q2.est : Nat), .int .u64 (q2.room : Nat), .int .u64 (q2.credit : Nat), .int .u64 (q2.done : Nat), .int .u64 (q2.made : Nat), .slice A4 q2.ds.length c4, .int .i64 q3.pct, .int .u64 (q3.least : Nat), .int .u64 (q3.live : Nat), .bool q3.on, .int .u64 (q3.est : Nat), .int .u64 (q3.room : Nat), .int .u64 (q3.credit : Nat), .int .u64 (q3.done : Nat), .int .u64 (q3.made : Nat), .slice A5 q3.ds.length c5] 25))).cell? ⟨w5.heap.size + 1, 26, none⟩ = some (.int .u64 (q3.credit : Nat)) := by
    have := World.size_alloc w5 (.cells #[.int .i64 q3.pct, .int .u64 (q3.least : Nat), .int .u64 (q3.live : Nat), .bool q3.on, .int .u64 (q3.est : Nat), .int .u64 (q3.room : Nat), .int .u64 (q3.credit : Nat), .int .u64 (q3.done : Nat), .int .u64 (q3.made : Nat), .slice A5 q3.ds.length c5] 25)
    simp [go_sem]
  have cb27 : (((w5.alloc (.cells #[.int .i64 q3.pct, .int .u64 (q3.least : Nat), .int .u64 (q3.live : Nat), .bool q3.on, .int .u64 (q3.est : Nat), .int .u64 (q3.room : Nat), .int .u64 (q3.credit : Nat), .int .u64 (q3.done : Nat), .int .u64 (q3.made : Nat), .slice A5 q3.ds.length c5] 25)).alloc (.cells #[.int .i64 q1.pct, .int .u64 (q1.least : Nat), .int .u64 (q1.live : Nat), .bool q1.on, .int .u64 (q1.est : Nat), .int .u64 (q1.room : Nat), .int .u64 (q1.credit : Nat), .int .u64 (q1.done : Nat), .int .u64 (q1.made : Nat), .slice A3 q1.ds.length c3, .int .i64 q2.pct, .int .u64 (q2.least : Nat), .int .u64 (q2.live : Nat), .bool q2.on, .int .u64 (q2.est : Nat), .int .u64 (q2.room : Nat), .int .u64 (q2.credit : Nat), .int .u64 (q2.done : Nat), .int .u64 (q2.made : Nat), .slice A4 q2.ds.length c4, .int .i64 q3.pct, .int .u64 (q3.least : Nat), .int .u64 (q3.live : Nat), .bool q3.on, .int .u64 (q3.est : Nat), .int .u64 (q3.room : Nat), .int .u64 (q3.credit : Nat), .int .u64 (q3.done : Nat), .int .u64 (q3.made : Nat), .slice A5 q3.ds.length c5] 25))).cell? ⟨w5.heap.size + 1, 27, none⟩ = some (.int .u64 (q3.done : Nat)) := by
    have := World.size_alloc w5 (.cells #[.int .i64 q3.pct, .int .u64 (q3.least : Nat), .int .u64 (q3.live : Nat), .bool q3.on, .int .u64 (q3.est : Nat), .int .u64 (q3.room : Nat), .int .u64 (q3.credit : Nat), .int .u64 (q3.done : Nat), .int .u64 (q3.made : Nat), .slice A5 q3.ds.length c5] 25)
    simp [go_sem]
  have cb28 : (((w5.alloc (.cells #[.int .i64 q3.pct, .int .u64 (q3.least : Nat), .int .u64 (q3.live : Nat), .bool q3.on, .int .u64 (q3.est : Nat), .int .u64 (q3.room : Nat), .int .u64 (q3.credit : Nat), .int .u64 (q3.done : Nat), .int .u64 (q3.made : Nat), .slice A5 q3.ds.length c5] 25)).alloc (.cells #[.int .i64 q1.pct, .int .u64 (q1.least : Nat), .int .u64 (q1.live : Nat), .bool q1.on, .int .u64 (q1.est : Nat), .int .u64 (q1.room : Nat), .int .u64 (q1.credit : Nat), .int .u64 (q1.done : Nat), .int .u64 (q1.made : Nat), .slice A3 q1.ds.length c3, .int .i64 q2.pct, .int .u64 (q2.least : Nat), .int .u64 (q2.live : Nat), .bool q2.on, .int .u64 (q2.est : Nat), .int .u64 (q2.room : Nat), .int .u64 (q2.credit : Nat), .int .u64 (q2.done : Nat), .int .u64 (q2.made : Nat), .slice A4 q2.ds.length c4, .int .i64 q3.pct, .int .u64 (q3.least : Nat), .int .u64 (q3.live : Nat), .bool q3.on, .int .u64 (q3.est : Nat), .int .u64 (q3.room : Nat), .int .u64 (q3.credit : Nat), .int .u64 (q3.done : Nat), .int .u64 (q3.made : Nat), .slice A5 q3.ds.length c5] 25))).cell? ⟨w5.heap.size + 1, 28, none⟩ = some (.int .u64 (q3.made : Nat)) := by
    have := World.size_alloc w5 (.cells #[.int .i64 q3.pct, .int .u64 (q3.least : Nat), .int .u64 (q3.live : Nat), .bool q3.on, .int .u64 (q3.est : Nat), .int .u64 (q3.room : Nat), .int .u64 (q3.credit : Nat), .int .u64 (q3.done : Nat), .int .u64 (q3.made : Nat), .slice A5 q3.ds.length c5] 25)
    simp [go_sem]
  have cb29 : (((w5.alloc (.cells #[.int .i64 q3.pct, .int .u64 (q3.least : Nat), .int .u64 (q3.live : Nat), .bool q3.on, .int .u64 (q3.est : Nat), .int .u64 (q3.room : Nat), .int .u64 (q3.credit : Nat), .int .u64 (q3.done : Nat), .int .u64 (q3.made : Nat), .slice A5 q3.ds.length c5] 25)).alloc (.cells #[.int .i64 q1.pct, .int .u64 (q1.least : Nat), .int .u64 (q1.live : Nat), .bool q1.on, .int .u64 (q1.est : Nat), .int .u64 (q1.room : Nat), .int .u64 (q1.credit : Nat), .int .u64 (q1.done : Nat), .int .u64 (q1.made : Nat), .slice A3 q1.ds.length c3, .int .i64 q2.pct, .int .u64 (q2.least : Nat), .int .u64 (q2.live : Nat), .bool q2.on, .int .u64 (q2.est : Nat), .int .u64 (q2.room : Nat), .int .u64 (q2.credit : Nat), .int .u64 (q2.done : Nat), .int .u64 (q2.made : Nat), .slice A4 q2.ds.length c4, .int .i64 q3.pct, .int .u64 (q3.least : Nat), .int .u64 (q3.live : Nat), .bool q3.on, .int .u64 (q3.est : Nat), .int .u64 (q3.room : Nat), .int .u64 (q3.credit : Nat), .int .u64 (q3.done : Nat), .int .u64 (q3.made : Nat), .slice A5 q3.ds.length c5] 25))).cell? ⟨w5.heap.size + 1, 29, none⟩ = some (.slice A5 q3.ds.length c5) := by
    have := World.size_alloc w5 (.cells #[.int .i64 q3.pct, .int .u64 (q3.least : Nat), .int .u64 (q3.live : Nat), .bool q3.on, .int .u64 (q3.est : Nat), .int .u64 (q3.room : Nat), .int .u64 (q3.credit : Nat), .int .u64 (q3.done : Nat), .int .u64 (q3.made : Nat), .slice A5 q3.ds.length c5] 25)
    simp [go_sem]
  go_wp2_with fail
  have sW : w5.heap.size + 1 < (((w5.alloc (.cells #[.int .i64 q3.pct, .int .u64 (q3.least : Nat), .int .u64 (q3.live : Nat), .bool q3.on, .int .u64 (q3.est : Nat), .int .u64 (q3.room : Nat), .int .u64 (q3.credit : Nat), .int .u64 (q3.done : Nat), .int .u64 (q3.made : Nat), .slice A5 q3.ds.length c5] 25)).alloc (.cells #[.int .i64 q1.pct, .int .u64 (q1.least : Nat), .int .u64 (q1.live : Nat), .bool q1.on, .int .u64 (q1.est : Nat), .int .u64 (q1.room : Nat), .int .u64 (q1.credit : Nat), .int .u64 (q1.done : Nat), .int .u64 (q1.made : Nat), .slice A3 q1.ds.length c3, .int .i64 q2.pct, .int .u64 (q2.least : Nat), .int .u64 (q2.live : Nat), .bool q2.on, .int .u64 (q2.est : Nat), .int .u64 (q2.room : Nat), .int .u64 (q2.credit : Nat), .int .u64 (q2.done : Nat), .int .u64 (q2.made : Nat), .slice A4 q2.ds.length c4, .int .i64 q3.pct, .int .u64 (q3.least : Nat), .int .u64 (q3.live : Nat), .bool q3.on, .int .u64 (q3.est : Nat), .int .u64 (q3.room : Nat), .int .u64 (q3.credit : Nat), .int .u64 (q3.done : Nat), .int .u64 (q3.made : Nat), .slice A5 q3.ds.length c5] 25))).heap.size := by simp
  generalize hW0 : ((w5.alloc (.cells #[.int .i64 q3.pct, .int .u64 (q3.least : Nat), .int .u64 (q3.live : Nat), .bool q3.on, .int .u64 (q3.est : Nat), .int .u64 (q3.room : Nat), .int .u64 (q3.credit : Nat), .int .u64 (q3.done : Nat), .int .u64 (q3.made : Nat), .slice A5 q3.ds.length c5] 25)).alloc (.cells #[.int .i64 q1.pct, .int .u64 (q1.least : Nat), .int .u64 (q1.live : Nat), .bool q1.on, .int .u64 (q1.est : Nat), .int .u64 (q1.room : Nat), .int .u64 (q1.credit : Nat), .int .u64 (q1.done : Nat), .int .u64 (q1.made : Nat), .slice A3 q1.ds.length c3, .int .i64 q2.pct, .int .u64 (q2.least : Nat), .int .u64 (q2.live : Nat), .bool q2.on, .int .u64 (q2.est : Nat), .int .u64 (q2.room : Nat), .int .u64 (q2.credit : Nat), .int .u64 (q2.done : Nat), .int .u64 (q2.made : Nat), .slice A4 q2.ds.length c4, .int .i64 q3.pct, .int .u64 (q3.least : Nat), .int .u64 (q3.live : Nat), .bool q3.on, .int .u64 (q3.est : Nat), .int .u64 (q3.room : Nat), .int .u64 (q3.credit : Nat), .int .u64 (q3.done : Nat), .int .u64 (q3.made : Nat), .slice A5 q3.ds.length c5] 25)) = W at *
  have hI : Hid (OwnI W W (w2.heap.size + 1) (w5.heap.size + 1) A3 q1.ds.length A4 q2.ds.length A5 q3.ds.length) := Lib.hid ⟨fun _ => rfl, e3, e4, e5, Below.refl _ _, sW⟩
  have BC : w2.heap.size + 1 ≤ w5.heap.size + 1 := by omega
  generalize w5.heap.size + 1 = C at *
  clear hW0 e3 e4 e5 d3 d4 d5 b_d3 b_d4 b_d5 ba bb bc o_r3 o_r4 o_r5 sW
  go_loopw [49] (fun ii wr => ∃ k : Nat, ii = .int .i64 (k : Nat) ∧ k ≤ 3 ∧ Hid (OwnI W wr (w2.heap.size + 1) C A3 q1.ds.length A4 q2.ds.length A5 q3.ds.length)) (fun ii _ => 3 - (intOf ii).toNat)
  case atStart => exact ⟨0, rfl, by omega, hI⟩
  case round =>
    obtain ⟨k, rfl, hk3, HI⟩ := hrel
    by_cases hlt : k < 3
    · have hblk := HI.out.blk
      have hCs := HI.out.size
      obtain rfl | rfl | rfl : k = 0 ∨ k = 1 ∨ k = 2 := by omega
      · have y0 : wr.cell? ⟨C, 0, none⟩ = some (.int .i64 q1.pct) := (hblk 0).trans cb0
        have y1 : wr.cell? ⟨C, 1, none⟩ = some (.int .u64 (q1.least : Nat)) := (hblk 1).trans cb1
        have y2 : wr.cell? ⟨C, 2, none⟩ = some (.int .u64 (q1.live : Nat)) := (hblk 2).trans cb2
        have y3 : wr.cell? ⟨C, 3, none⟩ = some (.bool q1.on) := (hblk 3).trans cb3
        have y4 : wr.cell? ⟨C, 4, none⟩ = some (.int .u64 (q1.est : Nat)) := (hblk 4).trans cb4
        have y5 : wr.cell? ⟨C, 5, none⟩ = some (.int .u64 (q1.room : Nat)) := (hblk 5).trans cb5
        have y6 : wr.cell? ⟨C, 6, none⟩ = some (.int .u64 (q1.credit : Nat)) := (hblk 6).trans cb6
        have y7 : wr.cell? ⟨C, 7, none⟩ = some (.int .u64 (q1.done : Nat)) := (hblk 7).trans cb7
        have y8 : wr.cell? ⟨C, 8, none⟩ = some (.int .u64 (q1.made : Nat)) := (hblk 8).trans cb8
        have y9 : wr.cell? ⟨C, 9, none⟩ = some (.slice A3 q1.ds.length c3) := (hblk 9).trans cb9
        have I1 := Lib.hid (HI.out.alloc (.cells #[.int .i64 q1.pct, .int .u64 (q1.least : Nat), .int .u64 (q1.live : Nat), .bool q1.on, .int .u64 (q1.est : Nat), .int .u64 (q1.room : Nat), .int .u64 (q1.credit : Nat), .int .u64 (q1.done : Nat), .int .u64 (q1.made : Nat), .slice A3 q1.ds.length c3] 25) BC)
        have x9 : (wr.alloc (.cells #[.int .i64 q1.pct, .int .u64 (q1.least : Nat), .int .u64 (q1.live : Nat), .bool q1.on, .int .u64 (q1.est : Nat), .int .u64 (q1.room : Nat), .int .u64 (q1.credit : Nat), .int .u64 (q1.done : Nat), .int .u64 (q1.made : Nat), .slice A3 q1.ds.length c3] 25)).cell? ⟨wr.heap.size, 9, none⟩ = some (.slice A3 q1.ds.length c3) := by simp [go_sem]
        have xlt : wr.heap.size < (wr.alloc (.cells #[.int .i64 q1.pct, .int .u64 (q1.least : Nat), .int .u64 (q1.live : Nat), .bool q1.on, .int .u64 (q1.est : Nat), .int .u64 (q1.room : Nat), .int .u64 (q1.credit : Nat), .int .u64 (q1.done : Nat), .int .u64 (q1.made : Nat), .slice A3 q1.ds.length c3] 25)).heap.size := by simp
        have xC : C < wr.heap.size := hCs
        clear hblk
        go_wp2_with fail
        generalize wr.alloc (.cells #[.int .i64 q1.pct, .int .u64 (q1.least : Nat), .int .u64 (q1.live : Nat), .bool q1.on, .int .u64 (q1.est : Nat), .int .u64 (q1.room : Nat), .int .u64 (q1.credit : Nat), .int .u64 (q1.done : Nat), .int .u64 (q1.made : Nat), .slice A3 q1.ds.length c3] 25) = wA at *
        generalize wr.heap.size = xb at *
        have X9 := Lib.hid (And.intro x9 xlt)
        clear y0 y1 y2 y3 y4 y5 y6 y7 y8 y9 x9 xlt
        go_loopw [56] (fun jj wr => ∃ j : Nat, jj = .int .i64 (j : Nat) ∧ j ≤ q1.ds.length ∧ Hid (OwnI W wr (w2.heap.size + 1) C A3 q1.ds.length A4 q2.ds.length A5 q3.ds.length) ∧ Hid (wr.cell? ⟨xb, 9, none⟩ = some (.slice A3 q1.ds.length c3) ∧ xb < wr.heap.size)) (fun jj _ => q1.ds.length - (intOf jj).toNat)
        case atStart => exact ⟨0, rfl, Nat.zero_le _, I1, X9⟩
        case round =>
          obtain ⟨j, rfl, hjl, HJ, HX9⟩ := hrel
          obtain ⟨x9, xlt⟩ := HX9.out
          by_cases hjlt : j < q1.ds.length
          · obtain ⟨g, hAg, hBg, hgC, hgc⟩ := HJ.out.a (by omega)
            obtain ⟨⟨v, hv, c0⟩, f0⟩ := hgc j hjlt
            rw [hAg] at x9 ⊢
            have i1 : (j : Int) < (q1.ds.length : Int) := by omega
            have i2 : (0 : Int) ≤ (j : Int) := by omega
            obtain ⟨u, hu, hw5⟩ := plus5 v
            have J2 := Lib.hid (HJ.out.set (g := g) (j := j) (u := u) hBg hgC hu)
            have hgx : g ≠ xb := by omega
            have X2 : Hid (((wr.setCell ⟨g, j, none⟩ (.int .u64 (u : Nat))).cell? ⟨xb, 9, none⟩ = some (.slice A3 q1.ds.length c3)) ∧ xb < (wr.setCell ⟨g, j, none⟩ (.int .u64 (u : Nat))).heap.size) := Lib.hid ⟨(World.cell?_setCell_other _ _ _ _ (by intro e; injection e; omega)).trans (by rw [hAg]; exact x9), by simpa using xlt⟩
            clear hgc hv
            go_wp2
            go_roundw
            case rel => exact ⟨j + 1, by go_num, by omega, by rw [← hAg]; exact J2, by rw [← hAg]; exact X2⟩
            case measure => simp [intOf]; omega
          · obtain rfl : j = q1.ds.length := by omega
            go_wp2
            go_roundw
            case rel => exact ⟨1, by go_num, by omega, HJ⟩
            case measure => simp [intOf]
      · have y0 : wr.cell? ⟨C, 10, none⟩ = some (.int .i64 q2.pct) := (hblk 10).trans cb10
        have y1 : wr.cell? ⟨C, 11, none⟩ = some (.int .u64 (q2.least : Nat)) := (hblk 11).trans cb11
        have y2 : wr.cell? ⟨C, 12, none⟩ = some (.int .u64 (q2.live : Nat)) := (hblk 12).trans cb12
        have y3 : wr.cell? ⟨C, 13, none⟩ = some (.bool q2.on) := (hblk 13).trans cb13
        have y4 : wr.cell? ⟨C, 14, none⟩ = some (.int .u64 (q2.est : Nat)) := (hblk 14).trans cb14
        have y5 : wr.cell? ⟨C, 15, none⟩ = some (.int .u64 (q2.room : Nat)) := (hblk 15).trans cb15
        have y6 : wr.cell? ⟨C, 16, none⟩ = some (.int .u64 (q2.credit : Nat)) := (hblk 16).trans cb16
        have y7 : wr.cell? ⟨C, 17, none⟩ = some (.int .u64 (q2.done : Nat)) := (hblk 17).trans cb17
        have y8 : wr.cell? ⟨C, 18, none⟩ = some (.int .u64 (q2.made : Nat)) := (hblk 18).trans cb18
        have y9 : wr.cell? ⟨C, 19, none⟩ = some (.slice A4 q2.ds.length c4) := (hblk 19).trans cb19
        have I1 := Lib.hid (HI.out.alloc (.cells #[.int .i64 q2.pct, .int .u64 (q2.least : Nat), .int .u64 (q2.live : Nat), .bool q2.on, .int .u64 (q2.est : Nat), .int .u64 (q2.room : Nat), .int .u64 (q2.credit : Nat), .int .u64 (q2.done : Nat), .int .u64 (q2.made : Nat), .slice A4 q2.ds.length c4] 25) BC)
        have x9 : (wr.alloc (.cells #[.int .i64 q2.pct, .int .u64 (q2.least : Nat), .int .u64 (q2.live : Nat), .bool q2.on, .int .u64 (q2.est : Nat), .int .u64 (q2.room : Nat), .int .u64 (q2.credit : Nat), .int .u64 (q2.done : Nat), .int .u64 (q2.made : Nat), .slice A4 q2.ds.length c4] 25)).cell? ⟨wr.heap.size, 9, none⟩ = some (.slice A4 q2.ds.length c4) := by simp [go_sem]
        have xlt : wr.heap.size < (wr.alloc (.cells #[.int .i64 q2.pct, .int .u64 (q2.least : Nat), .int .u64 (q2.live : Nat), .bool q2.on, .int .u64 (q2.est : Nat), .int .u64 (q2.room : Nat), .int .u64 (q2.credit : Nat), .int .u64 (q2.done : Nat), .int .u64 (q2.made : Nat), .slice A4 q2.ds.length c4] 25)).heap.size := by simp
        have xC : C < wr.heap.size := hCs
        clear hblk
        go_wp2_with fail
        generalize wr.alloc (.cells #[.int .i64 q2.pct, .int .u64 (q2.least : Nat), .int .u64 (q2.live : Nat), .bool q2.on, .int .u64 (q2.est : Nat), .int .u64 (q2.room : Nat), .int .u64 (q2.credit : Nat), .int .u64 (q2.done : Nat), .int .u64 (q2.made : Nat), .slice A4 q2.ds.length c4] 25) = wA at *
        generalize wr.heap.size = xb at *
        have X9 := Lib.hid (And.intro x9 xlt)
        clear y0 y1 y2 y3 y4 y5 y6 y7 y8 y9 x9 xlt
        go_loopw [56] (fun jj wr => ∃ j : Nat, jj = .int .i64 (j : Nat) ∧ j ≤ q2.ds.length ∧ Hid (OwnI W wr (w2.heap.size + 1) C A3 q1.ds.length A4 q2.ds.length A5 q3.ds.length) ∧ Hid (wr.cell? ⟨xb, 9, none⟩ = some (.slice A4 q2.ds.length c4) ∧ xb < wr.heap.size)) (fun jj _ => q2.ds.length - (intOf jj).toNat)
        case atStart => exact ⟨0, rfl, Nat.zero_le _, I1, X9⟩
        case round =>
          obtain ⟨j, rfl, hjl, HJ, HX9⟩ := hrel
          obtain ⟨x9, xlt⟩ := HX9.out
          by_cases hjlt : j < q2.ds.length
          · obtain ⟨g, hAg, hBg, hgC, hgc⟩ := HJ.out.b (by omega)
            obtain ⟨⟨v, hv, c0⟩, f0⟩ := hgc j hjlt
            rw [hAg] at x9 ⊢
            have i1 : (j : Int) < (q2.ds.length : Int) := by omega
            have i2 : (0 : Int) ≤ (j : Int) := by omega
            obtain ⟨u, hu, hw5⟩ := plus5 v
            have J2 := Lib.hid (HJ.out.set (g := g) (j := j) (u := u) hBg hgC hu)
            have hgx : g ≠ xb := by omega
            have X2 : Hid (((wr.setCell ⟨g, j, none⟩ (.int .u64 (u : Nat))).cell? ⟨xb, 9, none⟩ = some (.slice A4 q2.ds.length c4)) ∧ xb < (wr.setCell ⟨g, j, none⟩ (.int .u64 (u : Nat))).heap.size) := Lib.hid ⟨(World.cell?_setCell_other _ _ _ _ (by intro e; injection e; omega)).trans (by rw [hAg]; exact x9), by simpa using xlt⟩
            clear hgc hv
            go_wp2
            go_roundw
            case rel => exact ⟨j + 1, by go_num, by omega, by rw [← hAg]; exact J2, by rw [← hAg]; exact X2⟩
            case measure => simp [intOf]; omega
          · obtain rfl : j = q2.ds.length := by omega
            go_wp2
            go_roundw
            case rel => exact ⟨2, by go_num, by omega, HJ⟩
            case measure => simp [intOf]
      · have y0 : wr.cell? ⟨C, 20, none⟩ = some (.int .i64 q3.pct) := (hblk 20).trans cb20
        have y1 : wr.cell? ⟨C, 21, none⟩ = some (.int .u64 (q3.least : Nat)) := (hblk 21).trans cb21
        have y2 : wr.cell? ⟨C, 22, none⟩ = some (.int .u64 (q3.live : Nat)) := (hblk 22).trans cb22
        have y3 : wr.cell? ⟨C, 23, none⟩ = some (.bool q3.on) := (hblk 23).trans cb23
        have y4 : wr.cell? ⟨C, 24, none⟩ = some (.int .u64 (q3.est : Nat)) := (hblk 24).trans cb24
        have y5 : wr.cell? ⟨C, 25, none⟩ = some (.int .u64 (q3.room : Nat)) := (hblk 25).trans cb25
        have y6 : wr.cell? ⟨C, 26, none⟩ = some (.int .u64 (q3.credit : Nat)) := (hblk 26).trans cb26
        have y7 : wr.cell? ⟨C, 27, none⟩ = some (.int .u64 (q3.done : Nat)) := (hblk 27).trans cb27
        have y8 : wr.cell? ⟨C, 28, none⟩ = some (.int .u64 (q3.made : Nat)) := (hblk 28).trans cb28
        have y9 : wr.cell? ⟨C, 29, none⟩ = some (.slice A5 q3.ds.length c5) := (hblk 29).trans cb29
        have I1 := Lib.hid (HI.out.alloc (.cells #[.int .i64 q3.pct, .int .u64 (q3.least : Nat), .int .u64 (q3.live : Nat), .bool q3.on, .int .u64 (q3.est : Nat), .int .u64 (q3.room : Nat), .int .u64 (q3.credit : Nat), .int .u64 (q3.done : Nat), .int .u64 (q3.made : Nat), .slice A5 q3.ds.length c5] 25) BC)
        have x9 : (wr.alloc (.cells #[.int .i64 q3.pct, .int .u64 (q3.least : Nat), .int .u64 (q3.live : Nat), .bool q3.on, .int .u64 (q3.est : Nat), .int .u64 (q3.room : Nat), .int .u64 (q3.credit : Nat), .int .u64 (q3.done : Nat), .int .u64 (q3.made : Nat), .slice A5 q3.ds.length c5] 25)).cell? ⟨wr.heap.size, 9, none⟩ = some (.slice A5 q3.ds.length c5) := by simp [go_sem]
        have xlt : wr.heap.size < (wr.alloc (.cells #[.int .i64 q3.pct, .int .u64 (q3.least : Nat), .int .u64 (q3.live : Nat), .bool q3.on, .int .u64 (q3.est : Nat), .int .u64 (q3.room : Nat), .int .u64 (q3.credit : Nat), .int .u64 (q3.done : Nat), .int .u64 (q3.made : Nat), .slice A5 q3.ds.length c5] 25)).heap.size := by simp
        have xC : C < wr.heap.size := hCs
        clear hblk
        go_wp2_with fail
        generalize wr.alloc (.cells #[.int .i64 q3.pct, .int .u64 (q3.least : Nat), .int .u64 (q3.live : Nat), .bool q3.on, .int .u64 (q3.est : Nat), .int .u64 (q3.room : Nat), .int .u64 (q3.credit : Nat), .int .u64 (q3.done : Nat), .int .u64 (q3.made : Nat), .slice A5 q3.ds.length c5] 25) = wA at *
        generalize wr.heap.size = xb at *
        have X9 := Lib.hid (And.intro x9 xlt)
        clear y0 y1 y2 y3 y4 y5 y6 y7 y8 y9 x9 xlt
        go_loopw [56] (fun jj wr => ∃ j : Nat, jj = .int .i64 (j : Nat) ∧ j ≤ q3.ds.length ∧ Hid (OwnI W wr (w2.heap.size + 1) C A3 q1.ds.length A4 q2.ds.length A5 q3.ds.length) ∧ Hid (wr.cell? ⟨xb, 9, none⟩ = some (.slice A5 q3.ds.length c5) ∧ xb < wr.heap.size)) (fun jj _ => q3.ds.length - (intOf jj).toNat)
        case atStart => exact ⟨0, rfl, Nat.zero_le _, I1, X9⟩
        case round =>
          obtain ⟨j, rfl, hjl, HJ, HX9⟩ := hrel
          obtain ⟨x9, xlt⟩ := HX9.out
          by_cases hjlt : j < q3.ds.length
          · obtain ⟨g, hAg, hBg, hgC, hgc⟩ := HJ.out.c (by omega)
            obtain ⟨⟨v, hv, c0⟩, f0⟩ := hgc j hjlt
            rw [hAg] at x9 ⊢
            have i1 : (j : Int) < (q3.ds.length : Int) := by omega
            have i2 : (0 : Int) ≤ (j : Int) := by omega
            obtain ⟨u, hu, hw5⟩ := plus5 v
            have J2 := Lib.hid (HJ.out.set (g := g) (j := j) (u := u) hBg hgC hu)
            have hgx : g ≠ xb := by omega
            have X2 : Hid (((wr.setCell ⟨g, j, none⟩ (.int .u64 (u : Nat))).cell? ⟨xb, 9, none⟩ = some (.slice A5 q3.ds.length c5)) ∧ xb < (wr.setCell ⟨g, j, none⟩ (.int .u64 (u : Nat))).heap.size) := Lib.hid ⟨(World.cell?_setCell_other _ _ _ _ (by intro e; injection e; omega)).trans (by rw [hAg]; exact x9), by simpa using xlt⟩
            clear hgc hv
            go_wp2
            go_roundw
            case rel => exact ⟨j + 1, by go_num, by omega, by rw [← hAg]; exact J2, by rw [← hAg]; exact X2⟩
            case measure => simp [intOf]; omega
          · obtain rfl : j = q3.ds.length := by omega
            go_wp2
            go_roundw
            case rel => exact ⟨3, by go_num, by omega, HJ⟩
            case measure => simp [intOf]
    · obtain rfl : k = 3 := by omega
      have hb := HI.out.below
      have tp := bp.below hb (by omega)
      have tk := bk.below hb (by omega)
      have tp_lt := tp.lt
      have tk_lt := tk.lt
      have hbw := hb.size
      obtain ⟨x0, x1, x2, x3, x4, x5, x6, x7, x8, x9, xf⟩ := id tp
      obtain ⟨y0, y1, y2, y3, y4, y5, y6, y7, y8, y9, yf⟩ := id tk
      go_wp2_with fail
      go_at_call 16
      refine (HS.out _ _ _ (by exact r1.later (below_trans b_r1 (hb.mono (Nat.le_refl _)) (by omega))) (by exact r2.later (below_trans b_r2 (hb.mono (Nat.le_refl _)) (by omega)))).mono ?_
      rintro e w9 ⟨rfl, hb_w9⟩
      go_wp2
      go_ret
      exact ⟨rfl, below_trans b_r1 (below_trans hb hb_w9 (by omega)) (by omega)⟩
end
end Go.Proofs.Ytkdbcoibapcmjaa
