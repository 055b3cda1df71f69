/- The walk of the law TopHeld. -/
import Derived.Test.YthikpamjeckfcaaDoorH5
import Derived.Deep.RegionHeld3
namespace Go.Proofs.YthikpamjeckfcaaDoor
open Go.RowKit
set_option linter.unusedVariables false
set_option linter.unusedSimpArgs false

/-- small numbers that came in -/
structure URow (w : World) (B : Nat) (A : Option Addr) (xs : List Nat) : Prop where
  in_ : ∀ x ∈ xs, x < 256
  at_ : 0 < xs.length → ∃ b off, A = some ⟨b, off, none⟩ ∧ b < B ∧ ∀ i, i < xs.length → w.cell? ⟨b, off + i, none⟩ = some (.int .u8 (xs.getD i 0 : Nat))
theorem URow.later {w w' : World} {A : Option Addr} {xs : List Nat} (h : URow w w.heap.size A xs) (hb : Below w.heap.size w w') : URow w' w'.heap.size A xs :=
  ⟨h.in_, fun hl => by
    obtain ⟨b, off, e, hlt, hc⟩ := h.at_ hl
    exact ⟨b, off, e, Nat.lt_of_lt_of_le hlt hb.size, fun i hi => (hb.cell (p := ⟨b, off + i, none⟩) hlt).trans (hc i hi)⟩⟩
theorem pmake_len (n L : Nat) (w : World) (h1 : n ≤ 4096) (hL : (wordsN (n : Nat)).length = L) : Calls Tryd.prog 6 #[.int .i64 (n : Nat)] w fun e w' => ∃ A cap, e = .returned (.tuple #[.agg #[.int .i64 (n : Nat), .slice A L cap], .int .i64 0]) ∧ Own w' w.heap.size A (wordsN (n : Nat)) ∧ Below w.heap.size w w' := by
  subst hL
  exact pmake_ok n w (by omega) (by omega)
theorem pg_nat (x : Int) (h : In x) : ∃ c : Nat, Hid (pgOf x = (c : Nat)) ∧ 1 ≤ c ∧ c ≤ 4 := by
  have h0 := h.1
  have h1 := h.2
  refine ⟨(pgOf x).toNat, ?_⟩
  unfold Hid pgOf
  split <;> omega

set_option maxRecDepth 100000 in
set_option maxHeartbeats 8000000 in
theorem topHeld_main (n : Nat) (C D : Option Addr) (cc cd : Nat) (xs : List Int) (od : List Nat) (w : World) (hs : Sizes w) (hq : IRow w w.heap.size C xs) (hxl : xs.length ≤ 17592186044416) (ho : URow w w.heap.size D od) (hol : od.length ≤ 140737488355328) (hn : n ≤ 4096) :
    Calls Tryd.prog 3 #[.int .i64 (n : Nat), .slice C xs.length cc, .slice D od.length cd] w fun e w' => e = .returned (.bool true) ∧ Below w.heap.size w w' := by
  obtain ⟨L, hL⟩ : ∃ L, Hid ((wordsN (n : Nat)).length = L) := ⟨_, rfl⟩
  obtain ⟨i0, hi, hz0, hz1, hz2⟩ := info_parts info_int
  go_enter Tryd.func3, Tryd.ntmps3
  go_wp2_with fail
  go_at_call 5
  refine (begins_any _).mono ?_
  rintro e w1 ⟨rfl, hb_w1⟩
  obtain ⟨hc_w1, hf_w1⟩ := bcell hb_w1; have hs_w1 := hb_w1.size; (try simp only [World.size_alloc, World.size_setCell, World.size_drew, World.heap_drewN] at hs_w1)
  go_wp2_with fail
  go_at_call 6
  refine (pmake_len n L _ hn hL.out).mono ?_
  rintro e w2 ⟨A2, cap2, rfl, ho2, hb_w2⟩
  obtain ⟨hc_w2, hf_w2⟩ := bcell hb_w2; have hs_w2 := hb_w2.size; (try simp only [World.size_alloc, World.size_setCell, World.size_drew, World.heap_drewN] at hs_w2)
  have hb2 : Below w.heap.size w w2 := (by repeat (first | exact Below.refl _ _ | assumption | (refine below_drewN ?_ _) | (refine Below.drew ?_) | (refine Below.alloc ?_ (by first | omega | (simp; omega) | simp) _) | (refine Below.setCell ?_ (by first | omega | (simp; omega) | simp) _) | (refine below_trans ?_ (by assumption) (by first | omega | (simp; omega) | simp))))
  have R0 : Hid (Right (n : Nat) (wordsN (n : Nat))) := Lib.hid (right_wordsN (n : Nat) (by omega) (by omega))
  have H0 : Hid (Held n (wordsN (n : Nat)) [] []) := Lib.hid (held_nil _ _ fun j _ => tb_zeros _ _)
  have K0 : Hid (countTo (wordsN (n : Nat)) n = 0) := Lib.hid (by
    have : ∀ k, countTo (wordsN (n : Nat)) k = 0 := fun k => by
      induction k with
      | zero => rfl
      | succ k ih => rw [countTo, ih, show tb (wordsN (n : Nat)) k = false from tb_zeros _ _]; rfl
    exact this n)
  have ST0 : HSt (w2.alloc (.cells #[.int .i64 (n : Nat), .slice A2 L cap2] 29)) (w2.heap.size + 1) w2.heap.size n L A2 cap2 (wordsN (n : Nat)) none 0 none 0 [] [] :=
    ⟨Two.new _ _ _ _, ho2.row.later ((Below.refl _ _).alloc (Nat.le_refl _) _), World.ownsRow_nil _ _ _ _, World.ownsRow_nil _ _ _ _, (fun g h => by cases h), (fun g h => by cases h), (fun g h => by cases h), (by first | omega | (simp; omega) | simp), Nat.lt_succ_self _⟩
  have hb2' : Below w.heap.size w (w2.alloc (.cells #[.int .i64 (n : Nat), .slice A2 L cap2] 29)) := (by repeat (first | exact Below.refl _ _ | assumption | (refine below_drewN ?_ _) | (refine Below.drew ?_) | (refine Below.alloc ?_ (by first | omega | (simp; omega) | simp) _) | (refine Below.setCell ?_ (by first | omega | (simp; omega) | simp) _) | (refine below_trans ?_ (by assumption) (by first | omega | (simp; omega) | simp))))
  clear hc_w1 hf_w1 hc_w2 hf_w2
  go_wp2_with fail
  go_loopw [9, 10, 11, 45] (fun F S sm ii wr => ∃ (k : Nat) (A' : Option Addr) (cap' : Nat) (us : List Nat) (AF : Option Addr) (capF : Nat) (AS : Option Addr) (capS : Nat) (fs ss : List Nat) (q : Nat), ii = .int .i64 (k : Nat) ∧ k ≤ xs.length ∧ F = .slice AF fs.length capF ∧ S = .slice AS ss.length capS ∧ sm = .int .i64 (q : Nat) ∧ us.length = L ∧ Right (n : Nat) us ∧ Held n us fs ss ∧ countTo us n = q ∧ fs.length ≤ q ∧ HSt wr (w2.heap.size + 1) w2.heap.size n L A' cap' us AF capF AS capS fs ss ∧ Below w.heap.size w wr) (fun _ _ _ ii _ => xs.length - (intOf ii).toNat)
  case atStart => exact ⟨0, A2, cap2, wordsN (n : Nat), none, 0, none, 0, [], [], 0, rfl, Nat.zero_le _, rfl, rfl, rfl, hL.out, R0.out, H0.out, K0.out, Nat.zero_le _, ST0, hb2'⟩
  case round =>
    clear R0 H0 K0 ST0 hb2' ho2
    obtain ⟨k, A', cap', us, AF, capF, AS, capS, fs, ss, q, rfl, hk, rfl, rfl, rfl, hul, hUR, hHd, hcq, hfq, hst, hb_wr⟩ := hrel
    have hqn : q ≤ n := by have := countTo_le us n; omega
    have HU := Lib.hid hUR
    have HH := Lib.hid hHd
    have hsr := hb_wr.size
    have hbig := hst.big
    have hzw2 : w2.heap.size < wr.heap.size := by omega
    have hsw := hs.later hb_wr
    have HLN := Lib.hid hHd.len
    clear hUR hHd
    by_cases hlt : k < xs.length
    · obtain ⟨b, off, rfl, hb, hc⟩ := (hq.later hb_wr).at_ (by omega)
      have hck := hc k hlt
      obtain ⟨x, hx⟩ : ∃ x, Hid (xs.getD k 0 = x) := ⟨_, rfl⟩
      rw [hx.out] at hck
      clear hc
      by_cases hin : In x
      · have HI := Lib.hid hin
        obtain ⟨c, hc, hc1, hc4⟩ := pg_nat x hin
        clear hin
        by_cases h20 : k = 20
        · subst h20
          go_wp2_with fail
          go_at_call 7
          refine (cpages_in hsw x HI.out.1 HI.out.2).mono ?_
          rintro e w0 ⟨rfl, rfl⟩
          rw [hc.out]
          go_wp2
          go_roundw
          case rel => exact ⟨21, A', cap', us, AF, capF, AS, capS, fs, ss, q, rfl, by omega, rfl, rfl, rfl, hul, HU.out, HH.out, hcq, hfq, hst, hb_wr⟩
          case measure => simp [intOf]; omega
        · have hd : ((k : Int) == 20) = false := by simp; omega
          rcases ptake_next n (c : Nat) us L hul HU.out (by omega) with ⟨why, hy, N', us', T⟩ | ⟨a, c', vs, hcc, _, hac, hvl, hvR, hfit, hvb, hct, T⟩
          · have TT := Lib.hid T
            clear T
            obtain ⟨p0, p1, pf⟩ := id hst.two
            go_wp2_with fail
            go_at_call 7
            refine (cpages_in hsw x HI.out.1 HI.out.2).mono ?_
            rintro e w0 ⟨rfl, rfl⟩
            rw [hc.out]
            go_wp2_with fail
            go_at_call 8
            refine (TT.out _ _ _ hst.row).mono ?_
            rintro e w3 ⟨A3, cap3, rfl, ho3, hb_w3⟩
            obtain ⟨hc_w3, hf_w3⟩ := bcell hb_w3; have hz_w3_w2_0 : w2.heap.size < w3.heap.size := (by have hzz := hb_w3.size; (try simp only [World.size_alloc, World.size_setCell, World.size_drew, World.heap_drewN] at hzz); omega); have hs_w3 := hb_w3.size; (try simp only [World.size_alloc, World.size_setCell, World.size_drew, World.heap_drewN] at hs_w3)
            clear hc_w3 hf_w3
            go_wp2
            go_roundw
            case rel => exact ⟨k + 1, A', cap', us, AF, capF, AS, capS, fs, ss, q, by go_num, by omega, rfl, rfl, rfl, hul, HU.out, HH.out, hcq, hfq, (hst.later hb_w3).later ((Below.refl _ _).alloc (Nat.le_refl _) _), (by repeat (first | exact Below.refl _ _ | assumption | (refine below_drewN ?_ _) | (refine Below.drew ?_) | (refine Below.alloc ?_ (by first | omega | (simp; omega) | simp) _) | (refine Below.setCell ?_ (by first | omega | (simp; omega) | simp) _) | (refine below_trans ?_ (by assumption) (by first | omega | (simp; omega) | simp))))⟩
            case measure => simp [intOf]; omega
          · obtain rfl : c = c' := by omega
            have TT := Lib.hid T
            have HV := Lib.hid hvR
            have HVB := Lib.hid hvb
            have HFI := Lib.hid hfit
            have HCT := Lib.hid hct
            clear T hvR hvb hfit hcc hct
            obtain ⟨p0, p1, pf⟩ := id hst.two
            go_wp2_with fail
            go_at_call 7
            refine (cpages_in hsw x HI.out.1 HI.out.2).mono ?_
            rintro e w0 ⟨rfl, rfl⟩
            rw [hc.out]
            go_wp2_with fail
            go_at_call 8
            refine (TT.out _ _ _ hst.row).mono ?_
            rintro e w3 ⟨A3, cap3, rfl, ho3, hb_w3⟩
            obtain ⟨hc_w3, hf_w3⟩ := bcell hb_w3; have hz_w3_w2_0 : w2.heap.size < w3.heap.size := (by have hzz := hb_w3.size; (try simp only [World.size_alloc, World.size_setCell, World.size_drew, World.heap_drewN] at hzz); omega); have hs_w3 := hb_w3.size; (try simp only [World.size_alloc, World.size_setCell, World.size_drew, World.heap_drewN] at hs_w3)
            clear hc_w3 hf_w3
            generalize wr = wD at *
            have hI := (hst.later hb_w3).later ((Below.refl _ _).alloc (Nat.le_refl _) (.cells #[.int .i64 (n : Nat), .slice A3 L cap3] 29))
            have Q3 := Two.new w3 (.int .i64 (n : Nat)) (.slice A3 L cap3) 29
            have hFlt : ∀ g, blk AF = some g → g < wD.heap.size := fun g e => (hst.f.blk_lt e).2
            have hSlt : ∀ g, blk AS = some g → g < wD.heap.size := fun g e => (hst.s.blk_lt e).2
            have O3 := ho3.later ((Below.refl _ _).alloc (Nat.le_refl _) (.cells #[.int .i64 (n : Nat), .slice A3 L cap3] 29))
            have RS : RSt (w3.alloc (.cells #[.int .i64 (n : Nat), .slice A3 L cap3] 29)) (w2.heap.size + 1) A3 vs AF capF AS capS fs ss := ⟨O3.row, hI.f, hI.s, hI.sepFS, fun g e h0 b o eA => (by
                obtain ⟨g', e2, h3, _⟩ := O3.at_ h0
                rw [eA] at e2
                injection e2 with e2
                injection e2 with e2
                have := hFlt g e
                omega), fun g e h0 b o eA => (by
                obtain ⟨g', e2, h3, _⟩ := O3.at_ h0
                rw [eA] at e2
                injection e2 with e2
                injection e2 with e2
                have := hSlt g e
                omega), hI.big⟩
            go_wp2_with fail
            go_loopw [72] (fun ii wr => ∃ t : Nat, ii = .int .i64 (t : Nat) ∧ t ≤ fs.length ∧ wr = w3.alloc (.cells #[.int .i64 (n : Nat), .slice A3 L cap3] 29)) (fun ii _ => fs.length - (intOf ii).toNat)
            case atStart => exact ⟨0, rfl, Nat.zero_le _, rfl⟩
            case round =>
              obtain ⟨t, rfl, ht, rfl⟩ := hrel
              by_cases htl : t < fs.length
              · have hts : t < ss.length := by have := HLN.out; omega
                obtain ⟨gF, rfl, _, _, hcF, hF⟩ := hI.f.cells (by omega)
                obtain ⟨gS, rfl, _, _, hcS, hS⟩ := hI.s.cells (by omega)
                have f0 := hF t htl
                have s0 := hS t hts
                have hin := HH.out.in_ t htl
                have hoff := HH.out.off HFI.out hc1 htl
                obtain ⟨f, hf⟩ := named fs t
                obtain ⟨s, hss⟩ := named ss t
                rw [hf.out] at f0 hin hoff
                rw [hss.out] at s0 hin hoff
                clear hF hS
                by_cases e : a < f + s
                · have d1 : decide ((a : Int) < (f : Nat) + (s : Nat)) = true := decide_eq_true (by omega)
                  have d2 : decide ((f : Int) < (a : Nat) + (c : Nat)) = false := decide_eq_false (by omega)
                  go_wp2
                  go_roundw
                  case rel => exact ⟨t + 1, by go_num, by omega, by first | rfl | trivial⟩
                  case measure => simp [intOf]; omega
                · have d1 : decide ((a : Int) < (f : Nat) + (s : Nat)) = false := decide_eq_false (by omega)
                  go_wp2
                  go_roundw
                  case rel => exact ⟨t + 1, by go_num, by omega, by first | rfl | trivial⟩
                  case measure => simp [intOf]; omega
              · obtain rfl : t = fs.length := by omega
                go_wp2_with fail
                have hF4 : fs.length ≤ 4096 := by omega
                have hqc : q + c ≤ n := by have := countTo_le vs n; have := HCT.out; omega
                have eqc : IntKind.i64.wrap ((q : Int) + (c : Int)) = ((q + c : Nat) : Int) := by rw [IntWalk.i64_in _ (by omega)]; omega
                have hA3 : 0 < vs.length → ∀ b o, A3 = some ⟨b, o, none⟩ → w2.heap.size ≠ b := fun h0 b o eA => by
                  obtain ⟨g', e2, h3, _⟩ := O3.at_ h0
                  rw [eA] at e2
                  injection e2 with e2
                  injection e2 with e2
                  omega
                have hS4 : ss.length ≤ 4096 := by have := HLN.out; omega
                go_region_held3 (fun W : World => W.cell? ⟨w3.heap.size, 0, none⟩ = some (.int .i64 (n : Nat)) ∧ W.cell? ⟨w3.heap.size, 1, none⟩ = some (.slice A3 L cap3))
                  ((refine ⟨?_, ?_⟩ <;> first | assumption | (simp [go_sem]; done) | exact (World.cell?_alloc_lt _ _ ⟨_, _, _⟩ (by first | omega | (simp; omega) | simp)).trans (by assumption) | (simp [go_sem, *]; done)))
                  ((first
                    | (refine step_append_lies _ rfl (.tmp 94) (.tmp 96) 22 rfl (w2.heap.size + 1) 3 i0 _ 1 8 Tryd.underlying22 hi hz0 hz1 hz2 rfl Nat.zero_lt_one (.slice AF fs.length capF) fs.length (natv fs) ?_ ?_ ⟨w3.heap.size + 1, 0, none⟩ 1 1 [.int .i64 (a : Nat)] ?_ rfl ?_ (one_int _) Nat.zero_lt_one (small_max hF4) (small_bytes hF4) ?_ _ rfl ?_; rfl; (exact ((RS.later (by repeat (first | exact Below.refl _ _ | assumption | (refine below_drewN ?_ _) | (refine Below.drew ?_) | (refine Below.alloc ?_ (by first | omega | (simp; omega) | simp) _) | (refine Below.setCell ?_ (by first | omega | (simp; omega) | simp) _) | (refine below_trans ?_ (by assumption) (by first | omega | (simp; omega) | simp))))).f)); rfl; (refine news_one _ _ _ ?_; first | exact nb2 _ _ _ _ | exact nb2b _ _ _ _ _ | exact nb3 _ _ _ _ _ | (simp [go_sem]; done)); (first | omega | (simp; omega)); intro g4 cap4 w4 hown4 hg4 hat4 hlt4; have hs4 := hg4.size; (try simp only [World.size_alloc, World.size_drew, World.heap_drewN, World.size_setCell] at hs4); have R4 := (RS.later (by repeat (first | exact Below.refl _ _ | assumption | (refine below_drewN ?_ _) | (refine Below.drew ?_) | (refine Below.alloc ?_ (by first | omega | (simp; omega) | simp) _) | (refine Below.setCell ?_ (by first | omega | (simp; omega) | simp) _) | (refine below_trans ?_ (by assumption) (by first | omega | (simp; omega) | simp))))).appF hown4 hg4 hat4; have p4 := two_grown (hI.two.below (show Below (w3.alloc (.cells #[.int .i64 (n : Nat), .slice A3 L cap3] 29)).heap.size (w3.alloc (.cells #[.int .i64 (n : Nat), .slice A3 L cap3] 29)) _ from (by repeat (first | exact Below.refl _ _ | assumption | (refine below_drewN ?_ _) | (refine Below.drew ?_) | (refine Below.alloc ?_ (by first | omega | (simp; omega) | simp) _) | (refine Below.setCell ?_ (by first | omega | (simp; omega) | simp) _) | (refine below_trans ?_ (by assumption) (by first | omega | (simp; omega) | simp))))) (by first | omega | (simp; omega) | simp)) hg4 (by first | omega | (simp; omega) | simp) (fun e => (by rw [own_blk] at e; have := (hI.f.blk_lt e).1; omega)); have q4 := two_grown (Q3.below (show Below (w3.alloc (.cells #[.int .i64 (n : Nat), .slice A3 L cap3] 29)).heap.size (w3.alloc (.cells #[.int .i64 (n : Nat), .slice A3 L cap3] 29)) _ from (by repeat (first | exact Below.refl _ _ | assumption | (refine below_drewN ?_ _) | (refine Below.drew ?_) | (refine Below.alloc ?_ (by first | omega | (simp; omega) | simp) _) | (refine Below.setCell ?_ (by first | omega | (simp; omega) | simp) _) | (refine below_trans ?_ (by assumption) (by first | omega | (simp; omega) | simp))))) (by first | omega | (simp; omega) | simp)) hg4 (by first | omega | (simp; omega) | simp) (fun e => (by rw [own_blk] at e; have := hFlt _ e; omega)); have hk4 := (fun (b o : Nat) (h1 : wD.heap.size ≤ b) (h2 : b < _) => World.cell?_of_block (a := ⟨b, o, none⟩) (hg4.block b h2 (fun e => (by rw [own_blk] at e; have := hFlt b e.symm; omega)))); obtain ⟨q40, q41, q4f⟩ := id q4; obtain ⟨p40, p41, p4f⟩ := id p4; have b4 : Below w.heap.size w w4 := (by refine Below.grown ?_ hg4 (by first | omega | (simp; omega) | simp) (fun g e => by rw [own_blk] at e; have := (hI.f.blk_lt e).1; omega); exact (by repeat (first | exact Below.refl _ _ | assumption | (refine below_drewN ?_ _) | (refine Below.drew ?_) | (refine Below.alloc ?_ (by first | omega | (simp; omega) | simp) _) | (refine Below.setCell ?_ (by first | omega | (simp; omega) | simp) _) | (refine below_trans ?_ (by assumption) (by first | omega | (simp; omega) | simp))))))
                    | (refine step_append_lies _ rfl (.tmp 94) (.tmp 96) 22 rfl (w2.heap.size + 1) 3 i0 _ 1 8 Tryd.underlying22 hi hz0 hz1 hz2 rfl Nat.zero_lt_one (.slice AF fs.length capF) fs.length (natv fs) ?_ ?_ ⟨w3.heap.size + 1 + 1, 0, none⟩ 1 1 [.int .i64 (a : Nat)] ?_ rfl ?_ (one_int _) Nat.zero_lt_one (small_max hF4) (small_bytes hF4) ?_ _ rfl ?_; rfl; (exact ((RS.later (by repeat (first | exact Below.refl _ _ | assumption | (refine below_drewN ?_ _) | (refine Below.drew ?_) | (refine Below.alloc ?_ (by first | omega | (simp; omega) | simp) _) | (refine Below.setCell ?_ (by first | omega | (simp; omega) | simp) _) | (refine below_trans ?_ (by assumption) (by first | omega | (simp; omega) | simp))))).f)); rfl; (refine news_one _ _ _ ?_; first | exact nb2 _ _ _ _ | exact nb2b _ _ _ _ _ | exact nb3 _ _ _ _ _ | (simp [go_sem]; done)); (first | omega | (simp; omega)); intro g4 cap4 w4 hown4 hg4 hat4 hlt4; have hs4 := hg4.size; (try simp only [World.size_alloc, World.size_drew, World.heap_drewN, World.size_setCell] at hs4); have R4 := (RS.later (by repeat (first | exact Below.refl _ _ | assumption | (refine below_drewN ?_ _) | (refine Below.drew ?_) | (refine Below.alloc ?_ (by first | omega | (simp; omega) | simp) _) | (refine Below.setCell ?_ (by first | omega | (simp; omega) | simp) _) | (refine below_trans ?_ (by assumption) (by first | omega | (simp; omega) | simp))))).appF hown4 hg4 hat4; have p4 := two_grown (hI.two.below (show Below (w3.alloc (.cells #[.int .i64 (n : Nat), .slice A3 L cap3] 29)).heap.size (w3.alloc (.cells #[.int .i64 (n : Nat), .slice A3 L cap3] 29)) _ from (by repeat (first | exact Below.refl _ _ | assumption | (refine below_drewN ?_ _) | (refine Below.drew ?_) | (refine Below.alloc ?_ (by first | omega | (simp; omega) | simp) _) | (refine Below.setCell ?_ (by first | omega | (simp; omega) | simp) _) | (refine below_trans ?_ (by assumption) (by first | omega | (simp; omega) | simp))))) (by first | omega | (simp; omega) | simp)) hg4 (by first | omega | (simp; omega) | simp) (fun e => (by rw [own_blk] at e; have := (hI.f.blk_lt e).1; omega)); have q4 := two_grown (Q3.below (show Below (w3.alloc (.cells #[.int .i64 (n : Nat), .slice A3 L cap3] 29)).heap.size (w3.alloc (.cells #[.int .i64 (n : Nat), .slice A3 L cap3] 29)) _ from (by repeat (first | exact Below.refl _ _ | assumption | (refine below_drewN ?_ _) | (refine Below.drew ?_) | (refine Below.alloc ?_ (by first | omega | (simp; omega) | simp) _) | (refine Below.setCell ?_ (by first | omega | (simp; omega) | simp) _) | (refine below_trans ?_ (by assumption) (by first | omega | (simp; omega) | simp))))) (by first | omega | (simp; omega) | simp)) hg4 (by first | omega | (simp; omega) | simp) (fun e => (by rw [own_blk] at e; have := hFlt _ e; omega)); have hk4 := (fun (b o : Nat) (h1 : wD.heap.size ≤ b) (h2 : b < _) => World.cell?_of_block (a := ⟨b, o, none⟩) (hg4.block b h2 (fun e => (by rw [own_blk] at e; have := hFlt b e.symm; omega)))); obtain ⟨q40, q41, q4f⟩ := id q4; obtain ⟨p40, p41, p4f⟩ := id p4; have b4 : Below w.heap.size w w4 := (by refine Below.grown ?_ hg4 (by first | omega | (simp; omega) | simp) (fun g e => by rw [own_blk] at e; have := (hI.f.blk_lt e).1; omega); exact (by repeat (first | exact Below.refl _ _ | assumption | (refine below_drewN ?_ _) | (refine Below.drew ?_) | (refine Below.alloc ?_ (by first | omega | (simp; omega) | simp) _) | (refine Below.setCell ?_ (by first | omega | (simp; omega) | simp) _) | (refine below_trans ?_ (by assumption) (by first | omega | (simp; omega) | simp))))))
                    | (refine step_append_lies _ rfl (.tmp 98) (.tmp 100) 22 rfl (w2.heap.size + 1) 3 i0 _ 1 8 Tryd.underlying22 hi hz0 hz1 hz2 rfl Nat.zero_lt_one (.slice AS ss.length capS) ss.length (natv ss) ?_ ?_ ⟨w4.heap.size, 0, none⟩ 1 1 [.int .i64 (c : Nat)] ?_ rfl ?_ (one_int _) Nat.zero_lt_one (small_max hS4) (small_bytes hS4) ?_ _ rfl ?_; rfl; (exact ((R4.later (by repeat (first | exact Below.refl _ _ | assumption | (refine below_drewN ?_ _) | (refine Below.drew ?_) | (refine Below.alloc ?_ (by first | omega | (simp; omega) | simp) _) | (refine Below.setCell ?_ (by first | omega | (simp; omega) | simp) _) | (refine below_trans ?_ (by assumption) (by first | omega | (simp; omega) | simp))))).s)); rfl; (refine news_one _ _ _ ?_; first | exact nb1 _ _ _ | (refine (hk4 _ _ ?_ ?_).trans (nb2b _ _ _ _ _); omega; first | omega | (simp only [World.size_alloc, World.size_drew, World.heap_drewN]; omega) | (simp; omega)) | (refine (hk4 _ _ ?_ ?_).trans (nb2 _ _ _ _); omega; first | omega | (simp only [World.size_alloc, World.size_drew, World.heap_drewN]; omega) | (simp; omega)) | (refine (hk4 _ _ ?_ ?_).trans (nb3 _ _ _ _ _); omega; first | omega | (simp only [World.size_alloc, World.size_drew, World.heap_drewN]; omega) | (simp; omega))); (first | omega | (simp; omega)); intro g5 cap5 w5 hown5 hg5 hat5 hlt5; have hs5 := hg5.size; (try simp only [World.size_alloc, World.size_drew, World.heap_drewN, World.size_setCell] at hs5); have R5 := (R4.later (by repeat (first | exact Below.refl _ _ | assumption | (refine below_drewN ?_ _) | (refine Below.drew ?_) | (refine Below.alloc ?_ (by first | omega | (simp; omega) | simp) _) | (refine Below.setCell ?_ (by first | omega | (simp; omega) | simp) _) | (refine below_trans ?_ (by assumption) (by first | omega | (simp; omega) | simp))))).appS hown5 hg5 hat5; have p5 := two_grown (p4.below (show Below w4.heap.size w4 _ from (by repeat (first | exact Below.refl _ _ | assumption | (refine below_drewN ?_ _) | (refine Below.drew ?_) | (refine Below.alloc ?_ (by first | omega | (simp; omega) | simp) _) | (refine Below.setCell ?_ (by first | omega | (simp; omega) | simp) _) | (refine below_trans ?_ (by assumption) (by first | omega | (simp; omega) | simp))))) (by first | omega | (simp; omega) | simp)) hg5 (by first | omega | (simp; omega) | simp) (fun e => (by rw [own_blk] at e; have := (R4.s.blk_lt e).1; omega)); have q5 := two_grown (q4.below (show Below w4.heap.size w4 _ from (by repeat (first | exact Below.refl _ _ | assumption | (refine below_drewN ?_ _) | (refine Below.drew ?_) | (refine Below.alloc ?_ (by first | omega | (simp; omega) | simp) _) | (refine Below.setCell ?_ (by first | omega | (simp; omega) | simp) _) | (refine below_trans ?_ (by assumption) (by first | omega | (simp; omega) | simp))))) (by first | omega | (simp; omega) | simp)) hg5 (by first | omega | (simp; omega) | simp) (fun e => (by rw [own_blk] at e; have := hSlt _ e; omega)); obtain ⟨q50, q51, q5f⟩ := id q5; obtain ⟨p50, p51, p5f⟩ := id p5; have b5 : Below w.heap.size w w5 := (by refine Below.grown ?_ hg5 (by first | omega | (simp; omega) | simp) (fun g e => by rw [own_blk] at e; have := (R4.s.blk_lt e).1; omega); exact (by repeat (first | exact Below.refl _ _ | assumption | (refine below_drewN ?_ _) | (refine Below.drew ?_) | (refine Below.alloc ?_ (by first | omega | (simp; omega) | simp) _) | (refine Below.setCell ?_ (by first | omega | (simp; omega) | simp) _) | (refine below_trans ?_ (by assumption) (by first | omega | (simp; omega) | simp))))))
                    | (refine step_append_lies _ rfl (.tmp 98) (.tmp 100) 22 rfl (w2.heap.size + 1) 3 i0 _ 1 8 Tryd.underlying22 hi hz0 hz1 hz2 rfl Nat.zero_lt_one (.slice AS ss.length capS) ss.length (natv ss) ?_ ?_ ⟨w3.heap.size + 1, 0, none⟩ 1 1 [.int .i64 (c : Nat)] ?_ rfl ?_ (one_int _) Nat.zero_lt_one (small_max hS4) (small_bytes hS4) ?_ _ rfl ?_; rfl; (exact ((R4.later (by repeat (first | exact Below.refl _ _ | assumption | (refine below_drewN ?_ _) | (refine Below.drew ?_) | (refine Below.alloc ?_ (by first | omega | (simp; omega) | simp) _) | (refine Below.setCell ?_ (by first | omega | (simp; omega) | simp) _) | (refine below_trans ?_ (by assumption) (by first | omega | (simp; omega) | simp))))).s)); rfl; (refine news_one _ _ _ ?_; first | exact nb1 _ _ _ | (refine (hk4 _ _ ?_ ?_).trans (nb2b _ _ _ _ _); omega; first | omega | (simp only [World.size_alloc, World.size_drew, World.heap_drewN]; omega) | (simp; omega)) | (refine (hk4 _ _ ?_ ?_).trans (nb2 _ _ _ _); omega; first | omega | (simp only [World.size_alloc, World.size_drew, World.heap_drewN]; omega) | (simp; omega)) | (refine (hk4 _ _ ?_ ?_).trans (nb3 _ _ _ _ _); omega; first | omega | (simp only [World.size_alloc, World.size_drew, World.heap_drewN]; omega) | (simp; omega))); (first | omega | (simp; omega)); intro g5 cap5 w5 hown5 hg5 hat5 hlt5; have hs5 := hg5.size; (try simp only [World.size_alloc, World.size_drew, World.heap_drewN, World.size_setCell] at hs5); have R5 := (R4.later (by repeat (first | exact Below.refl _ _ | assumption | (refine below_drewN ?_ _) | (refine Below.drew ?_) | (refine Below.alloc ?_ (by first | omega | (simp; omega) | simp) _) | (refine Below.setCell ?_ (by first | omega | (simp; omega) | simp) _) | (refine below_trans ?_ (by assumption) (by first | omega | (simp; omega) | simp))))).appS hown5 hg5 hat5; have p5 := two_grown (p4.below (show Below w4.heap.size w4 _ from (by repeat (first | exact Below.refl _ _ | assumption | (refine below_drewN ?_ _) | (refine Below.drew ?_) | (refine Below.alloc ?_ (by first | omega | (simp; omega) | simp) _) | (refine Below.setCell ?_ (by first | omega | (simp; omega) | simp) _) | (refine below_trans ?_ (by assumption) (by first | omega | (simp; omega) | simp))))) (by first | omega | (simp; omega) | simp)) hg5 (by first | omega | (simp; omega) | simp) (fun e => (by rw [own_blk] at e; have := (R4.s.blk_lt e).1; omega)); have q5 := two_grown (q4.below (show Below w4.heap.size w4 _ from (by repeat (first | exact Below.refl _ _ | assumption | (refine below_drewN ?_ _) | (refine Below.drew ?_) | (refine Below.alloc ?_ (by first | omega | (simp; omega) | simp) _) | (refine Below.setCell ?_ (by first | omega | (simp; omega) | simp) _) | (refine below_trans ?_ (by assumption) (by first | omega | (simp; omega) | simp))))) (by first | omega | (simp; omega) | simp)) hg5 (by first | omega | (simp; omega) | simp) (fun e => (by rw [own_blk] at e; have := hSlt _ e; omega)); obtain ⟨q50, q51, q5f⟩ := id q5; obtain ⟨p50, p51, p5f⟩ := id p5; have b5 : Below w.heap.size w w5 := (by refine Below.grown ?_ hg5 (by first | omega | (simp; omega) | simp) (fun g e => by rw [own_blk] at e; have := (R4.s.blk_lt e).1; omega); exact (by repeat (first | exact Below.refl _ _ | assumption | (refine below_drewN ?_ _) | (refine Below.drew ?_) | (refine Below.alloc ?_ (by first | omega | (simp; omega) | simp) _) | (refine Below.setCell ?_ (by first | omega | (simp; omega) | simp) _) | (refine below_trans ?_ (by assumption) (by first | omega | (simp; omega) | simp))))))
                    | (refine step_append_lies _ rfl (.tmp 98) (.tmp 100) 22 rfl (w2.heap.size + 1) 3 i0 _ 1 8 Tryd.underlying22 hi hz0 hz1 hz2 rfl Nat.zero_lt_one (.slice AS ss.length capS) ss.length (natv ss) ?_ ?_ ⟨w3.heap.size + 1 + 1, 0, none⟩ 1 1 [.int .i64 (c : Nat)] ?_ rfl ?_ (one_int _) Nat.zero_lt_one (small_max hS4) (small_bytes hS4) ?_ _ rfl ?_; rfl; (exact ((R4.later (by repeat (first | exact Below.refl _ _ | assumption | (refine below_drewN ?_ _) | (refine Below.drew ?_) | (refine Below.alloc ?_ (by first | omega | (simp; omega) | simp) _) | (refine Below.setCell ?_ (by first | omega | (simp; omega) | simp) _) | (refine below_trans ?_ (by assumption) (by first | omega | (simp; omega) | simp))))).s)); rfl; (refine news_one _ _ _ ?_; first | exact nb1 _ _ _ | (refine (hk4 _ _ ?_ ?_).trans (nb2b _ _ _ _ _); omega; first | omega | (simp only [World.size_alloc, World.size_drew, World.heap_drewN]; omega) | (simp; omega)) | (refine (hk4 _ _ ?_ ?_).trans (nb2 _ _ _ _); omega; first | omega | (simp only [World.size_alloc, World.size_drew, World.heap_drewN]; omega) | (simp; omega)) | (refine (hk4 _ _ ?_ ?_).trans (nb3 _ _ _ _ _); omega; first | omega | (simp only [World.size_alloc, World.size_drew, World.heap_drewN]; omega) | (simp; omega))); (first | omega | (simp; omega)); intro g5 cap5 w5 hown5 hg5 hat5 hlt5; have hs5 := hg5.size; (try simp only [World.size_alloc, World.size_drew, World.heap_drewN, World.size_setCell] at hs5); have R5 := (R4.later (by repeat (first | exact Below.refl _ _ | assumption | (refine below_drewN ?_ _) | (refine Below.drew ?_) | (refine Below.alloc ?_ (by first | omega | (simp; omega) | simp) _) | (refine Below.setCell ?_ (by first | omega | (simp; omega) | simp) _) | (refine below_trans ?_ (by assumption) (by first | omega | (simp; omega) | simp))))).appS hown5 hg5 hat5; have p5 := two_grown (p4.below (show Below w4.heap.size w4 _ from (by repeat (first | exact Below.refl _ _ | assumption | (refine below_drewN ?_ _) | (refine Below.drew ?_) | (refine Below.alloc ?_ (by first | omega | (simp; omega) | simp) _) | (refine Below.setCell ?_ (by first | omega | (simp; omega) | simp) _) | (refine below_trans ?_ (by assumption) (by first | omega | (simp; omega) | simp))))) (by first | omega | (simp; omega) | simp)) hg5 (by first | omega | (simp; omega) | simp) (fun e => (by rw [own_blk] at e; have := (R4.s.blk_lt e).1; omega)); have q5 := two_grown (q4.below (show Below w4.heap.size w4 _ from (by repeat (first | exact Below.refl _ _ | assumption | (refine below_drewN ?_ _) | (refine Below.drew ?_) | (refine Below.alloc ?_ (by first | omega | (simp; omega) | simp) _) | (refine Below.setCell ?_ (by first | omega | (simp; omega) | simp) _) | (refine below_trans ?_ (by assumption) (by first | omega | (simp; omega) | simp))))) (by first | omega | (simp; omega) | simp)) hg5 (by first | omega | (simp; omega) | simp) (fun e => (by rw [own_blk] at e; have := hSlt _ e; omega)); obtain ⟨q50, q51, q5f⟩ := id q5; obtain ⟨p50, p51, p5f⟩ := id p5; have b5 : Below w.heap.size w w5 := (by refine Below.grown ?_ hg5 (by first | omega | (simp; omega) | simp) (fun g e => by rw [own_blk] at e; have := (R4.s.blk_lt e).1; omega); exact (by repeat (first | exact Below.refl _ _ | assumption | (refine below_drewN ?_ _) | (refine Below.drew ?_) | (refine Below.alloc ?_ (by first | omega | (simp; omega) | simp) _) | (refine Below.setCell ?_ (by first | omega | (simp; omega) | simp) _) | (refine below_trans ?_ (by assumption) (by first | omega | (simp; omega) | simp))))))))
                all_goals
                  go_wp2
                  go_roundw
                  case rel => exact ⟨k + 1, A3, cap3, vs, some ⟨g4, 0, none⟩, cap4, some ⟨g5, 0, none⟩, cap5, fs ++ [a], ss ++ [c], q + c, by go_num, by omega, by simp, by simp, by first | rw [eqc] | (simp [eqc]; done), hvl, HV.out, HH.out.snoc HFI.out hc1 hac HVB.out, by rw [HCT.out, hcq], by simp; omega, R5.held p5 (Nat.lt_succ_self _) hA3, (by repeat (first | exact Below.refl _ _ | assumption | (refine below_drewN ?_ _) | (refine Below.drew ?_) | (refine Below.alloc ?_ (by first | omega | (simp; omega) | simp) _) | (refine Below.setCell ?_ (by first | omega | (simp; omega) | simp) _) | (refine below_trans ?_ (by assumption) (by first | omega | (simp; omega) | simp))))⟩
                  case measure => simp [intOf]; omega
      · have HN := Lib.hid hin
        clear hin
        by_cases h20 : k = 20
        · subst h20
          go_wp2_with fail
          go_at_call 7
          refine (cpages_out x HN.out).mono ?_
          rintro e w0 ⟨rfl, rfl⟩
          go_wp2
          go_roundw
          case rel => exact ⟨21, A', cap', us, AF, capF, AS, capS, fs, ss, q, rfl, by omega, rfl, rfl, rfl, hul, HU.out, HH.out, hcq, hfq, hst, hb_wr⟩
          case measure => simp [intOf]; omega
        · have hd : ((k : Int) == 20) = false := by simp; omega
          go_wp2_with fail
          go_at_call 7
          refine (cpages_out x HN.out).mono ?_
          rintro e w0 ⟨rfl, rfl⟩
          go_wp2
          go_roundw
          case rel => exact ⟨k + 1, A', cap', us, AF, capF, AS, capS, fs, ss, q, by go_num, by omega, rfl, rfl, rfl, hul, HU.out, HH.out, hcq, hfq, hst, hb_wr⟩
          case measure => simp [intOf]; omega
    · obtain rfl : k = xs.length := by omega
      obtain ⟨fr, hfr⟩ : ∃ fr : Nat, fr + q = n := ⟨n - q, by omega⟩
      have eqf : IntKind.i64.wrap ((fr : Int) + (q : Int)) = (n : Nat) := by rw [IntWalk.i64_in _ (by omega)]; omega
      have hfl : fs.length ≤ 4096 := by omega
      have HF := Lib.hid (free_len (w := wr) (A := A') cap' hul HU.out hcq hfr hst.row)
      obtain ⟨p0, p1, pf⟩ := id hst.two
      go_wp2_with fail
      go_at_call 9
      refine (HF.out).mono ?_
      rintro e w3 ⟨rfl, hb_w3⟩
      obtain ⟨hc_w3, hf_w3⟩ := bcell hb_w3; have hz_w3_w2_0 : w2.heap.size < w3.heap.size := (by have hzz := hb_w3.size; (try simp only [World.size_alloc, World.size_setCell, World.size_drew, World.heap_drewN] at hzz); omega); have hs_w3 := hb_w3.size; (try simp only [World.size_alloc, World.size_setCell, World.size_drew, World.heap_drewN] at hs_w3)
      have hst3 := hst.later hb_w3
      have hb3 : Below w.heap.size w w3 := (by repeat (first | exact Below.refl _ _ | assumption | (refine below_drewN ?_ _) | (refine Below.drew ?_) | (refine Below.alloc ?_ (by first | omega | (simp; omega) | simp) _) | (refine Below.setCell ?_ (by first | omega | (simp; omega) | simp) _) | (refine below_trans ?_ (by assumption) (by first | omega | (simp; omega) | simp))))
      clear hc_w3 hf_w3 p0 p1 pf HF
      go_wp2_with fail
      generalize wr = wA at *
      go_loopw [9, 10, 22] (fun F S ii wr => ∃ (i : Nat) (A' : Option Addr) (cap' : Nat) (us : List Nat) (AF : Option Addr) (capF : Nat) (AS : Option Addr) (capS : Nat) (fs ss : List Nat), ii = .int .i64 (i : Nat) ∧ i + fs.length ≤ 4096 ∧ F = .slice AF fs.length capF ∧ S = .slice AS ss.length capS ∧ us.length = L ∧ Right (n : Nat) us ∧ Held n us fs ss ∧ HSt wr (w2.heap.size + 1) w2.heap.size n L A' cap' us AF capF AS capS fs ss ∧ Below w.heap.size w wr) (fun _ _ ii _ => 4096 - (intOf ii).toNat)
      case atStart => exact ⟨0, A', cap', us, AF, capF, AS, capS, fs, ss, rfl, by omega, rfl, rfl, hul, HU.out, HH.out, hst3, hb3⟩
      case round =>
        clear HU HH HLN hst3 hb3 hst hb_wr hul hcq hfq eqf
        obtain ⟨i, A4, cap4, vs, BF, capF4, BS, capS4, gs, ts, rfl, hi4, rfl, rfl, hvl, hVR, hVH, hst4, hb_wr⟩ := hrel
        have HV := Lib.hid hVR
        have HW := Lib.hid hVH
        have HLW := Lib.hid hVH.len
        clear hVR hVH
        have hsr4 := hb_wr.size
        have hbig4 := hst4.big
        obtain ⟨p0, p1, pf⟩ := id hst4.two
        by_cases hlt : 0 < gs.length
        · have htl : ts.length = gs.length := HLW.out.symm
          by_cases hod : 0 < od.length
          · obtain ⟨ob, ooff, rfl, hob, hoc⟩ := (ho.later hb_wr).at_ hod
            obtain ⟨j, hj, hjl⟩ : ∃ j, Hid (i % od.length = j) ∧ j < od.length := ⟨_, rfl, Nat.mod_lt _ hod⟩
            have hoc1 := hoc j hjl
            obtain ⟨o, hoo⟩ : ∃ o, Hid (od.getD j 0 = o) := ⟨_, rfl⟩
            rw [hoo.out] at hoc1
            clear hoc
            have ho8 : o < 256 := by
              have := ho.in_ (od.getD j 0) (by rw [List.getD_eq_getElem?_getD, List.getElem?_eq_getElem hjl]; exact List.getElem_mem hjl)
              rw [hoo.out] at this
              exact this
            obtain ⟨t, ht, htg⟩ : ∃ t, Hid (o % gs.length = t) ∧ t < gs.length := ⟨_, rfl, Nat.mod_lt _ hlt⟩
            have e1 : Int.tmod (i : Int) (od.length : Int) = (j : Nat) := by rw [Int.tmod_eq_emod_of_nonneg (by omega)]; have := hj.out; omega
            have e2 : Int.tmod (o : Int) (gs.length : Int) = (t : Nat) := by rw [Int.tmod_eq_emod_of_nonneg (by omega)]; have := ht.out; omega
            obtain ⟨gF, rfl, hBF, hgF, hcF, hF⟩ := hst4.f.cells (by omega)
            obtain ⟨gS, rfl, hBS, hgS, hcS, hS⟩ := hst4.s.cells (by omega)
            have hts : t < ts.length := by omega
            have ti0 : (0 : Int) ≤ (t : Int) := by omega
            have ti1 : (t : Int) < (gs.length : Int) := by omega
            have ti2 : (t : Int) < (ts.length : Int) := by omega
            have f0 := hF t htg
            have s0 := hS t hts
            have hin := HW.out.in_ t htg
            have hat : ∀ j, _ → _ → tb vs j = true := fun j => HW.out.at_ htg (j := j)
            obtain ⟨f, hf⟩ := named gs t
            obtain ⟨s, hss⟩ := named ts t
            rw [hf.out] at f0 hin hat
            rw [hss.out] at s0 hin hat
            obtain ⟨us5, hul5, hUR5, htb5, T⟩ := give_next hvl HV.out hin.1 hin.2 hat
            have TT := Lib.hid T
            have HTB := Lib.hid htb5
            have HU5 := Lib.hid hUR5
            clear T hat htb5 hUR5
            go_wp2_with fail
            have h2r : w2.heap.size < wr.heap.size := by omega
            go_region_held3 (fun W : World => W.cell? ⟨w2.heap.size, 0, none⟩ = some (.int .i64 (n : Nat)) ∧ W.cell? ⟨w2.heap.size, 1, none⟩ = some (.slice A4 L cap4) ∧ W.cell? ⟨gF, t, none⟩ = some (.int .i64 (f : Nat)) ∧ W.cell? ⟨gS, t, none⟩ = some (.int .i64 (s : Nat)))
              ((refine ⟨?_, ?_, ?_, ?_⟩ <;> first | assumption | (simp [go_sem]; done) | exact (World.cell?_alloc_lt _ _ ⟨_, _, _⟩ (by first | omega | (simp; omega) | simp)).trans (by assumption) | (simp [go_sem, *]; done)))
              ((first
                | (go_at_call 10; refine (TT.out _ _ _ (hst4.row.later (by repeat (first | exact Below.refl _ _ | assumption | (refine below_drewN ?_ _) | (refine Below.drew ?_) | (refine Below.alloc ?_ (by first | omega | (simp; omega) | simp) _) | (refine Below.setCell ?_ (by first | omega | (simp; omega) | simp) _) | (refine below_trans ?_ (by assumption) (by first | omega | (simp; omega) | simp)))))).mono ?_; rintro e w5 ⟨A5, cap5, rfl, ho5, hb_w5⟩; have hs5 := hb_w5.size; (try simp only [World.size_drew, World.heap_drewN, World.size_alloc] at hs5); have t5 : True := trivial; have c50 : w5.cell? ⟨w2.heap.size, 0, none⟩ = _ := (hb_w5.cell (p := ⟨w2.heap.size, 0, none⟩) (Nat.lt_of_lt_of_le h2r (by first | exact Nat.le_refl _ | (simp only [World.size_drew, World.heap_drewN, World.size_alloc]; omega) | (simp; done)))).trans (p0); have c51 : w5.cell? ⟨w2.heap.size, 1, none⟩ = _ := (hb_w5.cell (p := ⟨w2.heap.size, 1, none⟩) (Nat.lt_of_lt_of_le h2r (by first | exact Nat.le_refl _ | (simp only [World.size_drew, World.heap_drewN, World.size_alloc]; omega) | (simp; done)))).trans (p1); have c52 : w5.cell? ⟨gF, t, none⟩ = _ := (hb_w5.cell (p := ⟨gF, t, none⟩) (Nat.lt_of_lt_of_le hgF (by first | exact Nat.le_refl _ | (simp only [World.size_drew, World.heap_drewN, World.size_alloc]; omega) | (simp; done)))).trans (f0); have c53 : w5.cell? ⟨gS, t, none⟩ = _ := (hb_w5.cell (p := ⟨gS, t, none⟩) (Nat.lt_of_lt_of_le hgS (by first | exact Nat.le_refl _ | (simp only [World.size_drew, World.heap_drewN, World.size_alloc]; omega) | (simp; done)))).trans (s0))
                | (go_at_call 10; refine (TT.out _ _ _ (hst4.row.later (by repeat (first | exact Below.refl _ _ | assumption | (refine below_drewN ?_ _) | (refine Below.drew ?_) | (refine Below.alloc ?_ (by first | omega | (simp; omega) | simp) _) | (refine Below.setCell ?_ (by first | omega | (simp; omega) | simp) _) | (refine below_trans ?_ (by assumption) (by first | omega | (simp; omega) | simp)))))).mono ?_; rintro e w5 ⟨A5, cap5, rfl, ho5, hb_w5⟩; have hs5 := hb_w5.size; (try simp only [World.size_drew, World.heap_drewN, World.size_alloc] at hs5); have t5 : Two w5 wr.heap.size (.int .i64 0) (.slice none 0 0) := ((Two.new wr (.int .i64 0) (.slice none 0 0) 29).below (show Below (wr.alloc (.cells #[.int .i64 0, .slice none 0 0] 29)).heap.size (wr.alloc (.cells #[.int .i64 0, .slice none 0 0] 29)) (wr.alloc (.cells #[.int .i64 0, .slice none 0 0] 29)).drew from (by repeat (first | exact Below.refl _ _ | assumption | (refine below_drewN ?_ _) | (refine Below.drew ?_) | (refine Below.alloc ?_ (by first | omega | (simp; omega) | simp) _) | (refine Below.setCell ?_ (by first | omega | (simp; omega) | simp) _) | (refine below_trans ?_ (by assumption) (by first | omega | (simp; omega) | simp))))) (by first | omega | (simp; omega) | simp)).below hb_w5 (by first | omega | (simp; omega) | simp); obtain ⟨t50, t51, t5f⟩ := id t5; have c50 : w5.cell? ⟨w2.heap.size, 0, none⟩ = _ := (hb_w5.cell (p := ⟨w2.heap.size, 0, none⟩) (Nat.lt_of_lt_of_le h2r (by first | exact Nat.le_refl _ | (simp only [World.size_drew, World.heap_drewN, World.size_alloc]; omega) | (simp; done)))).trans ((World.cell?_alloc_lt _ _ ⟨_, _, _⟩ h2r).trans p0); have c51 : w5.cell? ⟨w2.heap.size, 1, none⟩ = _ := (hb_w5.cell (p := ⟨w2.heap.size, 1, none⟩) (Nat.lt_of_lt_of_le h2r (by first | exact Nat.le_refl _ | (simp only [World.size_drew, World.heap_drewN, World.size_alloc]; omega) | (simp; done)))).trans ((World.cell?_alloc_lt _ _ ⟨_, _, _⟩ h2r).trans p1); have c52 : w5.cell? ⟨gF, t, none⟩ = _ := (hb_w5.cell (p := ⟨gF, t, none⟩) (Nat.lt_of_lt_of_le hgF (by first | exact Nat.le_refl _ | (simp only [World.size_drew, World.heap_drewN, World.size_alloc]; omega) | (simp; done)))).trans ((World.cell?_alloc_lt _ _ ⟨_, _, _⟩ hgF).trans f0); have c53 : w5.cell? ⟨gS, t, none⟩ = _ := (hb_w5.cell (p := ⟨gS, t, none⟩) (Nat.lt_of_lt_of_le hgS (by first | exact Nat.le_refl _ | (simp only [World.size_drew, World.heap_drewN, World.size_alloc]; omega) | (simp; done)))).trans ((World.cell?_alloc_lt _ _ ⟨_, _, _⟩ hgS).trans s0))))
            · go_wp2_with fail
              have hA5 : 0 < us5.length → ∀ b o, A5 = some ⟨b, o, none⟩ → w2.heap.size ≠ b := fun h0 b o eA => by
                obtain ⟨g', e2, h3, _⟩ := ho5.at_ h0
                rw [eA] at e2
                injection e2 with e2
                injection e2 with e2
                (try simp only [World.size_drew, World.heap_drewN, World.size_alloc] at h3)
                omega
              have b5 : Below wr.heap.size wr w5 := (by repeat (first | exact Below.refl _ _ | assumption | (refine below_drewN ?_ _) | (refine Below.drew ?_) | (refine Below.alloc ?_ (by first | omega | (simp; omega) | simp) _) | (refine Below.setCell ?_ (by first | omega | (simp; omega) | simp) _) | (refine below_trans ?_ (by assumption) (by first | omega | (simp; omega) | simp))))
              have hI5 := hst4.later b5
              have b6 : Below w5.heap.size w5 (w5.alloc (.cells #[.int .i64 (n : Nat), .slice A5 L cap5] 29)) := (by repeat (first | exact Below.refl _ _ | assumption | (refine below_drewN ?_ _) | (refine Below.drew ?_) | (refine Below.alloc ?_ (by first | omega | (simp; omega) | simp) _) | (refine Below.setCell ?_ (by first | omega | (simp; omega) | simp) _) | (refine below_trans ?_ (by assumption) (by first | omega | (simp; omega) | simp))))
              have hI6 := hI5.later b6
              have CS : CSt (w5.alloc (.cells #[.int .i64 (n : Nat), .slice A5 L cap5] 29)) w (w2.heap.size + 1) w2.heap.size w5.heap.size n L A5 cap5 us5 gF capF4 gS capS4 gs ts :=
                ⟨⟨_, _, hI6.two⟩, Two.new w5 _ _ _, ho5.row.later b6, hI6.f, hI6.s, Nat.lt_succ_self _, hI6.big, by simp, by omega, hA5, (by repeat (first | exact Below.refl _ _ | assumption | (refine below_drewN ?_ _) | (refine Below.drew ?_) | (refine Below.alloc ?_ (by first | omega | (simp; omega) | simp) _) | (refine Below.setCell ?_ (by first | omega | (simp; omega) | simp) _) | (refine below_trans ?_ (by assumption) (by first | omega | (simp; omega) | simp))))⟩
              have hpb : w.heap.size ≤ w2.heap.size := by omega
              have hgl4 : gs.length ≤ 4096 := by omega
              refine wp_mono (region35 w _ (w2.heap.size + 1) w2.heap.size _ n L t A5 cap5 us5 gF capF4 gS capS4 gs ts _ _ _ _ _ _ _ _ _ _ _ _ _ _ _ _ _ _ _ _ _ _ _ _ _ _ _ _ _ _ _ _ _ _ _ _ _ _ _ _ _ _ _ _ _ _ _ _ _ _ _ _ _ _ _ _ _ _ _ _ _ _ _ _ _ _ _ _ _ _ _ _ _ _ _ _ _ _ _ _ _ _ _ _ _ _ _ _ _ _ _ _ _ _ _ _ _ _ _ _ _ _ _ _ _ _ _ _ _ _ _ _ _ _ _ _ _ _ _ _ _ _ _ _ _ _ _ _ _ _ _ _ _ _ _ _ _ _ _ _ _ _ _ _ _ _ _ _ _ _ _ _ _ _ _ _ _ _ _ _ _ _ _ _ _ _ _ _ _ _ _ _ _ _ _ _ _ _ _ _ _ _ _ _ rfl CS htg htl hgl4 hpb) ?_
              rintro e a' w20 ⟨rfl, gF', cF', gS', cS', mF', mS', z154, z155, z156, z157, z158, z159, z160, z161, z162, z163, z164, z165, z166, z167, z168, z169, z170, z171, z172, z173, z174, hmF, hmS, hst20, hb20, rfl⟩
              have HC := Lib.hid (HW.out.cut (q := t) htg (fun j => by rw [hf.out, hss.out]; exact HTB.out j))
              have hlc := length_cutAt gs t htg
              have hls := length_cutAt ts t hts
              have hms2 : mS' = (cutAt ts t).length := by omega
              have hmf2 : mF' = (cutAt gs t).length := by omega
              subst hms2 hmf2
              clear CS hmF hmS
              (try simp only [Exit.then, Exit.inBlock])
              go_wp2
              go_roundw
              case rel => exact ⟨i + 1, A5, cap5, us5, _, _, _, _, cutAt gs t, cutAt ts t, by go_num, by omega, rfl, rfl, hul5, HU5.out, HC.out, hst20, hb20⟩
              case measure => simp [intOf]; omega
            · go_wp2_with fail
              have hq5 : 0 < us5.length → ∀ b o, A5 = some ⟨b, o, none⟩ → wr.heap.size + 1 ≤ b := fun h0 b o eA => by
                obtain ⟨g', e2, h3, _⟩ := ho5.at_ h0
                rw [eA] at e2
                injection e2 with e2
                injection e2 with e2
                (try simp only [World.size_drew, World.heap_drewN, World.size_alloc] at h3)
                omega
              have b5 : Below wr.heap.size wr w5 := (by repeat (first | exact Below.refl _ _ | assumption | (refine below_drewN ?_ _) | (refine Below.drew ?_) | (refine Below.alloc ?_ (by first | omega | (simp; omega) | simp) _) | (refine Below.setCell ?_ (by first | omega | (simp; omega) | simp) _) | (refine below_trans ?_ (by assumption) (by first | omega | (simp; omega) | simp))))
              have hI5 := hst4.later b5
              have CS : CSt ((w5.setCell ⟨wr.heap.size, 0, none⟩ (.int .i64 (n : Nat))).setCell ⟨wr.heap.size, 1, none⟩ (.slice A5 L cap5)) w (w2.heap.size + 1) w2.heap.size wr.heap.size n L A5 cap5 us5 gF capF4 gS capS4 gs ts :=
                CSt.of_set ⟨t50, t51, t5f⟩ ⟨_, _, hI5.two⟩ ho5.row hI5.f hI5.s (Nat.lt_succ_self _) hI5.big (by omega) (by omega) (fun h0 b o e => by have := hq5 h0 b o e; omega) (fun h0 b o e => by have := hq5 h0 b o e; omega) (by omega) (by omega) (by omega) (by repeat (first | exact Below.refl _ _ | assumption | (refine below_drewN ?_ _) | (refine Below.drew ?_) | (refine Below.alloc ?_ (by first | omega | (simp; omega) | simp) _) | (refine Below.setCell ?_ (by first | omega | (simp; omega) | simp) _) | (refine below_trans ?_ (by assumption) (by first | omega | (simp; omega) | simp))))
              have hpb : w.heap.size ≤ w2.heap.size := by omega
              have hgl4 : gs.length ≤ 4096 := by omega
              refine wp_mono (region35 w _ (w2.heap.size + 1) w2.heap.size _ n L t A5 cap5 us5 gF capF4 gS capS4 gs ts _ _ _ _ _ _ _ _ _ _ _ _ _ _ _ _ _ _ _ _ _ _ _ _ _ _ _ _ _ _ _ _ _ _ _ _ _ _ _ _ _ _ _ _ _ _ _ _ _ _ _ _ _ _ _ _ _ _ _ _ _ _ _ _ _ _ _ _ _ _ _ _ _ _ _ _ _ _ _ _ _ _ _ _ _ _ _ _ _ _ _ _ _ _ _ _ _ _ _ _ _ _ _ _ _ _ _ _ _ _ _ _ _ _ _ _ _ _ _ _ _ _ _ _ _ _ _ _ _ _ _ _ _ _ _ _ _ _ _ _ _ _ _ _ _ _ _ _ _ _ _ _ _ _ _ _ _ _ _ _ _ _ _ _ _ _ _ _ _ _ _ _ _ _ _ _ _ _ _ _ _ _ _ _ rfl CS htg htl hgl4 hpb) ?_
              rintro e a' w20 ⟨rfl, gF', cF', gS', cS', mF', mS', z154, z155, z156, z157, z158, z159, z160, z161, z162, z163, z164, z165, z166, z167, z168, z169, z170, z171, z172, z173, z174, hmF, hmS, hst20, hb20, rfl⟩
              have HC := Lib.hid (HW.out.cut (q := t) htg (fun j => by rw [hf.out, hss.out]; exact HTB.out j))
              have hlc := length_cutAt gs t htg
              have hls := length_cutAt ts t hts
              have hms2 : mS' = (cutAt ts t).length := by omega
              have hmf2 : mF' = (cutAt gs t).length := by omega
              subst hms2 hmf2
              clear CS hmF hmS
              (try simp only [Exit.then, Exit.inBlock])
              go_wp2
              go_roundw
              case rel => exact ⟨i + 1, A5, cap5, us5, _, _, _, _, cutAt gs t, cutAt ts t, by go_num, by omega, rfl, rfl, hul5, HU5.out, HC.out, hst20, hb20⟩
              case measure => simp [intOf]; omega
          · obtain ⟨t, ht, htg⟩ : ∃ t : Nat, t = 0 ∧ t < gs.length := ⟨0, rfl, hlt⟩
            obtain ⟨gF, rfl, hBF, hgF, hcF, hF⟩ := hst4.f.cells (by omega)
            obtain ⟨gS, rfl, hBS, hgS, hcS, hS⟩ := hst4.s.cells (by omega)
            have hts : t < ts.length := by omega
            have ti0 : (0 : Int) ≤ (t : Int) := by omega
            have ti1 : (t : Int) < (gs.length : Int) := by omega
            have ti2 : (t : Int) < (ts.length : Int) := by omega
            have f0 := hF t htg
            have s0 := hS t hts
            have hin := HW.out.in_ t htg
            have hat : ∀ j, _ → _ → tb vs j = true := fun j => HW.out.at_ htg (j := j)
            obtain ⟨f, hf⟩ := named gs t
            obtain ⟨s, hss⟩ := named ts t
            rw [hf.out] at f0 hin hat
            rw [hss.out] at s0 hin hat
            obtain ⟨us5, hul5, hUR5, htb5, T⟩ := give_next hvl HV.out hin.1 hin.2 hat
            have TT := Lib.hid T
            have HTB := Lib.hid htb5
            have HU5 := Lib.hid hUR5
            clear T hat htb5 hUR5
            rw [ht] at f0 s0
            go_wp2_with fail
            have h2r : w2.heap.size < wr.heap.size := by omega
            go_region_held3 (fun W : World => W.cell? ⟨w2.heap.size, 0, none⟩ = some (.int .i64 (n : Nat)) ∧ W.cell? ⟨w2.heap.size, 1, none⟩ = some (.slice A4 L cap4) ∧ W.cell? ⟨gF, 0, none⟩ = some (.int .i64 (f : Nat)) ∧ W.cell? ⟨gS, 0, none⟩ = some (.int .i64 (s : Nat)))
              ((refine ⟨?_, ?_, ?_, ?_⟩ <;> first | assumption | (simp [go_sem]; done) | exact (World.cell?_alloc_lt _ _ ⟨_, _, _⟩ (by first | omega | (simp; omega) | simp)).trans (by assumption) | (simp [go_sem, *]; done)))
              ((first
                | (go_at_call 10; refine (TT.out _ _ _ (hst4.row.later (by repeat (first | exact Below.refl _ _ | assumption | (refine below_drewN ?_ _) | (refine Below.drew ?_) | (refine Below.alloc ?_ (by first | omega | (simp; omega) | simp) _) | (refine Below.setCell ?_ (by first | omega | (simp; omega) | simp) _) | (refine below_trans ?_ (by assumption) (by first | omega | (simp; omega) | simp)))))).mono ?_; rintro e w5 ⟨A5, cap5, rfl, ho5, hb_w5⟩; have hs5 := hb_w5.size; (try simp only [World.size_drew, World.heap_drewN, World.size_alloc] at hs5); have t5 : True := trivial; have c50 : w5.cell? ⟨w2.heap.size, 0, none⟩ = _ := (hb_w5.cell (p := ⟨w2.heap.size, 0, none⟩) (Nat.lt_of_lt_of_le h2r (by first | exact Nat.le_refl _ | (simp only [World.size_drew, World.heap_drewN, World.size_alloc]; omega) | (simp; done)))).trans (p0); have c51 : w5.cell? ⟨w2.heap.size, 1, none⟩ = _ := (hb_w5.cell (p := ⟨w2.heap.size, 1, none⟩) (Nat.lt_of_lt_of_le h2r (by first | exact Nat.le_refl _ | (simp only [World.size_drew, World.heap_drewN, World.size_alloc]; omega) | (simp; done)))).trans (p1); have c52 : w5.cell? ⟨gF, 0, none⟩ = _ := (hb_w5.cell (p := ⟨gF, 0, none⟩) (Nat.lt_of_lt_of_le hgF (by first | exact Nat.le_refl _ | (simp only [World.size_drew, World.heap_drewN, World.size_alloc]; omega) | (simp; done)))).trans (f0); have c53 : w5.cell? ⟨gS, 0, none⟩ = _ := (hb_w5.cell (p := ⟨gS, 0, none⟩) (Nat.lt_of_lt_of_le hgS (by first | exact Nat.le_refl _ | (simp only [World.size_drew, World.heap_drewN, World.size_alloc]; omega) | (simp; done)))).trans (s0))
                | (go_at_call 10; refine (TT.out _ _ _ (hst4.row.later (by repeat (first | exact Below.refl _ _ | assumption | (refine below_drewN ?_ _) | (refine Below.drew ?_) | (refine Below.alloc ?_ (by first | omega | (simp; omega) | simp) _) | (refine Below.setCell ?_ (by first | omega | (simp; omega) | simp) _) | (refine below_trans ?_ (by assumption) (by first | omega | (simp; omega) | simp)))))).mono ?_; rintro e w5 ⟨A5, cap5, rfl, ho5, hb_w5⟩; have hs5 := hb_w5.size; (try simp only [World.size_drew, World.heap_drewN, World.size_alloc] at hs5); have t5 : Two w5 wr.heap.size (.int .i64 0) (.slice none 0 0) := ((Two.new wr (.int .i64 0) (.slice none 0 0) 29).below (show Below (wr.alloc (.cells #[.int .i64 0, .slice none 0 0] 29)).heap.size (wr.alloc (.cells #[.int .i64 0, .slice none 0 0] 29)) (wr.alloc (.cells #[.int .i64 0, .slice none 0 0] 29)).drew from (by repeat (first | exact Below.refl _ _ | assumption | (refine below_drewN ?_ _) | (refine Below.drew ?_) | (refine Below.alloc ?_ (by first | omega | (simp; omega) | simp) _) | (refine Below.setCell ?_ (by first | omega | (simp; omega) | simp) _) | (refine below_trans ?_ (by assumption) (by first | omega | (simp; omega) | simp))))) (by first | omega | (simp; omega) | simp)).below hb_w5 (by first | omega | (simp; omega) | simp); obtain ⟨t50, t51, t5f⟩ := id t5; have c50 : w5.cell? ⟨w2.heap.size, 0, none⟩ = _ := (hb_w5.cell (p := ⟨w2.heap.size, 0, none⟩) (Nat.lt_of_lt_of_le h2r (by first | exact Nat.le_refl _ | (simp only [World.size_drew, World.heap_drewN, World.size_alloc]; omega) | (simp; done)))).trans ((World.cell?_alloc_lt _ _ ⟨_, _, _⟩ h2r).trans p0); have c51 : w5.cell? ⟨w2.heap.size, 1, none⟩ = _ := (hb_w5.cell (p := ⟨w2.heap.size, 1, none⟩) (Nat.lt_of_lt_of_le h2r (by first | exact Nat.le_refl _ | (simp only [World.size_drew, World.heap_drewN, World.size_alloc]; omega) | (simp; done)))).trans ((World.cell?_alloc_lt _ _ ⟨_, _, _⟩ h2r).trans p1); have c52 : w5.cell? ⟨gF, 0, none⟩ = _ := (hb_w5.cell (p := ⟨gF, 0, none⟩) (Nat.lt_of_lt_of_le hgF (by first | exact Nat.le_refl _ | (simp only [World.size_drew, World.heap_drewN, World.size_alloc]; omega) | (simp; done)))).trans ((World.cell?_alloc_lt _ _ ⟨_, _, _⟩ hgF).trans f0); have c53 : w5.cell? ⟨gS, 0, none⟩ = _ := (hb_w5.cell (p := ⟨gS, 0, none⟩) (Nat.lt_of_lt_of_le hgS (by first | exact Nat.le_refl _ | (simp only [World.size_drew, World.heap_drewN, World.size_alloc]; omega) | (simp; done)))).trans ((World.cell?_alloc_lt _ _ ⟨_, _, _⟩ hgS).trans s0))))
            · go_wp2_with fail
              have hA5 : 0 < us5.length → ∀ b o, A5 = some ⟨b, o, none⟩ → w2.heap.size ≠ b := fun h0 b o eA => by
                obtain ⟨g', e2, h3, _⟩ := ho5.at_ h0
                rw [eA] at e2
                injection e2 with e2
                injection e2 with e2
                (try simp only [World.size_drew, World.heap_drewN, World.size_alloc] at h3)
                omega
              have b5 : Below wr.heap.size wr w5 := (by repeat (first | exact Below.refl _ _ | assumption | (refine below_drewN ?_ _) | (refine Below.drew ?_) | (refine Below.alloc ?_ (by first | omega | (simp; omega) | simp) _) | (refine Below.setCell ?_ (by first | omega | (simp; omega) | simp) _) | (refine below_trans ?_ (by assumption) (by first | omega | (simp; omega) | simp))))
              have hI5 := hst4.later b5
              have b6 : Below w5.heap.size w5 (w5.alloc (.cells #[.int .i64 (n : Nat), .slice A5 L cap5] 29)) := (by repeat (first | exact Below.refl _ _ | assumption | (refine below_drewN ?_ _) | (refine Below.drew ?_) | (refine Below.alloc ?_ (by first | omega | (simp; omega) | simp) _) | (refine Below.setCell ?_ (by first | omega | (simp; omega) | simp) _) | (refine below_trans ?_ (by assumption) (by first | omega | (simp; omega) | simp))))
              have hI6 := hI5.later b6
              have CS : CSt (w5.alloc (.cells #[.int .i64 (n : Nat), .slice A5 L cap5] 29)) w (w2.heap.size + 1) w2.heap.size w5.heap.size n L A5 cap5 us5 gF capF4 gS capS4 gs ts :=
                ⟨⟨_, _, hI6.two⟩, Two.new w5 _ _ _, ho5.row.later b6, hI6.f, hI6.s, Nat.lt_succ_self _, hI6.big, by simp, by omega, hA5, (by repeat (first | exact Below.refl _ _ | assumption | (refine below_drewN ?_ _) | (refine Below.drew ?_) | (refine Below.alloc ?_ (by first | omega | (simp; omega) | simp) _) | (refine Below.setCell ?_ (by first | omega | (simp; omega) | simp) _) | (refine below_trans ?_ (by assumption) (by first | omega | (simp; omega) | simp))))⟩
              have hpb : w.heap.size ≤ w2.heap.size := by omega
              have hgl4 : gs.length ≤ 4096 := by omega
              subst ht
              refine wp_mono (region35 w _ (w2.heap.size + 1) w2.heap.size _ n L 0 A5 cap5 us5 gF capF4 gS capS4 gs ts _ _ _ _ _ _ _ _ _ _ _ _ _ _ _ _ _ _ _ _ _ _ _ _ _ _ _ _ _ _ _ _ _ _ _ _ _ _ _ _ _ _ _ _ _ _ _ _ _ _ _ _ _ _ _ _ _ _ _ _ _ _ _ _ _ _ _ _ _ _ _ _ _ _ _ _ _ _ _ _ _ _ _ _ _ _ _ _ _ _ _ _ _ _ _ _ _ _ _ _ _ _ _ _ _ _ _ _ _ _ _ _ _ _ _ _ _ _ _ _ _ _ _ _ _ _ _ _ _ _ _ _ _ _ _ _ _ _ _ _ _ _ _ _ _ _ _ _ _ _ _ _ _ _ _ _ _ _ _ _ _ _ _ _ _ _ _ _ _ _ _ _ _ _ _ _ _ _ _ _ _ _ _ _ rfl CS htg htl hgl4 hpb) ?_
              rintro e a' w20 ⟨rfl, gF', cF', gS', cS', mF', mS', z154, z155, z156, z157, z158, z159, z160, z161, z162, z163, z164, z165, z166, z167, z168, z169, z170, z171, z172, z173, z174, hmF, hmS, hst20, hb20, rfl⟩
              have HC := Lib.hid (HW.out.cut (q := 0) htg (fun j => by rw [hf.out, hss.out]; exact HTB.out j))
              have hlc := length_cutAt gs 0 htg
              have hls := length_cutAt ts 0 hts
              have hms2 : mS' = (cutAt ts 0).length := by omega
              have hmf2 : mF' = (cutAt gs 0).length := by omega
              subst hms2 hmf2
              clear CS hmF hmS
              (try simp only [Exit.then, Exit.inBlock])
              go_wp2
              go_roundw
              case rel => exact ⟨i + 1, A5, cap5, us5, _, _, _, _, cutAt gs 0, cutAt ts 0, by go_num, by omega, rfl, rfl, hul5, HU5.out, HC.out, hst20, hb20⟩
              case measure => simp [intOf]; omega
            · go_wp2_with fail
              have hq5 : 0 < us5.length → ∀ b o, A5 = some ⟨b, o, none⟩ → wr.heap.size + 1 ≤ b := fun h0 b o eA => by
                obtain ⟨g', e2, h3, _⟩ := ho5.at_ h0
                rw [eA] at e2
                injection e2 with e2
                injection e2 with e2
                (try simp only [World.size_drew, World.heap_drewN, World.size_alloc] at h3)
                omega
              have b5 : Below wr.heap.size wr w5 := (by repeat (first | exact Below.refl _ _ | assumption | (refine below_drewN ?_ _) | (refine Below.drew ?_) | (refine Below.alloc ?_ (by first | omega | (simp; omega) | simp) _) | (refine Below.setCell ?_ (by first | omega | (simp; omega) | simp) _) | (refine below_trans ?_ (by assumption) (by first | omega | (simp; omega) | simp))))
              have hI5 := hst4.later b5
              have CS : CSt ((w5.setCell ⟨wr.heap.size, 0, none⟩ (.int .i64 (n : Nat))).setCell ⟨wr.heap.size, 1, none⟩ (.slice A5 L cap5)) w (w2.heap.size + 1) w2.heap.size wr.heap.size n L A5 cap5 us5 gF capF4 gS capS4 gs ts :=
                CSt.of_set ⟨t50, t51, t5f⟩ ⟨_, _, hI5.two⟩ ho5.row hI5.f hI5.s (Nat.lt_succ_self _) hI5.big (by omega) (by omega) (fun h0 b o e => by have := hq5 h0 b o e; omega) (fun h0 b o e => by have := hq5 h0 b o e; omega) (by omega) (by omega) (by omega) (by repeat (first | exact Below.refl _ _ | assumption | (refine below_drewN ?_ _) | (refine Below.drew ?_) | (refine Below.alloc ?_ (by first | omega | (simp; omega) | simp) _) | (refine Below.setCell ?_ (by first | omega | (simp; omega) | simp) _) | (refine below_trans ?_ (by assumption) (by first | omega | (simp; omega) | simp))))
              have hpb : w.heap.size ≤ w2.heap.size := by omega
              have hgl4 : gs.length ≤ 4096 := by omega
              subst ht
              refine wp_mono (region35 w _ (w2.heap.size + 1) w2.heap.size _ n L 0 A5 cap5 us5 gF capF4 gS capS4 gs ts _ _ _ _ _ _ _ _ _ _ _ _ _ _ _ _ _ _ _ _ _ _ _ _ _ _ _ _ _ _ _ _ _ _ _ _ _ _ _ _ _ _ _ _ _ _ _ _ _ _ _ _ _ _ _ _ _ _ _ _ _ _ _ _ _ _ _ _ _ _ _ _ _ _ _ _ _ _ _ _ _ _ _ _ _ _ _ _ _ _ _ _ _ _ _ _ _ _ _ _ _ _ _ _ _ _ _ _ _ _ _ _ _ _ _ _ _ _ _ _ _ _ _ _ _ _ _ _ _ _ _ _ _ _ _ _ _ _ _ _ _ _ _ _ _ _ _ _ _ _ _ _ _ _ _ _ _ _ _ _ _ _ _ _ _ _ _ _ _ _ _ _ _ _ _ _ _ _ _ _ _ _ _ _ rfl CS htg htl hgl4 hpb) ?_
              rintro e a' w20 ⟨rfl, gF', cF', gS', cS', mF', mS', z154, z155, z156, z157, z158, z159, z160, z161, z162, z163, z164, z165, z166, z167, z168, z169, z170, z171, z172, z173, z174, hmF, hmS, hst20, hb20, rfl⟩
              have HC := Lib.hid (HW.out.cut (q := 0) htg (fun j => by rw [hf.out, hss.out]; exact HTB.out j))
              have hlc := length_cutAt gs 0 htg
              have hls := length_cutAt ts 0 hts
              have hms2 : mS' = (cutAt ts 0).length := by omega
              have hmf2 : mF' = (cutAt gs 0).length := by omega
              subst hms2 hmf2
              clear CS hmF hmS
              (try simp only [Exit.then, Exit.inBlock])
              go_wp2
              go_roundw
              case rel => exact ⟨i + 1, A5, cap5, us5, _, _, _, _, cutAt gs 0, cutAt ts 0, by go_num, by omega, rfl, rfl, hul5, HU5.out, HC.out, hst20, hb20⟩
              case measure => simp [intOf]; omega
        · obtain rfl : gs = [] := List.length_eq_zero_iff.mp (by omega)
          obtain rfl : ts = [] := List.length_eq_zero_iff.mp (by have := HLW.out; simpa using this.symm)
          have HL := Lib.hid (longest_len (w := wr) (A := A4) cap4 hvl HV.out HW.out.done hst4.row)
          go_wp2_with fail
          go_at_call 11
          refine (HL.out).mono ?_
          rintro e w5 ⟨rfl, hb_w5⟩
          obtain ⟨hc_w5, hf_w5⟩ := bcell hb_w5; have hz_w5_w2_0 : w2.heap.size < w5.heap.size := (by have hzz := hb_w5.size; (try simp only [World.size_alloc, World.size_setCell, World.size_drew, World.heap_drewN] at hzz); omega); have hs_w5 := hb_w5.size; (try simp only [World.size_alloc, World.size_setCell, World.size_drew, World.heap_drewN] at hs_w5)
          go_wp2
          go_ret
          exact ⟨rfl, (by repeat (first | exact Below.refl _ _ | assumption | (refine below_drewN ?_ _) | (refine Below.drew ?_) | (refine Below.alloc ?_ (by first | omega | (simp; omega) | simp) _) | (refine Below.setCell ?_ (by first | omega | (simp; omega) | simp) _) | (refine below_trans ?_ (by assumption) (by first | omega | (simp; omega) | simp))))⟩
end Go.Proofs.YthikpamjeckfcaaDoor
