/- The walk of PaceWork. -/
import Derived.Test.YtkdbcoibapcmjaaN26
import Derived.Deep.QuietTactic
import Derived.BigQuiet
namespace Go.Proofs.Ytkdbcoibapcmjaa
open Go.RowKit
set_option linter.unusedVariables false
set_option linter.unusedSimpArgs false
set_option maxRecDepth 100000

/-- what is paid by the first k -/
def payW (who : Int) (P k : Nat) : Nat := if 0 ≤ who ∧ who < (k : Int) then P else 0
/-- what one number of steps makes of a pacer -/
structure One1 (p q : Pc) (who : Int) (n P : Nat) : Prop where
  len : q.ds.length = p.ds.length
  neg : ¬ 0 ≤ who → P = 0
  le : P ≤ n
  done : p.done ≤ 549755813888 → n ≤ 274877906944 → q.done = p.done + n
  credit : p.credit ≤ 549755813888 → n ≤ 274877906944 → q.credit = p.credit + (n - P)
  ne : ∀ k : Nat, k < p.ds.length → (k : Int) ≠ who → q.ds.getD k 0 = p.ds.getD k 0
  eq : ∀ k : Nat, k < p.ds.length → (k : Int) = who → p.ds.getD k 0 = q.ds.getD k 0 + P
theorem one1 {p : Pc} {who : Int} {n : Nat} (hw1 : -1 ≤ who) (hw2 : who < p.ds.length) : ∃ P, One1 p (wrk who p [n]) who n P := by
  show ∃ P, One1 p (wrk1 who p n) who n P
  unfold wrk1
  by_cases h : who = -1
  · rw [if_pos h]
    refine ⟨0, rfl, fun _ => rfl, Nat.zero_le _, fun h1 h2 => ?_, fun h1 h2 => ?_, fun k _ _ => rfl, fun k _ e => by omega⟩
    · show cp (p.done + n) = _
      unfold cp; omega
    · show cp (p.credit + n) = _
      unfold cp; omega
  · rw [if_neg h]
    obtain ⟨m, rfl⟩ : ∃ m : Nat, who = (m : Int) := ⟨who.toNat, by omega⟩
    rw [Int.toNat_natCast]
    have hm : m < p.ds.length := by omega
    refine ⟨min n (p.ds.getD m 0), by simp [wrkK], fun e => by omega, Nat.min_le_left _ _, fun h1 h2 => ?_, fun h1 h2 => ?_, fun k hk e => ?_, fun k hk e => ?_⟩
    · show cp (p.done + n) = _
      unfold cp; omega
    · show cp (p.credit + (n - min n (p.ds.getD m 0))) = _
      unfold cp; omega
    · show (p.ds.set m _).getD k 0 = _
      rw [getD_setN _ _ _ _ hm, if_neg (by omega)]
    · obtain rfl : k = m := by omega
      show _ = (p.ds.set k _).getD k 0 + _
      rw [getD_setN _ _ _ _ hm, if_pos rfl]
      omega
theorem payW_next {who : Int} {P k : Nat} : payW who P (k + 1) = payW who P k + (if (k : Int) = who then P else 0) := by
  unfold payW
  by_cases h : (k : Int) = who
  · rw [if_pos (by omega), if_neg (by omega), if_pos h]; omega
  · rw [if_neg h]
    by_cases h2 : 0 ≤ who ∧ who < (k : Int)
    · rw [if_pos h2, if_pos (by omega)]; omega
    · rw [if_neg h2, if_neg (by omega)]
theorem row_one {w : World} {n g : Nat} (hn : n < W64) (hg : g = w.heap.size) : Row (w.alloc (.cells #[.int .u64 (n : Nat)] 22)) (w.alloc (.cells #[.int .u64 (n : Nat)] 22)).heap.size (some ⟨g, 0, none⟩) [n] :=
  Row.news (l := [n]) (fun x hx => by rw [List.mem_singleton.1 hx]; exact hn) hg
section
variable {w : World} {p : Pc} {A : Option Addr} (c : Nat)
set_option maxHeartbeats 8000000 in
theorem paceWork_walk (hf : FitP p) (hr : Row w w.heap.size A p.ds) (hn : A = none → c = 0) (hl : p.ds.length ≤ 17592186044416) (who : Int) (n : Nat) (hnw : n < W64) :
    Calls Try.prog 7 #[(.agg #[.int .i64 p.pct, .int .u64 (p.least : Nat), .int .u64 (p.live : Nat), .bool p.on, .int .u64 (p.est : Nat), .int .u64 (p.room : Nat), .int .u64 (p.credit : Nat), .int .u64 (p.done : Nat), .int .u64 (p.made : Nat), .slice A p.ds.length c]), .int .i64 who, .int .u64 (n : Nat)] w fun e w' => e = .returned (.bool true) ∧ Below w.heap.size w w' := by
  have HLv := Lib.hid plives_any
  have HW := Lib.hid fun (w : World) (S : Option Addr) (q : Pc) (y : Int) hE hr hs => pworkX_any (w := w) (p := p) (A := A) (S := S) (l := [n]) c 1 hf hr hl hn hs (by simp) who q y hE
  have HS := Lib.hid fun (w : World) (C : Option Addr) (cc : Nat) hr hq => xpsame_ok (w := w) (p := p) (A := A) (C := C) c cc hr hq hl
  obtain ⟨q, y, hE⟩ := WrkE.ex p who [n]
  have HE := Lib.hid hE
  have HNW := Lib.hid hnw
  rcases hE with ⟨hk, rfl, rfl⟩ | ⟨hk, hw, rfl, rfl⟩ | ⟨hk, hw1, hw2, ho, rfl, rfl⟩ | ⟨hk, hw1, hw2, ho, hm, rfl, rfl⟩ | ⟨hk, hw1, hw2, ho, hm, hq, rfl⟩
  · clear hk
    go_enter Try.func7, Try.ntmps7
    have r1 := hr
    have b_r1 := Below.refl w.heap.size w
    have b_r1 : Below w.heap.size w (w.alloc (.cells #[.int .i64 p.pct, .int .u64 (p.least : Nat), .int .u64 (p.live : Nat), .bool p.on, .int .u64 (p.est : Nat), .int .u64 (p.room : Nat), .int .u64 (p.credit : Nat), .int .u64 (p.done : Nat), .int .u64 (p.made : Nat), .slice A p.ds.length c] 25)) := b_r1.alloc (by first | omega | (simp only [World.size_alloc, size_ten]; omega)) _
    have bp := Ten.new w (.int .i64 p.pct) (.int .u64 (p.least : Nat)) (.int .u64 (p.live : Nat)) (.bool p.on) (.int .u64 (p.est : Nat)) (.int .u64 (p.room : Nat)) (.int .u64 (p.credit : Nat)) (.int .u64 (p.done : Nat)) (.int .u64 (p.made : Nat)) (.slice A p.ds.length c) 25
    (try simp only [World.size_alloc, size_ten] at bp)
    go_wp2_with fail
    go_at_call 15
    refine (HLv.out _).mono ?_
    rintro e w1 ⟨rfl, hb_w1⟩
    have s_w1 := hb_w1.size
    (try simp only [World.size_alloc, size_ten] at s_w1)
    have bp := bp.later hb_w1
    have bp_lt := bp.lt
    have b_r1 := below_trans b_r1 hb_w1 b_r1.size
    clear hb_w1
    obtain ⟨bp_0, bp_1, bp_2, bp_3, bp_4, bp_5, bp_6, bp_7, bp_8, bp_9, bp_f⟩ := id bp
    have bp := bp.later ((Below.refl _ _).alloc (Nat.le_refl _) (.cells #[.int .u64 (n : Nat)] 22))
    have b_r1 : Below w.heap.size w (w1.alloc (.cells #[.int .u64 (n : Nat)] 22)) := b_r1.alloc (by first | omega | (simp only [World.size_alloc, size_ten]; omega)) _
    go_wp2_with fail
    go_at_call 26
    refine (HW.out _ _ _ _ HE.out (by exact r1.later b_r1) (by exact row_one HNW.out rfl)).mono ?_
    rintro e w2 ⟨A2, c2, rfl, o_r2, hb_w2⟩
    clear bp_0 bp_1 bp_2 bp_3 bp_4 bp_5 bp_6 bp_7 bp_8 bp_9 bp_f
    have s_w2 := hb_w2.size
    (try simp only [World.size_alloc, size_ten] at s_w2)
    have bp := bp.later hb_w2
    have bp_lt := bp.lt
    have b_r1 := below_trans b_r1 hb_w2 b_r1.size
    clear hb_w2
    have r2 := o_r2.row
    have b_r2 := Below.refl w2.heap.size w2
    obtain ⟨bp_0, bp_1, bp_2, bp_3, bp_4, bp_5, bp_6, bp_7, bp_8, bp_9, bp_f⟩ := id bp
    have bp := bp.later ((Below.refl _ _).alloc (Nat.le_refl _) (.cells #[.int .i64 Pc.zero.pct, .int .u64 (Pc.zero.least : Nat), .int .u64 (Pc.zero.live : Nat), .bool Pc.zero.on, .int .u64 (Pc.zero.est : Nat), .int .u64 (Pc.zero.room : Nat), .int .u64 (Pc.zero.credit : Nat), .int .u64 (Pc.zero.done : Nat), .int .u64 (Pc.zero.made : Nat), .slice A2 Pc.zero.ds.length c2] 25))
    have b_r1 : Below w.heap.size w (w2.alloc (.cells #[.int .i64 Pc.zero.pct, .int .u64 (Pc.zero.least : Nat), .int .u64 (Pc.zero.live : Nat), .bool Pc.zero.on, .int .u64 (Pc.zero.est : Nat), .int .u64 (Pc.zero.room : Nat), .int .u64 (Pc.zero.credit : Nat), .int .u64 (Pc.zero.done : Nat), .int .u64 (Pc.zero.made : Nat), .slice A2 Pc.zero.ds.length c2] 25)) := b_r1.alloc (by first | omega | (simp only [World.size_alloc, size_ten]; omega)) _
    have b_r2 : Below w2.heap.size w2 (w2.alloc (.cells #[.int .i64 Pc.zero.pct, .int .u64 (Pc.zero.least : Nat), .int .u64 (Pc.zero.live : Nat), .bool Pc.zero.on, .int .u64 (Pc.zero.est : Nat), .int .u64 (Pc.zero.room : Nat), .int .u64 (Pc.zero.credit : Nat), .int .u64 (Pc.zero.done : Nat), .int .u64 (Pc.zero.made : Nat), .slice A2 Pc.zero.ds.length c2] 25)) := b_r2.alloc (by first | omega | (simp only [World.size_alloc, size_ten]; omega)) _
    have bq := Ten.new w2 (.int .i64 Pc.zero.pct) (.int .u64 (Pc.zero.least : Nat)) (.int .u64 (Pc.zero.live : Nat)) (.bool Pc.zero.on) (.int .u64 (Pc.zero.est : Nat)) (.int .u64 (Pc.zero.room : Nat)) (.int .u64 (Pc.zero.credit : Nat)) (.int .u64 (Pc.zero.done : Nat)) (.int .u64 (Pc.zero.made : Nat)) (.slice A2 Pc.zero.ds.length c2) 25
    (try simp only [World.size_alloc, size_ten] at bq)
    go_wp2
    go_ret
    exact ⟨rfl, b_r1⟩
  · clear hk hw
    go_enter Try.func7, Try.ntmps7
    have r1 := hr
    have b_r1 := Below.refl w.heap.size w
    have b_r1 : Below w.heap.size w (w.alloc (.cells #[.int .i64 q.pct, .int .u64 (q.least : Nat), .int .u64 (q.live : Nat), .bool q.on, .int .u64 (q.est : Nat), .int .u64 (q.room : Nat), .int .u64 (q.credit : Nat), .int .u64 (q.done : Nat), .int .u64 (q.made : Nat), .slice A q.ds.length c] 25)) := b_r1.alloc (by first | omega | (simp only [World.size_alloc, size_ten]; omega)) _
    have bp := Ten.new w (.int .i64 q.pct) (.int .u64 (q.least : Nat)) (.int .u64 (q.live : Nat)) (.bool q.on) (.int .u64 (q.est : Nat)) (.int .u64 (q.room : Nat)) (.int .u64 (q.credit : Nat)) (.int .u64 (q.done : Nat)) (.int .u64 (q.made : Nat)) (.slice A q.ds.length c) 25
    (try simp only [World.size_alloc, size_ten] at bp)
    go_wp2_with fail
    go_at_call 15
    refine (HLv.out _).mono ?_
    rintro e w1 ⟨rfl, hb_w1⟩
    have s_w1 := hb_w1.size
    (try simp only [World.size_alloc, size_ten] at s_w1)
    have bp := bp.later hb_w1
    have bp_lt := bp.lt
    have b_r1 := below_trans b_r1 hb_w1 b_r1.size
    clear hb_w1
    obtain ⟨bp_0, bp_1, bp_2, bp_3, bp_4, bp_5, bp_6, bp_7, bp_8, bp_9, bp_f⟩ := id bp
    have bp := bp.later ((Below.refl _ _).alloc (Nat.le_refl _) (.cells #[.int .u64 (n : Nat)] 22))
    have b_r1 : Below w.heap.size w (w1.alloc (.cells #[.int .u64 (n : Nat)] 22)) := b_r1.alloc (by first | omega | (simp only [World.size_alloc, size_ten]; omega)) _
    go_wp2_with fail
    go_at_call 26
    refine (HW.out _ _ _ _ HE.out (by exact r1.later b_r1) (by exact row_one HNW.out rfl)).mono ?_
    rintro e w2 ⟨A2, c2, rfl, o_r2, hb_w2⟩
    clear bp_0 bp_1 bp_2 bp_3 bp_4 bp_5 bp_6 bp_7 bp_8 bp_9 bp_f
    have s_w2 := hb_w2.size
    (try simp only [World.size_alloc, size_ten] at s_w2)
    have bp := bp.later hb_w2
    have bp_lt := bp.lt
    have b_r1 := below_trans b_r1 hb_w2 b_r1.size
    clear hb_w2
    have r2 := o_r2.row
    have b_r2 := Below.refl w2.heap.size w2
    obtain ⟨bp_0, bp_1, bp_2, bp_3, bp_4, bp_5, bp_6, bp_7, bp_8, bp_9, bp_f⟩ := id bp
    have bp := bp.later ((Below.refl _ _).alloc (Nat.le_refl _) (.cells #[.int .i64 q.pct, .int .u64 (q.least : Nat), .int .u64 (q.live : Nat), .bool q.on, .int .u64 (q.est : Nat), .int .u64 (q.room : Nat), .int .u64 (q.credit : Nat), .int .u64 (q.done : Nat), .int .u64 (q.made : Nat), .slice A2 q.ds.length c2] 25))
    have b_r1 : Below w.heap.size w (w2.alloc (.cells #[.int .i64 q.pct, .int .u64 (q.least : Nat), .int .u64 (q.live : Nat), .bool q.on, .int .u64 (q.est : Nat), .int .u64 (q.room : Nat), .int .u64 (q.credit : Nat), .int .u64 (q.done : Nat), .int .u64 (q.made : Nat), .slice A2 q.ds.length c2] 25)) := b_r1.alloc (by first | omega | (simp only [World.size_alloc, size_ten]; omega)) _
    have b_r2 : Below w2.heap.size w2 (w2.alloc (.cells #[.int .i64 q.pct, .int .u64 (q.least : Nat), .int .u64 (q.live : Nat), .bool q.on, .int .u64 (q.est : Nat), .int .u64 (q.room : Nat), .int .u64 (q.credit : Nat), .int .u64 (q.done : Nat), .int .u64 (q.made : Nat), .slice A2 q.ds.length c2] 25)) := b_r2.alloc (by first | omega | (simp only [World.size_alloc, size_ten]; omega)) _
    have bq := Ten.new w2 (.int .i64 q.pct) (.int .u64 (q.least : Nat)) (.int .u64 (q.live : Nat)) (.bool q.on) (.int .u64 (q.est : Nat)) (.int .u64 (q.room : Nat)) (.int .u64 (q.credit : Nat)) (.int .u64 (q.done : Nat)) (.int .u64 (q.made : Nat)) (.slice A2 q.ds.length c2) 25
    (try simp only [World.size_alloc, size_ten] at bq)
    go_wp2_with fail
    go_at_call 16
    refine (HS.out _ _ _ (by exact r1.later b_r1) (by exact r2.later b_r2)).mono ?_
    rintro e w3 ⟨rfl, hb_w3⟩
    clear bp_0 bp_1 bp_2 bp_3 bp_4 bp_5 bp_6 bp_7 bp_8 bp_9 bp_f
    have s_w3 := hb_w3.size
    (try simp only [World.size_alloc, size_ten] at s_w3)
    have bp := bp.later hb_w3
    have bp_lt := bp.lt
    have bq := bq.later hb_w3
    have bq_lt := bq.lt
    have b_r1 := below_trans b_r1 hb_w3 b_r1.size
    have b_r2 := below_trans b_r2 hb_w3 b_r2.size
    clear hb_w3
    go_wp2
    go_ret
    exact ⟨rfl, b_r1⟩
  · clear hk hw1 hw2 ho
    go_enter Try.func7, Try.ntmps7
    have r1 := hr
    have b_r1 := Below.refl w.heap.size w
    have b_r1 : Below w.heap.size w (w.alloc (.cells #[.int .i64 q.pct, .int .u64 (q.least : Nat), .int .u64 (q.live : Nat), .bool q.on, .int .u64 (q.est : Nat), .int .u64 (q.room : Nat), .int .u64 (q.credit : Nat), .int .u64 (q.done : Nat), .int .u64 (q.made : Nat), .slice A q.ds.length c] 25)) := b_r1.alloc (by first | omega | (simp only [World.size_alloc, size_ten]; omega)) _
    have bp := Ten.new w (.int .i64 q.pct) (.int .u64 (q.least : Nat)) (.int .u64 (q.live : Nat)) (.bool q.on) (.int .u64 (q.est : Nat)) (.int .u64 (q.room : Nat)) (.int .u64 (q.credit : Nat)) (.int .u64 (q.done : Nat)) (.int .u64 (q.made : Nat)) (.slice A q.ds.length c) 25
    (try simp only [World.size_alloc, size_ten] at bp)
    go_wp2_with fail
    go_at_call 15
    refine (HLv.out _).mono ?_
    rintro e w1 ⟨rfl, hb_w1⟩
    have s_w1 := hb_w1.size
    (try simp only [World.size_alloc, size_ten] at s_w1)
    have bp := bp.later hb_w1
    have bp_lt := bp.lt
    have b_r1 := below_trans b_r1 hb_w1 b_r1.size
    clear hb_w1
    obtain ⟨bp_0, bp_1, bp_2, bp_3, bp_4, bp_5, bp_6, bp_7, bp_8, bp_9, bp_f⟩ := id bp
    have bp := bp.later ((Below.refl _ _).alloc (Nat.le_refl _) (.cells #[.int .u64 (n : Nat)] 22))
    have b_r1 : Below w.heap.size w (w1.alloc (.cells #[.int .u64 (n : Nat)] 22)) := b_r1.alloc (by first | omega | (simp only [World.size_alloc, size_ten]; omega)) _
    go_wp2_with fail
    go_at_call 26
    refine (HW.out _ _ _ _ HE.out (by exact r1.later b_r1) (by exact row_one HNW.out rfl)).mono ?_
    rintro e w2 ⟨A2, c2, rfl, o_r2, hb_w2⟩
    clear bp_0 bp_1 bp_2 bp_3 bp_4 bp_5 bp_6 bp_7 bp_8 bp_9 bp_f
    have s_w2 := hb_w2.size
    (try simp only [World.size_alloc, size_ten] at s_w2)
    have bp := bp.later hb_w2
    have bp_lt := bp.lt
    have b_r1 := below_trans b_r1 hb_w2 b_r1.size
    clear hb_w2
    have r2 := o_r2.row
    have b_r2 := Below.refl w2.heap.size w2
    obtain ⟨bp_0, bp_1, bp_2, bp_3, bp_4, bp_5, bp_6, bp_7, bp_8, bp_9, bp_f⟩ := id bp
    have bp := bp.later ((Below.refl _ _).alloc (Nat.le_refl _) (.cells #[.int .i64 q.pct, .int .u64 (q.least : Nat), .int .u64 (q.live : Nat), .bool q.on, .int .u64 (q.est : Nat), .int .u64 (q.room : Nat), .int .u64 (q.credit : Nat), .int .u64 (q.done : Nat), .int .u64 (q.made : Nat), .slice A2 q.ds.length c2] 25))
    have b_r1 : Below w.heap.size w (w2.alloc (.cells #[.int .i64 q.pct, .int .u64 (q.least : Nat), .int .u64 (q.live : Nat), .bool q.on, .int .u64 (q.est : Nat), .int .u64 (q.room : Nat), .int .u64 (q.credit : Nat), .int .u64 (q.done : Nat), .int .u64 (q.made : Nat), .slice A2 q.ds.length c2] 25)) := b_r1.alloc (by first | omega | (simp only [World.size_alloc, size_ten]; omega)) _
    have b_r2 : Below w2.heap.size w2 (w2.alloc (.cells #[.int .i64 q.pct, .int .u64 (q.least : Nat), .int .u64 (q.live : Nat), .bool q.on, .int .u64 (q.est : Nat), .int .u64 (q.room : Nat), .int .u64 (q.credit : Nat), .int .u64 (q.done : Nat), .int .u64 (q.made : Nat), .slice A2 q.ds.length c2] 25)) := b_r2.alloc (by first | omega | (simp only [World.size_alloc, size_ten]; omega)) _
    have bq := Ten.new w2 (.int .i64 q.pct) (.int .u64 (q.least : Nat)) (.int .u64 (q.live : Nat)) (.bool q.on) (.int .u64 (q.est : Nat)) (.int .u64 (q.room : Nat)) (.int .u64 (q.credit : Nat)) (.int .u64 (q.done : Nat)) (.int .u64 (q.made : Nat)) (.slice A2 q.ds.length c2) 25
    (try simp only [World.size_alloc, size_ten] at bq)
    go_wp2_with fail
    go_at_call 16
    refine (HS.out _ _ _ (by exact r1.later b_r1) (by exact r2.later b_r2)).mono ?_
    rintro e w3 ⟨rfl, hb_w3⟩
    clear bp_0 bp_1 bp_2 bp_3 bp_4 bp_5 bp_6 bp_7 bp_8 bp_9 bp_f
    have s_w3 := hb_w3.size
    (try simp only [World.size_alloc, size_ten] at s_w3)
    have bp := bp.later hb_w3
    have bp_lt := bp.lt
    have bq := bq.later hb_w3
    have bq_lt := bq.lt
    have b_r1 := below_trans b_r1 hb_w3 b_r1.size
    have b_r2 := below_trans b_r2 hb_w3 b_r2.size
    clear hb_w3
    go_wp2
    go_ret
    exact ⟨rfl, b_r1⟩
  · clear hk hw1 hw2 ho hm
    go_enter Try.func7, Try.ntmps7
    have r1 := hr
    have b_r1 := Below.refl w.heap.size w
    have b_r1 : Below w.heap.size w (w.alloc (.cells #[.int .i64 q.pct, .int .u64 (q.least : Nat), .int .u64 (q.live : Nat), .bool q.on, .int .u64 (q.est : Nat), .int .u64 (q.room : Nat), .int .u64 (q.credit : Nat), .int .u64 (q.done : Nat), .int .u64 (q.made : Nat), .slice A q.ds.length c] 25)) := b_r1.alloc (by first | omega | (simp only [World.size_alloc, size_ten]; omega)) _
    have bp := Ten.new w (.int .i64 q.pct) (.int .u64 (q.least : Nat)) (.int .u64 (q.live : Nat)) (.bool q.on) (.int .u64 (q.est : Nat)) (.int .u64 (q.room : Nat)) (.int .u64 (q.credit : Nat)) (.int .u64 (q.done : Nat)) (.int .u64 (q.made : Nat)) (.slice A q.ds.length c) 25
    (try simp only [World.size_alloc, size_ten] at bp)
    go_wp2_with fail
    go_at_call 15
    refine (HLv.out _).mono ?_
    rintro e w1 ⟨rfl, hb_w1⟩
    have s_w1 := hb_w1.size
    (try simp only [World.size_alloc, size_ten] at s_w1)
    have bp := bp.later hb_w1
    have bp_lt := bp.lt
    have b_r1 := below_trans b_r1 hb_w1 b_r1.size
    clear hb_w1
    obtain ⟨bp_0, bp_1, bp_2, bp_3, bp_4, bp_5, bp_6, bp_7, bp_8, bp_9, bp_f⟩ := id bp
    have bp := bp.later ((Below.refl _ _).alloc (Nat.le_refl _) (.cells #[.int .u64 (n : Nat)] 22))
    have b_r1 : Below w.heap.size w (w1.alloc (.cells #[.int .u64 (n : Nat)] 22)) := b_r1.alloc (by first | omega | (simp only [World.size_alloc, size_ten]; omega)) _
    go_wp2_with fail
    go_at_call 26
    refine (HW.out _ _ _ _ HE.out (by exact r1.later b_r1) (by exact row_one HNW.out rfl)).mono ?_
    rintro e w2 ⟨A2, c2, rfl, o_r2, hb_w2⟩
    clear bp_0 bp_1 bp_2 bp_3 bp_4 bp_5 bp_6 bp_7 bp_8 bp_9 bp_f
    have s_w2 := hb_w2.size
    (try simp only [World.size_alloc, size_ten] at s_w2)
    have bp := bp.later hb_w2
    have bp_lt := bp.lt
    have b_r1 := below_trans b_r1 hb_w2 b_r1.size
    clear hb_w2
    have r2 := o_r2.row
    have b_r2 := Below.refl w2.heap.size w2
    obtain ⟨bp_0, bp_1, bp_2, bp_3, bp_4, bp_5, bp_6, bp_7, bp_8, bp_9, bp_f⟩ := id bp
    have bp := bp.later ((Below.refl _ _).alloc (Nat.le_refl _) (.cells #[.int .i64 q.pct, .int .u64 (q.least : Nat), .int .u64 (q.live : Nat), .bool q.on, .int .u64 (q.est : Nat), .int .u64 (q.room : Nat), .int .u64 (q.credit : Nat), .int .u64 (q.done : Nat), .int .u64 (q.made : Nat), .slice A2 q.ds.length c2] 25))
    have b_r1 : Below w.heap.size w (w2.alloc (.cells #[.int .i64 q.pct, .int .u64 (q.least : Nat), .int .u64 (q.live : Nat), .bool q.on, .int .u64 (q.est : Nat), .int .u64 (q.room : Nat), .int .u64 (q.credit : Nat), .int .u64 (q.done : Nat), .int .u64 (q.made : Nat), .slice A2 q.ds.length c2] 25)) := b_r1.alloc (by first | omega | (simp only [World.size_alloc, size_ten]; omega)) _
    have b_r2 : Below w2.heap.size w2 (w2.alloc (.cells #[.int .i64 q.pct, .int .u64 (q.least : Nat), .int .u64 (q.live : Nat), .bool q.on, .int .u64 (q.est : Nat), .int .u64 (q.room : Nat), .int .u64 (q.credit : Nat), .int .u64 (q.done : Nat), .int .u64 (q.made : Nat), .slice A2 q.ds.length c2] 25)) := b_r2.alloc (by first | omega | (simp only [World.size_alloc, size_ten]; omega)) _
    have bq := Ten.new w2 (.int .i64 q.pct) (.int .u64 (q.least : Nat)) (.int .u64 (q.live : Nat)) (.bool q.on) (.int .u64 (q.est : Nat)) (.int .u64 (q.room : Nat)) (.int .u64 (q.credit : Nat)) (.int .u64 (q.done : Nat)) (.int .u64 (q.made : Nat)) (.slice A2 q.ds.length c2) 25
    (try simp only [World.size_alloc, size_ten] at bq)
    go_wp2_with fail
    go_at_call 16
    refine (HS.out _ _ _ (by exact r1.later b_r1) (by exact r2.later b_r2)).mono ?_
    rintro e w3 ⟨rfl, hb_w3⟩
    clear bp_0 bp_1 bp_2 bp_3 bp_4 bp_5 bp_6 bp_7 bp_8 bp_9 bp_f
    have s_w3 := hb_w3.size
    (try simp only [World.size_alloc, size_ten] at s_w3)
    have bp := bp.later hb_w3
    have bp_lt := bp.lt
    have bq := bq.later hb_w3
    have bq_lt := bq.lt
    have b_r1 := below_trans b_r1 hb_w3 b_r1.size
    have b_r2 := below_trans b_r2 hb_w3 b_r2.size
    clear hb_w3
    go_wp2
    go_ret
    exact ⟨rfl, b_r1⟩
  · have HK := Lib.hid hk
    have HC := Lib.hid fun (w : World) (A : Option Addr) (c : Nat) hr => pcheck_anyP (w := w) (p := wrk who p [n]) (A := A) c (wrk_ok hk ho who [n]).1.fit hr (by rw [(wrk_ok hk ho who [n]).2.2]; exact hl) 0 (.inl ⟨(wrk_ok hk ho who [n]).1, rfl⟩)
    obtain ⟨P, h1⟩ := one1 (n := n) hw1 hw2
    rw [← hq] at HC h1
    have H1 := Lib.hid h1
    clear h1 hm hq hk hf
    by_cases hg1 : 549755813888 < p.done
    · have g1 : decide ((549755813888 : Int) < (p.done : Int)) = true := by simp; omega
      clear hg1 hw1 hw2 ho
      go_enter Try.func7, Try.ntmps7
      have r1 := hr
      have b_r1 := Below.refl w.heap.size w
      have b_r1 : Below w.heap.size w (w.alloc (.cells #[.int .i64 p.pct, .int .u64 (p.least : Nat), .int .u64 (p.live : Nat), .bool p.on, .int .u64 (p.est : Nat), .int .u64 (p.room : Nat), .int .u64 (p.credit : Nat), .int .u64 (p.done : Nat), .int .u64 (p.made : Nat), .slice A p.ds.length c] 25)) := b_r1.alloc (by first | omega | (simp only [World.size_alloc, size_ten]; omega)) _
      have bp := Ten.new w (.int .i64 p.pct) (.int .u64 (p.least : Nat)) (.int .u64 (p.live : Nat)) (.bool p.on) (.int .u64 (p.est : Nat)) (.int .u64 (p.room : Nat)) (.int .u64 (p.credit : Nat)) (.int .u64 (p.done : Nat)) (.int .u64 (p.made : Nat)) (.slice A p.ds.length c) 25
      (try simp only [World.size_alloc, size_ten] at bp)
      go_wp2_with fail
      go_at_call 15
      refine (HLv.out _).mono ?_
      rintro e w1 ⟨rfl, hb_w1⟩
      have s_w1 := hb_w1.size
      (try simp only [World.size_alloc, size_ten] at s_w1)
      have bp := bp.later hb_w1
      have bp_lt := bp.lt
      have b_r1 := below_trans b_r1 hb_w1 b_r1.size
      clear hb_w1
      obtain ⟨bp_0, bp_1, bp_2, bp_3, bp_4, bp_5, bp_6, bp_7, bp_8, bp_9, bp_f⟩ := id bp
      have bp := bp.later ((Below.refl _ _).alloc (Nat.le_refl _) (.cells #[.int .u64 (n : Nat)] 22))
      have b_r1 : Below w.heap.size w (w1.alloc (.cells #[.int .u64 (n : Nat)] 22)) := b_r1.alloc (by first | omega | (simp only [World.size_alloc, size_ten]; omega)) _
      go_wp2_with fail
      go_at_call 26
      refine (HW.out _ _ _ _ HE.out (by exact r1.later b_r1) (by exact row_one HNW.out rfl)).mono ?_
      rintro e w2 ⟨A2, c2, rfl, o_r2, hb_w2⟩
      clear bp_0 bp_1 bp_2 bp_3 bp_4 bp_5 bp_6 bp_7 bp_8 bp_9 bp_f
      have s_w2 := hb_w2.size
      (try simp only [World.size_alloc, size_ten] at s_w2)
      have bp := bp.later hb_w2
      have bp_lt := bp.lt
      have b_r1 := below_trans b_r1 hb_w2 b_r1.size
      clear hb_w2
      have r2 := o_r2.row
      have b_r2 := Below.refl w2.heap.size w2
      obtain ⟨bp_0, bp_1, bp_2, bp_3, bp_4, bp_5, bp_6, bp_7, bp_8, bp_9, bp_f⟩ := id bp
      have bp := bp.later ((Below.refl _ _).alloc (Nat.le_refl _) (.cells #[.int .i64 q.pct, .int .u64 (q.least : Nat), .int .u64 (q.live : Nat), .bool q.on, .int .u64 (q.est : Nat), .int .u64 (q.room : Nat), .int .u64 (q.credit : Nat), .int .u64 (q.done : Nat), .int .u64 (q.made : Nat), .slice A2 q.ds.length c2] 25))
      have b_r1 : Below w.heap.size w (w2.alloc (.cells #[.int .i64 q.pct, .int .u64 (q.least : Nat), .int .u64 (q.live : Nat), .bool q.on, .int .u64 (q.est : Nat), .int .u64 (q.room : Nat), .int .u64 (q.credit : Nat), .int .u64 (q.done : Nat), .int .u64 (q.made : Nat), .slice A2 q.ds.length c2] 25)) := b_r1.alloc (by first | omega | (simp only [World.size_alloc, size_ten]; omega)) _
      have b_r2 : Below w2.heap.size w2 (w2.alloc (.cells #[.int .i64 q.pct, .int .u64 (q.least : Nat), .int .u64 (q.live : Nat), .bool q.on, .int .u64 (q.est : Nat), .int .u64 (q.room : Nat), .int .u64 (q.credit : Nat), .int .u64 (q.done : Nat), .int .u64 (q.made : Nat), .slice A2 q.ds.length c2] 25)) := b_r2.alloc (by first | omega | (simp only [World.size_alloc, size_ten]; omega)) _
      have bq := Ten.new w2 (.int .i64 q.pct) (.int .u64 (q.least : Nat)) (.int .u64 (q.live : Nat)) (.bool q.on) (.int .u64 (q.est : Nat)) (.int .u64 (q.room : Nat)) (.int .u64 (q.credit : Nat)) (.int .u64 (q.done : Nat)) (.int .u64 (q.made : Nat)) (.slice A2 q.ds.length c2) 25
      (try simp only [World.size_alloc, size_ten] at bq)
      go_wp2_with fail
      go_at_call 17
      refine (HC.out _ _ _ (by exact r2.later b_r2)).mono ?_
      rintro e w3 ⟨rfl, hb_w3⟩
      clear bp_0 bp_1 bp_2 bp_3 bp_4 bp_5 bp_6 bp_7 bp_8 bp_9 bp_f
      have s_w3 := hb_w3.size
      (try simp only [World.size_alloc, size_ten] at s_w3)
      have bp := bp.later hb_w3
      have bp_lt := bp.lt
      have bq := bq.later hb_w3
      have bq_lt := bq.lt
      have b_r1 := below_trans b_r1 hb_w3 b_r1.size
      have b_r2 := below_trans b_r2 hb_w3 b_r2.size
      clear hb_w3
      go_wp2
      go_ret
      exact ⟨rfl, b_r1⟩
    by_cases hg2 : 549755813888 < p.credit
    · have g1 : decide ((549755813888 : Int) < (p.done : Int)) = false := by simp; omega
      have g2 : decide ((549755813888 : Int) < (p.credit : Int)) = true := by simp; omega
      clear hg1 hg2 hw1 hw2 ho
      go_enter Try.func7, Try.ntmps7
      have r1 := hr
      have b_r1 := Below.refl w.heap.size w
      have b_r1 : Below w.heap.size w (w.alloc (.cells #[.int .i64 p.pct, .int .u64 (p.least : Nat), .int .u64 (p.live : Nat), .bool p.on, .int .u64 (p.est : Nat), .int .u64 (p.room : Nat), .int .u64 (p.credit : Nat), .int .u64 (p.done : Nat), .int .u64 (p.made : Nat), .slice A p.ds.length c] 25)) := b_r1.alloc (by first | omega | (simp only [World.size_alloc, size_ten]; omega)) _
      have bp := Ten.new w (.int .i64 p.pct) (.int .u64 (p.least : Nat)) (.int .u64 (p.live : Nat)) (.bool p.on) (.int .u64 (p.est : Nat)) (.int .u64 (p.room : Nat)) (.int .u64 (p.credit : Nat)) (.int .u64 (p.done : Nat)) (.int .u64 (p.made : Nat)) (.slice A p.ds.length c) 25
      (try simp only [World.size_alloc, size_ten] at bp)
      go_wp2_with fail
      go_at_call 15
      refine (HLv.out _).mono ?_
      rintro e w1 ⟨rfl, hb_w1⟩
      have s_w1 := hb_w1.size
      (try simp only [World.size_alloc, size_ten] at s_w1)
      have bp := bp.later hb_w1
      have bp_lt := bp.lt
      have b_r1 := below_trans b_r1 hb_w1 b_r1.size
      clear hb_w1
      obtain ⟨bp_0, bp_1, bp_2, bp_3, bp_4, bp_5, bp_6, bp_7, bp_8, bp_9, bp_f⟩ := id bp
      have bp := bp.later ((Below.refl _ _).alloc (Nat.le_refl _) (.cells #[.int .u64 (n : Nat)] 22))
      have b_r1 : Below w.heap.size w (w1.alloc (.cells #[.int .u64 (n : Nat)] 22)) := b_r1.alloc (by first | omega | (simp only [World.size_alloc, size_ten]; omega)) _
      go_wp2_with fail
      go_at_call 26
      refine (HW.out _ _ _ _ HE.out (by exact r1.later b_r1) (by exact row_one HNW.out rfl)).mono ?_
      rintro e w2 ⟨A2, c2, rfl, o_r2, hb_w2⟩
      clear bp_0 bp_1 bp_2 bp_3 bp_4 bp_5 bp_6 bp_7 bp_8 bp_9 bp_f
      have s_w2 := hb_w2.size
      (try simp only [World.size_alloc, size_ten] at s_w2)
      have bp := bp.later hb_w2
      have bp_lt := bp.lt
      have b_r1 := below_trans b_r1 hb_w2 b_r1.size
      clear hb_w2
      have r2 := o_r2.row
      have b_r2 := Below.refl w2.heap.size w2
      obtain ⟨bp_0, bp_1, bp_2, bp_3, bp_4, bp_5, bp_6, bp_7, bp_8, bp_9, bp_f⟩ := id bp
      have bp := bp.later ((Below.refl _ _).alloc (Nat.le_refl _) (.cells #[.int .i64 q.pct, .int .u64 (q.least : Nat), .int .u64 (q.live : Nat), .bool q.on, .int .u64 (q.est : Nat), .int .u64 (q.room : Nat), .int .u64 (q.credit : Nat), .int .u64 (q.done : Nat), .int .u64 (q.made : Nat), .slice A2 q.ds.length c2] 25))
      have b_r1 : Below w.heap.size w (w2.alloc (.cells #[.int .i64 q.pct, .int .u64 (q.least : Nat), .int .u64 (q.live : Nat), .bool q.on, .int .u64 (q.est : Nat), .int .u64 (q.room : Nat), .int .u64 (q.credit : Nat), .int .u64 (q.done : Nat), .int .u64 (q.made : Nat), .slice A2 q.ds.length c2] 25)) := b_r1.alloc (by first | omega | (simp only [World.size_alloc, size_ten]; omega)) _
      have b_r2 : Below w2.heap.size w2 (w2.alloc (.cells #[.int .i64 q.pct, .int .u64 (q.least : Nat), .int .u64 (q.live : Nat), .bool q.on, .int .u64 (q.est : Nat), .int .u64 (q.room : Nat), .int .u64 (q.credit : Nat), .int .u64 (q.done : Nat), .int .u64 (q.made : Nat), .slice A2 q.ds.length c2] 25)) := b_r2.alloc (by first | omega | (simp only [World.size_alloc, size_ten]; omega)) _
      have bq := Ten.new w2 (.int .i64 q.pct) (.int .u64 (q.least : Nat)) (.int .u64 (q.live : Nat)) (.bool q.on) (.int .u64 (q.est : Nat)) (.int .u64 (q.room : Nat)) (.int .u64 (q.credit : Nat)) (.int .u64 (q.done : Nat)) (.int .u64 (q.made : Nat)) (.slice A2 q.ds.length c2) 25
      (try simp only [World.size_alloc, size_ten] at bq)
      go_wp2_with fail
      go_at_call 17
      refine (HC.out _ _ _ (by exact r2.later b_r2)).mono ?_
      rintro e w3 ⟨rfl, hb_w3⟩
      clear bp_0 bp_1 bp_2 bp_3 bp_4 bp_5 bp_6 bp_7 bp_8 bp_9 bp_f
      have s_w3 := hb_w3.size
      (try simp only [World.size_alloc, size_ten] at s_w3)
      have bp := bp.later hb_w3
      have bp_lt := bp.lt
      have bq := bq.later hb_w3
      have bq_lt := bq.lt
      have b_r1 := below_trans b_r1 hb_w3 b_r1.size
      have b_r2 := below_trans b_r2 hb_w3 b_r2.size
      clear hb_w3
      go_wp2
      go_ret
      exact ⟨rfl, b_r1⟩
    by_cases hg3 : 274877906944 < n
    · have g1 : decide ((549755813888 : Int) < (p.done : Int)) = false := by simp; omega
      have g2 : decide ((549755813888 : Int) < (p.credit : Int)) = false := by simp; omega
      have g3 : decide ((274877906944 : Int) < (n : Int)) = true := by simp; omega
      clear hg1 hg2 hg3 hw1 hw2 ho
      go_enter Try.func7, Try.ntmps7
      have r1 := hr
      have b_r1 := Below.refl w.heap.size w
      have b_r1 : Below w.heap.size w (w.alloc (.cells #[.int .i64 p.pct, .int .u64 (p.least : Nat), .int .u64 (p.live : Nat), .bool p.on, .int .u64 (p.est : Nat), .int .u64 (p.room : Nat), .int .u64 (p.credit : Nat), .int .u64 (p.done : Nat), .int .u64 (p.made : Nat), .slice A p.ds.length c] 25)) := b_r1.alloc (by first | omega | (simp only [World.size_alloc, size_ten]; omega)) _
      have bp := Ten.new w (.int .i64 p.pct) (.int .u64 (p.least : Nat)) (.int .u64 (p.live : Nat)) (.bool p.on) (.int .u64 (p.est : Nat)) (.int .u64 (p.room : Nat)) (.int .u64 (p.credit : Nat)) (.int .u64 (p.done : Nat)) (.int .u64 (p.made : Nat)) (.slice A p.ds.length c) 25
      (try simp only [World.size_alloc, size_ten] at bp)
      go_wp2_with fail
      go_at_call 15
      refine (HLv.out _).mono ?_
      rintro e w1 ⟨rfl, hb_w1⟩
      have s_w1 := hb_w1.size
      (try simp only [World.size_alloc, size_ten] at s_w1)
      have bp := bp.later hb_w1
      have bp_lt := bp.lt
      have b_r1 := below_trans b_r1 hb_w1 b_r1.size
      clear hb_w1
      obtain ⟨bp_0, bp_1, bp_2, bp_3, bp_4, bp_5, bp_6, bp_7, bp_8, bp_9, bp_f⟩ := id bp
      have bp := bp.later ((Below.refl _ _).alloc (Nat.le_refl _) (.cells #[.int .u64 (n : Nat)] 22))
      have b_r1 : Below w.heap.size w (w1.alloc (.cells #[.int .u64 (n : Nat)] 22)) := b_r1.alloc (by first | omega | (simp only [World.size_alloc, size_ten]; omega)) _
      go_wp2_with fail
      go_at_call 26
      refine (HW.out _ _ _ _ HE.out (by exact r1.later b_r1) (by exact row_one HNW.out rfl)).mono ?_
      rintro e w2 ⟨A2, c2, rfl, o_r2, hb_w2⟩
      clear bp_0 bp_1 bp_2 bp_3 bp_4 bp_5 bp_6 bp_7 bp_8 bp_9 bp_f
      have s_w2 := hb_w2.size
      (try simp only [World.size_alloc, size_ten] at s_w2)
      have bp := bp.later hb_w2
      have bp_lt := bp.lt
      have b_r1 := below_trans b_r1 hb_w2 b_r1.size
      clear hb_w2
      have r2 := o_r2.row
      have b_r2 := Below.refl w2.heap.size w2
      obtain ⟨bp_0, bp_1, bp_2, bp_3, bp_4, bp_5, bp_6, bp_7, bp_8, bp_9, bp_f⟩ := id bp
      have bp := bp.later ((Below.refl _ _).alloc (Nat.le_refl _) (.cells #[.int .i64 q.pct, .int .u64 (q.least : Nat), .int .u64 (q.live : Nat), .bool q.on, .int .u64 (q.est : Nat), .int .u64 (q.room : Nat), .int .u64 (q.credit : Nat), .int .u64 (q.done : Nat), .int .u64 (q.made : Nat), .slice A2 q.ds.length c2] 25))
      have b_r1 : Below w.heap.size w (w2.alloc (.cells #[.int .i64 q.pct, .int .u64 (q.least : Nat), .int .u64 (q.live : Nat), .bool q.on, .int .u64 (q.est : Nat), .int .u64 (q.room : Nat), .int .u64 (q.credit : Nat), .int .u64 (q.done : Nat), .int .u64 (q.made : Nat), .slice A2 q.ds.length c2] 25)) := b_r1.alloc (by first | omega | (simp only [World.size_alloc, size_ten]; omega)) _
      have b_r2 : Below w2.heap.size w2 (w2.alloc (.cells #[.int .i64 q.pct, .int .u64 (q.least : Nat), .int .u64 (q.live : Nat), .bool q.on, .int .u64 (q.est : Nat), .int .u64 (q.room : Nat), .int .u64 (q.credit : Nat), .int .u64 (q.done : Nat), .int .u64 (q.made : Nat), .slice A2 q.ds.length c2] 25)) := b_r2.alloc (by first | omega | (simp only [World.size_alloc, size_ten]; omega)) _
      have bq := Ten.new w2 (.int .i64 q.pct) (.int .u64 (q.least : Nat)) (.int .u64 (q.live : Nat)) (.bool q.on) (.int .u64 (q.est : Nat)) (.int .u64 (q.room : Nat)) (.int .u64 (q.credit : Nat)) (.int .u64 (q.done : Nat)) (.int .u64 (q.made : Nat)) (.slice A2 q.ds.length c2) 25
      (try simp only [World.size_alloc, size_ten] at bq)
      go_wp2_with fail
      go_at_call 17
      refine (HC.out _ _ _ (by exact r2.later b_r2)).mono ?_
      rintro e w3 ⟨rfl, hb_w3⟩
      clear bp_0 bp_1 bp_2 bp_3 bp_4 bp_5 bp_6 bp_7 bp_8 bp_9 bp_f
      have s_w3 := hb_w3.size
      (try simp only [World.size_alloc, size_ten] at s_w3)
      have bp := bp.later hb_w3
      have bp_lt := bp.lt
      have bq := bq.later hb_w3
      have bq_lt := bq.lt
      have b_r1 := below_trans b_r1 hb_w3 b_r1.size
      have b_r2 := below_trans b_r2 hb_w3 b_r2.size
      clear hb_w3
      go_wp2
      go_ret
      exact ⟨rfl, b_r1⟩
    have g1 : decide ((549755813888 : Int) < (p.done : Int)) = false := by simp; omega
    have g2 : decide ((549755813888 : Int) < (p.credit : Int)) = false := by simp; omega
    have g3 : decide ((274877906944 : Int) < (n : Int)) = false := by simp; omega
    have HGn : Hid (n ≤ 274877906944) := Lib.hid (by omega)
    have HW2 := Lib.hid hw2
    have HDn := Lib.hid (H1.out.done (by omega) (by omega))
    have HCr := Lib.hid (H1.out.credit (by omega) (by omega))
    clear hg1 hg2 hg3 hw1 hw2 ho
    go_enter Try.func7, Try.ntmps7
    have r1 := hr
    have b_r1 := Below.refl w.heap.size w
    have b_r1 : Below w.heap.size w (w.alloc (.cells #[.int .i64 p.pct, .int .u64 (p.least : Nat), .int .u64 (p.live : Nat), .bool p.on, .int .u64 (p.est : Nat), .int .u64 (p.room : Nat), .int .u64 (p.credit : Nat), .int .u64 (p.done : Nat), .int .u64 (p.made : Nat), .slice A p.ds.length c] 25)) := b_r1.alloc (by first | omega | (simp only [World.size_alloc, size_ten]; omega)) _
    have bp := Ten.new w (.int .i64 p.pct) (.int .u64 (p.least : Nat)) (.int .u64 (p.live : Nat)) (.bool p.on) (.int .u64 (p.est : Nat)) (.int .u64 (p.room : Nat)) (.int .u64 (p.credit : Nat)) (.int .u64 (p.done : Nat)) (.int .u64 (p.made : Nat)) (.slice A p.ds.length c) 25
    (try simp only [World.size_alloc, size_ten] at bp)
    go_wp2_with fail
    go_at_call 15
    refine (HLv.out _).mono ?_
    rintro e w1 ⟨rfl, hb_w1⟩
    have s_w1 := hb_w1.size
    (try simp only [World.size_alloc, size_ten] at s_w1)
    have bp := bp.later hb_w1
    have bp_lt := bp.lt
    have b_r1 := below_trans b_r1 hb_w1 b_r1.size
    clear hb_w1
    obtain ⟨bp_0, bp_1, bp_2, bp_3, bp_4, bp_5, bp_6, bp_7, bp_8, bp_9, bp_f⟩ := id bp
    have bp := bp.later ((Below.refl _ _).alloc (Nat.le_refl _) (.cells #[.int .u64 (n : Nat)] 22))
    have b_r1 : Below w.heap.size w (w1.alloc (.cells #[.int .u64 (n : Nat)] 22)) := b_r1.alloc (by first | omega | (simp only [World.size_alloc, size_ten]; omega)) _
    go_wp2_with fail
    go_at_call 26
    refine (HW.out _ _ _ _ HE.out (by exact r1.later b_r1) (by exact row_one HNW.out rfl)).mono ?_
    rintro e w2 ⟨A2, c2, rfl, o_r2, hb_w2⟩
    clear bp_0 bp_1 bp_2 bp_3 bp_4 bp_5 bp_6 bp_7 bp_8 bp_9 bp_f
    have s_w2 := hb_w2.size
    (try simp only [World.size_alloc, size_ten] at s_w2)
    have bp := bp.later hb_w2
    have bp_lt := bp.lt
    have b_r1 := below_trans b_r1 hb_w2 b_r1.size
    clear hb_w2
    have r2 := o_r2.row
    have b_r2 := Below.refl w2.heap.size w2
    obtain ⟨bp_0, bp_1, bp_2, bp_3, bp_4, bp_5, bp_6, bp_7, bp_8, bp_9, bp_f⟩ := id bp
    have bp := bp.later ((Below.refl _ _).alloc (Nat.le_refl _) (.cells #[.int .i64 q.pct, .int .u64 (q.least : Nat), .int .u64 (q.live : Nat), .bool q.on, .int .u64 (q.est : Nat), .int .u64 (q.room : Nat), .int .u64 (q.credit : Nat), .int .u64 (q.done : Nat), .int .u64 (q.made : Nat), .slice A2 q.ds.length c2] 25))
    have b_r1 : Below w.heap.size w (w2.alloc (.cells #[.int .i64 q.pct, .int .u64 (q.least : Nat), .int .u64 (q.live : Nat), .bool q.on, .int .u64 (q.est : Nat), .int .u64 (q.room : Nat), .int .u64 (q.credit : Nat), .int .u64 (q.done : Nat), .int .u64 (q.made : Nat), .slice A2 q.ds.length c2] 25)) := b_r1.alloc (by first | omega | (simp only [World.size_alloc, size_ten]; omega)) _
    have b_r2 : Below w2.heap.size w2 (w2.alloc (.cells #[.int .i64 q.pct, .int .u64 (q.least : Nat), .int .u64 (q.live : Nat), .bool q.on, .int .u64 (q.est : Nat), .int .u64 (q.room : Nat), .int .u64 (q.credit : Nat), .int .u64 (q.done : Nat), .int .u64 (q.made : Nat), .slice A2 q.ds.length c2] 25)) := b_r2.alloc (by first | omega | (simp only [World.size_alloc, size_ten]; omega)) _
    have bq := Ten.new w2 (.int .i64 q.pct) (.int .u64 (q.least : Nat)) (.int .u64 (q.live : Nat)) (.bool q.on) (.int .u64 (q.est : Nat)) (.int .u64 (q.room : Nat)) (.int .u64 (q.credit : Nat)) (.int .u64 (q.done : Nat)) (.int .u64 (q.made : Nat)) (.slice A2 q.ds.length c2) 25
    (try simp only [World.size_alloc, size_ten] at bq)
    go_wp2_with fail
    have hsz := Nat.le_refl ((w2.alloc (.cells #[.int .i64 q.pct, .int .u64 (q.least : Nat), .int .u64 (q.live : Nat), .bool q.on, .int .u64 (q.est : Nat), .int .u64 (q.room : Nat), .int .u64 (q.credit : Nat), .int .u64 (q.done : Nat), .int .u64 (q.made : Nat), .slice A2 q.ds.length c2] 25))).heap.size
    generalize hW0 : (w2.alloc (.cells #[.int .i64 q.pct, .int .u64 (q.least : Nat), .int .u64 (q.live : Nat), .bool q.on, .int .u64 (q.est : Nat), .int .u64 (q.room : Nat), .int .u64 (q.credit : Nat), .int .u64 (q.done : Nat), .int .u64 (q.made : Nat), .slice A2 q.ds.length c2] 25)) = W at *
    clear hsz hW0
    obtain ⟨xp0, xp1, xp2, xp3, xp4, xp5, xp6, xp7, xp8, xp9, xpf⟩ := id bp
    have rA := r1.later b_r1
    have rB := r2.later b_r2
    go_loopw [9, 48] (fun ss ii wr => ∃ k : Nat, ss = .int .u64 (payW who P k : Nat) ∧ ii = .int .i64 (k : Nat) ∧ k ≤ p.ds.length ∧ Hid (Below W.heap.size W wr)) (fun _ ii _ => p.ds.length - (intOf ii).toNat)
    case atStart => exact ⟨0, by rw [show payW who P 0 = 0 by unfold payW; rw [if_neg (by omega)]]; rfl, rfl, Nat.zero_le _, Lib.hid (Below.refl _ _)⟩
    case round =>
      obtain ⟨k, rfl, rfl, hkl, HB⟩ := hrel
      have tp := bp.later HB.out
      have tq := bq.later HB.out
      have tp_lt := tp.lt
      have tq_lt := tq.lt
      obtain ⟨yp0, yp1, yp2, yp3, yp4, yp5, yp6, yp7, yp8, yp9, ypf⟩ := id tp
      obtain ⟨yq0, yq1, yq2, yq3, yq4, yq5, yq6, yq7, yq8, yq9, yqf⟩ := id tq
      by_cases hlt : k < p.ds.length
      · obtain ⟨ga, oa, rfl, hga, ca⟩ := (rA.later HB.out).cellAt (k := k) hlt
        obtain ⟨gb, ob, rfl, hgb, cb⟩ := (rB.later HB.out).cellAt (k := k) (by rw [H1.out.len]; exact hlt)
        have i1 : (k : Int) < (p.ds.length : Int) := by omega
        have i2 : (0 : Int) ≤ (k : Int) := by omega
        have i3 : (k : Int) < (q.ds.length : Int) := by rw [H1.out.len]; exact i1
        have hD : p.ds.getD k 0 = q.ds.getD k 0 + (if (k : Int) = who then P else 0) := by
          by_cases h : (k : Int) = who
          · rw [if_pos h]; exact H1.out.eq k hlt h
          · rw [if_neg h, H1.out.ne k hlt h]; rfl
        have hS : payW who P (k + 1) = payW who P k + (if (k : Int) = who then P else 0) := payW_next
        have hDM : p.ds.getD k 0 ≤ 1099511627776 := by rw [getD_get _ _ hlt]; exact HK.out.ds _ (List.getElem_mem hlt)
        have hSM : payW who P k ≤ 1099511627776 := by unfold payW; have := H1.out.le; have := HGn.out; split <;> omega
        generalize payW who P k = s at *
        obtain ⟨s2, hs2⟩ : ∃ s2, Hid (payW who P (k + 1) = s2) := ⟨_, rfl⟩
        rw [hs2.out] at hS
        obtain ⟨D, hDD⟩ : ∃ D, Hid (p.ds.getD k 0 = D) := ⟨_, rfl⟩
        obtain ⟨E, hEE⟩ : ∃ E, Hid (q.ds.getD k 0 = E) := ⟨_, rfl⟩
        rw [hDD.out] at ca hD hDM
        rw [hEE.out] at cb hD
        by_cases hkw : (k : Int) = who
        · rw [if_pos hkw] at hD hS
          have f1 : ((k : Int) != who) = false := by simpa using hkw
          have e1 : IntKind.u64.wrap ((D : Int) - (E : Int)) = (P : Int) := by rw [IntKind.wrap_u64]; omega
          have e2 : IntKind.u64.wrap ((s : Int) + (P : Int)) = (s2 : Int) := by rw [IntKind.wrap_u64]; have := H1.out.le; have := HGn.out; omega
          have e3 : (D : Int) - (E : Int) = (P : Int) := by omega
          have e4 : (s : Int) + (P : Int) = (s2 : Int) := by omega
          clear hD hS hkw
          go_wp2_with fail
          go_quiet (fail)
          go_wp2_with fail
          go_quiet (fail)
          go_wp2
          go_roundw
          case rel => exact ⟨k + 1, by rw [hs2.out], by go_num, by omega, Lib.hid (below_drewN HB.out _)⟩
          case measure => simp [intOf]; omega
        · rw [if_neg hkw] at hD hS
          obtain rfl : s2 = s := by omega
          obtain rfl : D = E := by omega
          have f1 : ((k : Int) != who) = true := by simpa using hkw
          have f2 : ((D : Int) != (D : Int)) = false := by simp
          have e1 : IntKind.u64.wrap ((D : Int) - (D : Int)) = 0 := by rw [IntKind.wrap_u64]; omega
          clear hD hS hkw
          go_wp2_with fail
          go_quiet (fail)
          go_wp2_with fail
          go_quiet (fail)
          go_wp2
          go_roundw
          case rel => exact ⟨k + 1, by rw [hs2.out], by go_num, by omega, Lib.hid (below_drewN HB.out _)⟩
          case measure => simp [intOf]; omega
      · obtain rfl : k = p.ds.length := by omega
        have hPP : payW who P p.ds.length = P := by
          unfold payW
          by_cases h : 0 ≤ who
          · rw [if_pos ⟨h, HW2.out⟩]
          · rw [if_neg (by omega), H1.out.neg h]
        have e1 : IntKind.u64.wrap ((q.done : Int) - (p.done : Int)) = (n : Int) := by rw [IntKind.wrap_u64]; have := HDn.out; have := HGn.out; omega
        have e2 : (q.done : Int) - (p.done : Int) = (n : Int) := by have := HDn.out; omega
        obtain ⟨R, hR⟩ : ∃ R, n - P = R := ⟨_, rfl⟩
        have e3 : IntKind.u64.wrap ((q.credit : Int) - (p.credit : Int)) = (R : Int) := by rw [IntKind.wrap_u64]; have := HCr.out; have := HGn.out; omega
        have e4 : (q.credit : Int) - (p.credit : Int) = (R : Int) := by have := HCr.out; omega
        have e5 : IntKind.u64.wrap ((R : Int) + (P : Int)) = (n : Int) := by rw [IntKind.wrap_u64]; have := H1.out.le; have := HGn.out; omega
        have e6 : (R : Int) + (P : Int) = (n : Int) := by have := H1.out.le; omega
        have e7 : IntKind.u64.wrap (n : Int) = (n : Int) := by rw [IntKind.wrap_u64]; have := HGn.out; omega
        have e8 : IntKind.u64.wrap (R : Int) = (R : Int) := by rw [IntKind.wrap_u64]; have := HGn.out; omega
        rw [hPP]
        clear hPP hR
        go_wp2_with fail
        go_at_call 17
        refine (HC.out _ _ _ (by exact rB.later HB.out)).mono ?_
        rintro e w9 ⟨rfl, hb_w9⟩
        go_wp2
        go_ret
        exact ⟨rfl, below_trans b_r1 (below_trans HB.out hb_w9 HB.out.size) b_r1.size⟩
end
end Go.Proofs.Ytkdbcoibapcmjaa
