/- The walks of PaceOrder and PaceDoes. -/
import Derived.Test.YtkdbcoibapcmjaaN25
namespace Go.Proofs.Ytkdbcoibapcmjaa
open Go.RowKit
set_option linter.unusedVariables false
set_option linter.unusedSimpArgs false
set_option maxRecDepth 100000

theorem zero_len (n : Nat) : Pc.zero.ds.length ≤ n := by simp [Pc.zero]
theorem begE_len {p : Pc} {n : Nat} {q : Pc} {y : Int} (h : BegE p n q y) {m : Nat} (hl : p.ds.length ≤ m) : q.ds.length ≤ m := by
  rcases h with ⟨_, rfl, _⟩ | ⟨_, _, rfl, _⟩ | ⟨_, _, _, rfl, _⟩ | ⟨_, _, _, rfl, _⟩
  · exact zero_len _
  · exact hl
  · exact hl
  · exact hl
theorem endE_len {p : Pc} {n : Nat} {q : Pc} {y : Int} (h : EndE p n q y) {m : Nat} (hl : p.ds.length ≤ m) : q.ds.length ≤ m := by
  rcases h with ⟨_, rfl, _⟩ | ⟨_, _, rfl, _⟩ | ⟨_, _, _, rfl, _⟩ | ⟨_, _, _, rfl, _⟩
  · exact zero_len _
  · exact hl
  · exact hl
  · simp only [endP, List.length_replicate]; exact hl
theorem allE_len {p : Pc} {who : Int} {n : Nat} {q : Pc} {o : Nat} {y : Int} (h : AllE p who n q o y) {m : Nat} (hl : p.ds.length ≤ m) : q.ds.length ≤ m := by
  rcases h with ⟨_, rfl, _, _⟩ | ⟨_, _, rfl, _, _⟩ | ⟨_, _, _, _, rfl, _, _⟩ | ⟨_, _, _, _, _, rfl, _, _⟩ | ⟨k, _, _, _, _, _, rfl, _, _⟩
  · exact zero_len _
  · exact hl
  · exact hl
  · exact hl
  · simp only [allP, List.length_set]; exact hl
theorem wrkE_len {p : Pc} {who : Int} {l : List Nat} {q : Pc} {y : Int} (h : WrkE p who l q y) {m : Nat} (hl : p.ds.length ≤ m) : q.ds.length ≤ m := by
  rcases h with ⟨_, rfl, _⟩ | ⟨_, _, rfl, _⟩ | ⟨_, _, _, _, rfl, _⟩ | ⟨_, _, _, _, _, rfl, _⟩ | ⟨hk, _, _, ho, _, rfl, _⟩
  · exact zero_len _
  · exact hl
  · exact hl
  · exact hl
  · rw [(wrk_ok hk ho _ _).2.2]; exact hl
section
variable {w : World} {p : Pc} {A : Option Addr} (c : Nat)
set_option maxHeartbeats 4000000 in
theorem paceOrder_walk (hf : FitP p) (hr : Row w w.heap.size A p.ds) (hl : p.ds.length ≤ 17592186044416) (heap : Nat) :
    Calls Try.prog 5 #[(.agg #[.int .i64 p.pct, .int .u64 (p.least : Nat), .int .u64 (p.live : Nat), .bool p.on, .int .u64 (p.est : Nat), .int .u64 (p.room : Nat), .int .u64 (p.credit : Nat), .int .u64 (p.done : Nat), .int .u64 (p.made : Nat), .slice A p.ds.length c]), .int .u64 (heap : Nat)] w fun e w' => e = .returned (.bool true) ∧ Below w.heap.size w w' := by
  have HLv := Lib.hid plives_any
  by_cases hk : OkP p
  · have HG := Lib.hid fun (w : World) hr => pgoalX_any (w := w) (p := p) (A := A) c hf hr hl _ _ _ (.inl ⟨hk, rfl, rfl, rfl⟩)
    have HD := Lib.hid fun (w : World) hr (heap : Nat) => pdue_any (w := w) (p := p) (A := A) c hf hr hl heap _ _ (.inl ⟨hk, rfl, rfl⟩)
    have t1 := trigP_le hk; have t2 := trigP_live p; have t3 := goalP_least hk
    generalize goalP p = g at *
    generalize trigP p = t at *
    clear hk hf
    obtain ⟨pct, least, live, on, est, room, credit, done, made, ds⟩ := p
    simp only at *
    have d1 : decide (t ≤ g) = true := by simpa using t1
    have d2 : decide (live ≤ t) = true := by simpa using t2
    have d3 : decide (least ≤ g) = true := by simpa using t3
    cases on
    · by_cases h : t ≤ heap
      · have d4 : decide (t ≤ heap) = true := by simpa using h
        go_enter Try.func5, Try.ntmps5
        have r1 := hr
        have b_r1 := Below.refl w.heap.size w
        have b_r1 : Below w.heap.size w (w.alloc (.cells #[.int .i64 pct, .int .u64 (least : Nat), .int .u64 (live : Nat), .bool false, .int .u64 (est : Nat), .int .u64 (room : Nat), .int .u64 (credit : Nat), .int .u64 (done : Nat), .int .u64 (made : Nat), .slice A ds.length c] 25)) := b_r1.alloc (by first | omega | (simp only [World.size_alloc, size_ten]; omega)) _
        have bp := Ten.new w (.int .i64 pct) (.int .u64 (least : Nat)) (.int .u64 (live : Nat)) (.bool false) (.int .u64 (est : Nat)) (.int .u64 (room : Nat)) (.int .u64 (credit : Nat)) (.int .u64 (done : Nat)) (.int .u64 (made : Nat)) (.slice A ds.length c) 25
        (try simp only [World.size_alloc, size_ten] at bp)
        go_wp2_with fail
        go_at_call 15
        refine (HLv.out _).mono ?_
        rintro e w1 ⟨rfl, hb_w1⟩
        have s_w1 := hb_w1.size
        (try simp only [World.size_alloc, size_ten] at s_w1)
        have bp := bp.later hb_w1
        have bp_lt := bp.lt
        have b_r1 := below_trans b_r1 hb_w1 b_r1.size
        clear hb_w1
        obtain ⟨bp_0, bp_1, bp_2, bp_3, bp_4, bp_5, bp_6, bp_7, bp_8, bp_9, bp_f⟩ := id bp
        go_wp2_with fail
        go_at_call 9
        refine (HG.out _ (by exact r1.later b_r1)).mono ?_
        rintro e w2 ⟨rfl, hb_w2⟩
        clear bp_0 bp_1 bp_2 bp_3 bp_4 bp_5 bp_6 bp_7 bp_8 bp_9 bp_f
        have s_w2 := hb_w2.size
        (try simp only [World.size_alloc, size_ten] at s_w2)
        have bp := bp.later hb_w2
        have bp_lt := bp.lt
        have b_r1 := below_trans b_r1 hb_w2 b_r1.size
        clear hb_w2
        obtain ⟨bp_0, bp_1, bp_2, bp_3, bp_4, bp_5, bp_6, bp_7, bp_8, bp_9, bp_f⟩ := id bp
        go_wp2_with fail
        go_at_call 11
        refine (HD.out _ (by exact r1.later b_r1) heap).mono ?_
        rintro e w3 ⟨rfl, hb_w3⟩
        clear bp_0 bp_1 bp_2 bp_3 bp_4 bp_5 bp_6 bp_7 bp_8 bp_9 bp_f
        have s_w3 := hb_w3.size
        (try simp only [World.size_alloc, size_ten] at s_w3)
        have bp := bp.later hb_w3
        have bp_lt := bp.lt
        have b_r1 := below_trans b_r1 hb_w3 b_r1.size
        clear hb_w3
        obtain ⟨bp_0, bp_1, bp_2, bp_3, bp_4, bp_5, bp_6, bp_7, bp_8, bp_9, bp_f⟩ := id bp
        go_wp2_with fail
        go_at_call 11
        refine (HD.out _ (by exact r1.later b_r1) g).mono ?_
        rintro e w4 ⟨rfl, hb_w4⟩
        clear bp_0 bp_1 bp_2 bp_3 bp_4 bp_5 bp_6 bp_7 bp_8 bp_9 bp_f
        have s_w4 := hb_w4.size
        (try simp only [World.size_alloc, size_ten] at s_w4)
        have bp := bp.later hb_w4
        have bp_lt := bp.lt
        have b_r1 := below_trans b_r1 hb_w4 b_r1.size
        clear hb_w4
        obtain ⟨bp_0, bp_1, bp_2, bp_3, bp_4, bp_5, bp_6, bp_7, bp_8, bp_9, bp_f⟩ := id bp
        go_wp2
        go_ret
        exact ⟨rfl, b_r1⟩
      · have d4 : decide (t ≤ heap) = false := by simpa using h
        go_enter Try.func5, Try.ntmps5
        have r1 := hr
        have b_r1 := Below.refl w.heap.size w
        have b_r1 : Below w.heap.size w (w.alloc (.cells #[.int .i64 pct, .int .u64 (least : Nat), .int .u64 (live : Nat), .bool false, .int .u64 (est : Nat), .int .u64 (room : Nat), .int .u64 (credit : Nat), .int .u64 (done : Nat), .int .u64 (made : Nat), .slice A ds.length c] 25)) := b_r1.alloc (by first | omega | (simp only [World.size_alloc, size_ten]; omega)) _
        have bp := Ten.new w (.int .i64 pct) (.int .u64 (least : Nat)) (.int .u64 (live : Nat)) (.bool false) (.int .u64 (est : Nat)) (.int .u64 (room : Nat)) (.int .u64 (credit : Nat)) (.int .u64 (done : Nat)) (.int .u64 (made : Nat)) (.slice A ds.length c) 25
        (try simp only [World.size_alloc, size_ten] at bp)
        go_wp2_with fail
        go_at_call 15
        refine (HLv.out _).mono ?_
        rintro e w1 ⟨rfl, hb_w1⟩
        have s_w1 := hb_w1.size
        (try simp only [World.size_alloc, size_ten] at s_w1)
        have bp := bp.later hb_w1
        have bp_lt := bp.lt
        have b_r1 := below_trans b_r1 hb_w1 b_r1.size
        clear hb_w1
        obtain ⟨bp_0, bp_1, bp_2, bp_3, bp_4, bp_5, bp_6, bp_7, bp_8, bp_9, bp_f⟩ := id bp
        go_wp2_with fail
        go_at_call 9
        refine (HG.out _ (by exact r1.later b_r1)).mono ?_
        rintro e w2 ⟨rfl, hb_w2⟩
        clear bp_0 bp_1 bp_2 bp_3 bp_4 bp_5 bp_6 bp_7 bp_8 bp_9 bp_f
        have s_w2 := hb_w2.size
        (try simp only [World.size_alloc, size_ten] at s_w2)
        have bp := bp.later hb_w2
        have bp_lt := bp.lt
        have b_r1 := below_trans b_r1 hb_w2 b_r1.size
        clear hb_w2
        obtain ⟨bp_0, bp_1, bp_2, bp_3, bp_4, bp_5, bp_6, bp_7, bp_8, bp_9, bp_f⟩ := id bp
        go_wp2_with fail
        go_at_call 11
        refine (HD.out _ (by exact r1.later b_r1) heap).mono ?_
        rintro e w3 ⟨rfl, hb_w3⟩
        clear bp_0 bp_1 bp_2 bp_3 bp_4 bp_5 bp_6 bp_7 bp_8 bp_9 bp_f
        have s_w3 := hb_w3.size
        (try simp only [World.size_alloc, size_ten] at s_w3)
        have bp := bp.later hb_w3
        have bp_lt := bp.lt
        have b_r1 := below_trans b_r1 hb_w3 b_r1.size
        clear hb_w3
        obtain ⟨bp_0, bp_1, bp_2, bp_3, bp_4, bp_5, bp_6, bp_7, bp_8, bp_9, bp_f⟩ := id bp
        go_wp2_with fail
        go_at_call 11
        refine (HD.out _ (by exact r1.later b_r1) g).mono ?_
        rintro e w4 ⟨rfl, hb_w4⟩
        clear bp_0 bp_1 bp_2 bp_3 bp_4 bp_5 bp_6 bp_7 bp_8 bp_9 bp_f
        have s_w4 := hb_w4.size
        (try simp only [World.size_alloc, size_ten] at s_w4)
        have bp := bp.later hb_w4
        have bp_lt := bp.lt
        have b_r1 := below_trans b_r1 hb_w4 b_r1.size
        clear hb_w4
        obtain ⟨bp_0, bp_1, bp_2, bp_3, bp_4, bp_5, bp_6, bp_7, bp_8, bp_9, bp_f⟩ := id bp
        go_wp2
        go_ret
        exact ⟨rfl, b_r1⟩
    · have d4 : True := trivial
      go_enter Try.func5, Try.ntmps5
      have r1 := hr
      have b_r1 := Below.refl w.heap.size w
      have b_r1 : Below w.heap.size w (w.alloc (.cells #[.int .i64 pct, .int .u64 (least : Nat), .int .u64 (live : Nat), .bool true, .int .u64 (est : Nat), .int .u64 (room : Nat), .int .u64 (credit : Nat), .int .u64 (done : Nat), .int .u64 (made : Nat), .slice A ds.length c] 25)) := b_r1.alloc (by first | omega | (simp only [World.size_alloc, size_ten]; omega)) _
      have bp := Ten.new w (.int .i64 pct) (.int .u64 (least : Nat)) (.int .u64 (live : Nat)) (.bool true) (.int .u64 (est : Nat)) (.int .u64 (room : Nat)) (.int .u64 (credit : Nat)) (.int .u64 (done : Nat)) (.int .u64 (made : Nat)) (.slice A ds.length c) 25
      (try simp only [World.size_alloc, size_ten] at bp)
      go_wp2_with fail
      go_at_call 15
      refine (HLv.out _).mono ?_
      rintro e w1 ⟨rfl, hb_w1⟩
      have s_w1 := hb_w1.size
      (try simp only [World.size_alloc, size_ten] at s_w1)
      have bp := bp.later hb_w1
      have bp_lt := bp.lt
      have b_r1 := below_trans b_r1 hb_w1 b_r1.size
      clear hb_w1
      obtain ⟨bp_0, bp_1, bp_2, bp_3, bp_4, bp_5, bp_6, bp_7, bp_8, bp_9, bp_f⟩ := id bp
      go_wp2_with fail
      go_at_call 9
      refine (HG.out _ (by exact r1.later b_r1)).mono ?_
      rintro e w2 ⟨rfl, hb_w2⟩
      clear bp_0 bp_1 bp_2 bp_3 bp_4 bp_5 bp_6 bp_7 bp_8 bp_9 bp_f
      have s_w2 := hb_w2.size
      (try simp only [World.size_alloc, size_ten] at s_w2)
      have bp := bp.later hb_w2
      have bp_lt := bp.lt
      have b_r1 := below_trans b_r1 hb_w2 b_r1.size
      clear hb_w2
      obtain ⟨bp_0, bp_1, bp_2, bp_3, bp_4, bp_5, bp_6, bp_7, bp_8, bp_9, bp_f⟩ := id bp
      go_wp2_with fail
      go_at_call 11
      refine (HD.out _ (by exact r1.later b_r1) heap).mono ?_
      rintro e w3 ⟨rfl, hb_w3⟩
      clear bp_0 bp_1 bp_2 bp_3 bp_4 bp_5 bp_6 bp_7 bp_8 bp_9 bp_f
      have s_w3 := hb_w3.size
      (try simp only [World.size_alloc, size_ten] at s_w3)
      have bp := bp.later hb_w3
      have bp_lt := bp.lt
      have b_r1 := below_trans b_r1 hb_w3 b_r1.size
      clear hb_w3
      obtain ⟨bp_0, bp_1, bp_2, bp_3, bp_4, bp_5, bp_6, bp_7, bp_8, bp_9, bp_f⟩ := id bp
      go_wp2_with fail
      go_at_call 11
      refine (HD.out _ (by exact r1.later b_r1) g).mono ?_
      rintro e w4 ⟨rfl, hb_w4⟩
      clear bp_0 bp_1 bp_2 bp_3 bp_4 bp_5 bp_6 bp_7 bp_8 bp_9 bp_f
      have s_w4 := hb_w4.size
      (try simp only [World.size_alloc, size_ten] at s_w4)
      have bp := bp.later hb_w4
      have bp_lt := bp.lt
      have b_r1 := below_trans b_r1 hb_w4 b_r1.size
      clear hb_w4
      obtain ⟨bp_0, bp_1, bp_2, bp_3, bp_4, bp_5, bp_6, bp_7, bp_8, bp_9, bp_f⟩ := id bp
      go_wp2
      go_ret
      exact ⟨rfl, b_r1⟩
  · have HG := Lib.hid fun (w : World) hr => pgoalX_any (w := w) (p := p) (A := A) c hf hr hl _ _ _ (.inr ⟨hk, rfl, rfl, rfl⟩)
    clear hk hf
    obtain ⟨pct, least, live, on, est, room, credit, done, made, ds⟩ := p
    simp only at *
    go_enter Try.func5, Try.ntmps5
    have r1 := hr
    have b_r1 := Below.refl w.heap.size w
    have b_r1 : Below w.heap.size w (w.alloc (.cells #[.int .i64 pct, .int .u64 (least : Nat), .int .u64 (live : Nat), .bool on, .int .u64 (est : Nat), .int .u64 (room : Nat), .int .u64 (credit : Nat), .int .u64 (done : Nat), .int .u64 (made : Nat), .slice A ds.length c] 25)) := b_r1.alloc (by first | omega | (simp only [World.size_alloc, size_ten]; omega)) _
    have bp := Ten.new w (.int .i64 pct) (.int .u64 (least : Nat)) (.int .u64 (live : Nat)) (.bool on) (.int .u64 (est : Nat)) (.int .u64 (room : Nat)) (.int .u64 (credit : Nat)) (.int .u64 (done : Nat)) (.int .u64 (made : Nat)) (.slice A ds.length c) 25
    (try simp only [World.size_alloc, size_ten] at bp)
    go_wp2_with fail
    go_at_call 15
    refine (HLv.out _).mono ?_
    rintro e w1 ⟨rfl, hb_w1⟩
    have s_w1 := hb_w1.size
    (try simp only [World.size_alloc, size_ten] at s_w1)
    have bp := bp.later hb_w1
    have bp_lt := bp.lt
    have b_r1 := below_trans b_r1 hb_w1 b_r1.size
    clear hb_w1
    obtain ⟨bp_0, bp_1, bp_2, bp_3, bp_4, bp_5, bp_6, bp_7, bp_8, bp_9, bp_f⟩ := id bp
    go_wp2_with fail
    go_at_call 9
    refine (HG.out _ (by exact r1.later b_r1)).mono ?_
    rintro e w2 ⟨rfl, hb_w2⟩
    clear bp_0 bp_1 bp_2 bp_3 bp_4 bp_5 bp_6 bp_7 bp_8 bp_9 bp_f
    have s_w2 := hb_w2.size
    (try simp only [World.size_alloc, size_ten] at s_w2)
    have bp := bp.later hb_w2
    have bp_lt := bp.lt
    have b_r1 := below_trans b_r1 hb_w2 b_r1.size
    clear hb_w2
    obtain ⟨bp_0, bp_1, bp_2, bp_3, bp_4, bp_5, bp_6, bp_7, bp_8, bp_9, bp_f⟩ := id bp
    go_wp2
    go_ret
    exact ⟨rfl, b_r1⟩
set_option maxHeartbeats 8000000 in
theorem paceDoes_walk {S : Option Addr} {l : List Nat} (cl : Nat) (hf : FitP p) (hr : Row w w.heap.size A p.ds) (hl : p.ds.length ≤ 17592186044416) (n : Nat) (who : Int) (words : Nat) (hs : Row w w.heap.size S l) (hsl : l.length ≤ 17592186044416) :
    Calls Try.prog 4 #[(.agg #[.int .i64 p.pct, .int .u64 (p.least : Nat), .int .u64 (p.live : Nat), .bool p.on, .int .u64 (p.est : Nat), .int .u64 (p.room : Nat), .int .u64 (p.credit : Nat), .int .u64 (p.done : Nat), .int .u64 (p.made : Nat), .slice A p.ds.length c]), .int .u64 (n : Nat), .int .i64 who, .int .u64 (words : Nat), .slice S l.length cl] w fun e w' => e = .returned (.bool true) ∧ Below w.heap.size w w' := by
  have HLv := Lib.hid plives_any
  have HC := Lib.hid fun (w : World) hr => xpcopy_any (w := w) (p := p) (A := A) c hr hl
  have HS := Lib.hid fun (w : World) (q : Pc) (A C : Option Addr) (c cc : Nat) hr hq hl => xpsame_ok (w := w) (p := q) (A := A) (C := C) c cc hr hq hl
  obtain ⟨q1, y1, E1⟩ := BegE.ex p n
  obtain ⟨q2, y2, E2⟩ := EndE.ex p n
  obtain ⟨q3, o3, y3, E3⟩ := AllE.ex p who words
  obtain ⟨q4, y4, E4⟩ := WrkE.ex p who l
  have H1 := Lib.hid fun (w : World) (A : Option Addr) (c : Nat) hr hn => pbeginX_any (w := w) (p := p) (A := A) c hf hr hl hn n q1 y1 E1
  have X1 := Lib.hid fun (w : World) hr => xpbegin_any (w := w) (p := p) (A := A) c hf hr hl n q1 y1 E1
  have H2 := Lib.hid fun (w : World) (A : Option Addr) (c : Nat) hr hn => pendX_any (w := w) (p := p) (A := A) c hf hr hl hn n q2 y2 E2
  have X2 := Lib.hid fun (w : World) hr => xpend_any (w := w) (p := p) (A := A) c hf hr hl n q2 y2 E2
  have H3 := Lib.hid fun (w : World) (A : Option Addr) (c : Nat) hr hn => pallocX_any (w := w) (p := p) (A := A) c hf hr hl hn who words q3 o3 y3 E3
  have X3 := Lib.hid fun (w : World) hr => xpalloc_any (w := w) (p := p) (A := A) c hf hr hl who words q3 o3 y3 E3
  have H4 := Lib.hid fun (w : World) (A : Option Addr) (c : Nat) hr hn hs => pworkX_any (w := w) (p := p) (A := A) (S := S) (l := l) c cl hf hr hl hn hs hsl who q4 y4 E4
  have X4 := Lib.hid fun (w : World) hr hs => xpwork_any (w := w) (p := p) (A := A) (S := S) (l := l) c cl hf hr hl hs hsl who q4 y4 E4
  have l1 := begE_len E1 hl; have l2 := endE_len E2 hl; have l3 := allE_len E3 hl; have l4 := wrkE_len E4 hl
  clear E1 E2 E3 E4 hf
  go_enter Try.func4, Try.ntmps4
  have r1 := hr
  have b_r1 := Below.refl w.heap.size w
  have rs := hs
  have b_rs := Below.refl w.heap.size w
  have b_r1 : Below w.heap.size w (w.alloc (.cells #[.int .i64 p.pct, .int .u64 (p.least : Nat), .int .u64 (p.live : Nat), .bool p.on, .int .u64 (p.est : Nat), .int .u64 (p.room : Nat), .int .u64 (p.credit : Nat), .int .u64 (p.done : Nat), .int .u64 (p.made : Nat), .slice A p.ds.length c] 25)) := b_r1.alloc (by first | omega | (simp only [World.size_alloc, size_ten]; omega)) _
  have b_rs : Below w.heap.size w (w.alloc (.cells #[.int .i64 p.pct, .int .u64 (p.least : Nat), .int .u64 (p.live : Nat), .bool p.on, .int .u64 (p.est : Nat), .int .u64 (p.room : Nat), .int .u64 (p.credit : Nat), .int .u64 (p.done : Nat), .int .u64 (p.made : Nat), .slice A p.ds.length c] 25)) := b_rs.alloc (by first | omega | (simp only [World.size_alloc, size_ten]; omega)) _
  have bp := Ten.new w (.int .i64 p.pct) (.int .u64 (p.least : Nat)) (.int .u64 (p.live : Nat)) (.bool p.on) (.int .u64 (p.est : Nat)) (.int .u64 (p.room : Nat)) (.int .u64 (p.credit : Nat)) (.int .u64 (p.done : Nat)) (.int .u64 (p.made : Nat)) (.slice A p.ds.length c) 25
  (try simp only [World.size_alloc, size_ten] at bp)
  go_wp2_with fail
  go_at_call 19
  refine (HC.out _ (by exact r1.later b_r1)).mono ?_
  rintro e w1 ⟨G, gc, rfl, o_rg, hb_w1⟩
  have s_w1 := hb_w1.size
  (try simp only [World.size_alloc, size_ten] at s_w1)
  have bp := bp.later hb_w1
  have bp_lt := bp.lt
  have b_r1 := below_trans b_r1 hb_w1 b_r1.size
  have b_rs := below_trans b_rs hb_w1 b_rs.size
  clear hb_w1
  have rg := o_rg.row
  have b_rg := Below.refl w1.heap.size w1
  obtain ⟨bp_0, bp_1, bp_2, bp_3, bp_4, bp_5, bp_6, bp_7, bp_8, bp_9, bp_f⟩ := id bp
  have ng := o_rg.nil
  have bp := bp.later ((Below.refl _ _).alloc (Nat.le_refl _) (.cells #[.int .i64 p.pct, .int .u64 (p.least : Nat), .int .u64 (p.live : Nat), .bool p.on, .int .u64 (p.est : Nat), .int .u64 (p.room : Nat), .int .u64 (p.credit : Nat), .int .u64 (p.done : Nat), .int .u64 (p.made : Nat), .slice G p.ds.length gc] 25))
  have b_r1 : Below w.heap.size w (w1.alloc (.cells #[.int .i64 p.pct, .int .u64 (p.least : Nat), .int .u64 (p.live : Nat), .bool p.on, .int .u64 (p.est : Nat), .int .u64 (p.room : Nat), .int .u64 (p.credit : Nat), .int .u64 (p.done : Nat), .int .u64 (p.made : Nat), .slice G p.ds.length gc] 25)) := b_r1.alloc (by first | omega | (simp only [World.size_alloc, size_ten]; omega)) _
  have b_rs : Below w.heap.size w (w1.alloc (.cells #[.int .i64 p.pct, .int .u64 (p.least : Nat), .int .u64 (p.live : Nat), .bool p.on, .int .u64 (p.est : Nat), .int .u64 (p.room : Nat), .int .u64 (p.credit : Nat), .int .u64 (p.done : Nat), .int .u64 (p.made : Nat), .slice G p.ds.length gc] 25)) := b_rs.alloc (by first | omega | (simp only [World.size_alloc, size_ten]; omega)) _
  have b_rg : Below w1.heap.size w1 (w1.alloc (.cells #[.int .i64 p.pct, .int .u64 (p.least : Nat), .int .u64 (p.live : Nat), .bool p.on, .int .u64 (p.est : Nat), .int .u64 (p.room : Nat), .int .u64 (p.credit : Nat), .int .u64 (p.done : Nat), .int .u64 (p.made : Nat), .slice G p.ds.length gc] 25)) := b_rg.alloc (by first | omega | (simp only [World.size_alloc, size_ten]; omega)) _
  have bg := Ten.new w1 (.int .i64 p.pct) (.int .u64 (p.least : Nat)) (.int .u64 (p.live : Nat)) (.bool p.on) (.int .u64 (p.est : Nat)) (.int .u64 (p.room : Nat)) (.int .u64 (p.credit : Nat)) (.int .u64 (p.done : Nat)) (.int .u64 (p.made : Nat)) (.slice G p.ds.length gc) 25
  (try simp only [World.size_alloc, size_ten] at bg)
  go_wp2_with fail
  go_at_call 20
  refine (H1.out _ G gc (by exact rg.later b_rg) ng).mono ?_
  rintro e w2 ⟨A1, c1, rfl, o_ra1, hb_w2⟩
  clear bp_0 bp_1 bp_2 bp_3 bp_4 bp_5 bp_6 bp_7 bp_8 bp_9 bp_f
  have s_w2 := hb_w2.size
  (try simp only [World.size_alloc, size_ten] at s_w2)
  have bp := bp.later hb_w2
  have bp_lt := bp.lt
  have bg := bg.later hb_w2
  have bg_lt := bg.lt
  have b_r1 := below_trans b_r1 hb_w2 b_r1.size
  have b_rs := below_trans b_rs hb_w2 b_rs.size
  have b_rg := below_trans b_rg hb_w2 b_rg.size
  clear hb_w2
  have ra1 := o_ra1.row
  have b_ra1 := Below.refl w2.heap.size w2
  obtain ⟨bp_0, bp_1, bp_2, bp_3, bp_4, bp_5, bp_6, bp_7, bp_8, bp_9, bp_f⟩ := id bp
  obtain ⟨bg_0, bg_1, bg_2, bg_3, bg_4, bg_5, bg_6, bg_7, bg_8, bg_9, bg_f⟩ := id bg
  have bp := bp.later ((Below.refl _ _).alloc (Nat.le_refl _) (.cells #[.int .i64 q1.pct, .int .u64 (q1.least : Nat), .int .u64 (q1.live : Nat), .bool q1.on, .int .u64 (q1.est : Nat), .int .u64 (q1.room : Nat), .int .u64 (q1.credit : Nat), .int .u64 (q1.done : Nat), .int .u64 (q1.made : Nat), .slice A1 q1.ds.length c1] 25))
  have bg := bg.later ((Below.refl _ _).alloc (Nat.le_refl _) (.cells #[.int .i64 q1.pct, .int .u64 (q1.least : Nat), .int .u64 (q1.live : Nat), .bool q1.on, .int .u64 (q1.est : Nat), .int .u64 (q1.room : Nat), .int .u64 (q1.credit : Nat), .int .u64 (q1.done : Nat), .int .u64 (q1.made : Nat), .slice A1 q1.ds.length c1] 25))
  have b_r1 : Below w.heap.size w (w2.alloc (.cells #[.int .i64 q1.pct, .int .u64 (q1.least : Nat), .int .u64 (q1.live : Nat), .bool q1.on, .int .u64 (q1.est : Nat), .int .u64 (q1.room : Nat), .int .u64 (q1.credit : Nat), .int .u64 (q1.done : Nat), .int .u64 (q1.made : Nat), .slice A1 q1.ds.length c1] 25)) := b_r1.alloc (by first | omega | (simp only [World.size_alloc, size_ten]; omega)) _
  have b_rs : Below w.heap.size w (w2.alloc (.cells #[.int .i64 q1.pct, .int .u64 (q1.least : Nat), .int .u64 (q1.live : Nat), .bool q1.on, .int .u64 (q1.est : Nat), .int .u64 (q1.room : Nat), .int .u64 (q1.credit : Nat), .int .u64 (q1.done : Nat), .int .u64 (q1.made : Nat), .slice A1 q1.ds.length c1] 25)) := b_rs.alloc (by first | omega | (simp only [World.size_alloc, size_ten]; omega)) _
  have b_rg : Below w1.heap.size w1 (w2.alloc (.cells #[.int .i64 q1.pct, .int .u64 (q1.least : Nat), .int .u64 (q1.live : Nat), .bool q1.on, .int .u64 (q1.est : Nat), .int .u64 (q1.room : Nat), .int .u64 (q1.credit : Nat), .int .u64 (q1.done : Nat), .int .u64 (q1.made : Nat), .slice A1 q1.ds.length c1] 25)) := b_rg.alloc (by first | omega | (simp only [World.size_alloc, size_ten]; omega)) _
  have b_ra1 : Below w2.heap.size w2 (w2.alloc (.cells #[.int .i64 q1.pct, .int .u64 (q1.least : Nat), .int .u64 (q1.live : Nat), .bool q1.on, .int .u64 (q1.est : Nat), .int .u64 (q1.room : Nat), .int .u64 (q1.credit : Nat), .int .u64 (q1.done : Nat), .int .u64 (q1.made : Nat), .slice A1 q1.ds.length c1] 25)) := b_ra1.alloc (by first | omega | (simp only [World.size_alloc, size_ten]; omega)) _
  have ba1 := Ten.new w2 (.int .i64 q1.pct) (.int .u64 (q1.least : Nat)) (.int .u64 (q1.live : Nat)) (.bool q1.on) (.int .u64 (q1.est : Nat)) (.int .u64 (q1.room : Nat)) (.int .u64 (q1.credit : Nat)) (.int .u64 (q1.done : Nat)) (.int .u64 (q1.made : Nat)) (.slice A1 q1.ds.length c1) 25
  (try simp only [World.size_alloc, size_ten] at ba1)
  go_wp2_with fail
  go_at_call 21
  refine (X1.out _ (by exact r1.later b_r1)).mono ?_
  rintro e w3 ⟨B1, d1, rfl, o_rb1, hb_w3⟩
  clear bp_0 bp_1 bp_2 bp_3 bp_4 bp_5 bp_6 bp_7 bp_8 bp_9 bp_f
  clear bg_0 bg_1 bg_2 bg_3 bg_4 bg_5 bg_6 bg_7 bg_8 bg_9 bg_f
  have s_w3 := hb_w3.size
  (try simp only [World.size_alloc, size_ten] at s_w3)
  have bp := bp.later hb_w3
  have bp_lt := bp.lt
  have bg := bg.later hb_w3
  have bg_lt := bg.lt
  have ba1 := ba1.later hb_w3
  have ba1_lt := ba1.lt
  have b_r1 := below_trans b_r1 hb_w3 b_r1.size
  have b_rs := below_trans b_rs hb_w3 b_rs.size
  have b_rg := below_trans b_rg hb_w3 b_rg.size
  have b_ra1 := below_trans b_ra1 hb_w3 b_ra1.size
  clear hb_w3
  have rb1 := o_rb1.row
  have b_rb1 := Below.refl w3.heap.size w3
  obtain ⟨bp_0, bp_1, bp_2, bp_3, bp_4, bp_5, bp_6, bp_7, bp_8, bp_9, bp_f⟩ := id bp
  obtain ⟨bg_0, bg_1, bg_2, bg_3, bg_4, bg_5, bg_6, bg_7, bg_8, bg_9, bg_f⟩ := id bg
  have bp := bp.later ((Below.refl _ _).alloc (Nat.le_refl _) (.cells #[.int .i64 q1.pct, .int .u64 (q1.least : Nat), .int .u64 (q1.live : Nat), .bool q1.on, .int .u64 (q1.est : Nat), .int .u64 (q1.room : Nat), .int .u64 (q1.credit : Nat), .int .u64 (q1.done : Nat), .int .u64 (q1.made : Nat), .slice B1 q1.ds.length d1] 25))
  have bg := bg.later ((Below.refl _ _).alloc (Nat.le_refl _) (.cells #[.int .i64 q1.pct, .int .u64 (q1.least : Nat), .int .u64 (q1.live : Nat), .bool q1.on, .int .u64 (q1.est : Nat), .int .u64 (q1.room : Nat), .int .u64 (q1.credit : Nat), .int .u64 (q1.done : Nat), .int .u64 (q1.made : Nat), .slice B1 q1.ds.length d1] 25))
  have ba1 := ba1.later ((Below.refl _ _).alloc (Nat.le_refl _) (.cells #[.int .i64 q1.pct, .int .u64 (q1.least : Nat), .int .u64 (q1.live : Nat), .bool q1.on, .int .u64 (q1.est : Nat), .int .u64 (q1.room : Nat), .int .u64 (q1.credit : Nat), .int .u64 (q1.done : Nat), .int .u64 (q1.made : Nat), .slice B1 q1.ds.length d1] 25))
  have b_r1 : Below w.heap.size w (w3.alloc (.cells #[.int .i64 q1.pct, .int .u64 (q1.least : Nat), .int .u64 (q1.live : Nat), .bool q1.on, .int .u64 (q1.est : Nat), .int .u64 (q1.room : Nat), .int .u64 (q1.credit : Nat), .int .u64 (q1.done : Nat), .int .u64 (q1.made : Nat), .slice B1 q1.ds.length d1] 25)) := b_r1.alloc (by first | omega | (simp only [World.size_alloc, size_ten]; omega)) _
  have b_rs : Below w.heap.size w (w3.alloc (.cells #[.int .i64 q1.pct, .int .u64 (q1.least : Nat), .int .u64 (q1.live : Nat), .bool q1.on, .int .u64 (q1.est : Nat), .int .u64 (q1.room : Nat), .int .u64 (q1.credit : Nat), .int .u64 (q1.done : Nat), .int .u64 (q1.made : Nat), .slice B1 q1.ds.length d1] 25)) := b_rs.alloc (by first | omega | (simp only [World.size_alloc, size_ten]; omega)) _
  have b_rg : Below w1.heap.size w1 (w3.alloc (.cells #[.int .i64 q1.pct, .int .u64 (q1.least : Nat), .int .u64 (q1.live : Nat), .bool q1.on, .int .u64 (q1.est : Nat), .int .u64 (q1.room : Nat), .int .u64 (q1.credit : Nat), .int .u64 (q1.done : Nat), .int .u64 (q1.made : Nat), .slice B1 q1.ds.length d1] 25)) := b_rg.alloc (by first | omega | (simp only [World.size_alloc, size_ten]; omega)) _
  have b_ra1 : Below w2.heap.size w2 (w3.alloc (.cells #[.int .i64 q1.pct, .int .u64 (q1.least : Nat), .int .u64 (q1.live : Nat), .bool q1.on, .int .u64 (q1.est : Nat), .int .u64 (q1.room : Nat), .int .u64 (q1.credit : Nat), .int .u64 (q1.done : Nat), .int .u64 (q1.made : Nat), .slice B1 q1.ds.length d1] 25)) := b_ra1.alloc (by first | omega | (simp only [World.size_alloc, size_ten]; omega)) _
  have b_rb1 : Below w3.heap.size w3 (w3.alloc (.cells #[.int .i64 q1.pct, .int .u64 (q1.least : Nat), .int .u64 (q1.live : Nat), .bool q1.on, .int .u64 (q1.est : Nat), .int .u64 (q1.room : Nat), .int .u64 (q1.credit : Nat), .int .u64 (q1.done : Nat), .int .u64 (q1.made : Nat), .slice B1 q1.ds.length d1] 25)) := b_rb1.alloc (by first | omega | (simp only [World.size_alloc, size_ten]; omega)) _
  have bb1 := Ten.new w3 (.int .i64 q1.pct) (.int .u64 (q1.least : Nat)) (.int .u64 (q1.live : Nat)) (.bool q1.on) (.int .u64 (q1.est : Nat)) (.int .u64 (q1.room : Nat)) (.int .u64 (q1.credit : Nat)) (.int .u64 (q1.done : Nat)) (.int .u64 (q1.made : Nat)) (.slice B1 q1.ds.length d1) 25
  (try simp only [World.size_alloc, size_ten] at bb1)
  go_wp2_with fail
  go_at_call 22
  refine (H2.out _ G gc (by exact rg.later b_rg) ng).mono ?_
  rintro e w4 ⟨A2, c2, rfl, o_ra2, hb_w4⟩
  clear bp_0 bp_1 bp_2 bp_3 bp_4 bp_5 bp_6 bp_7 bp_8 bp_9 bp_f
  clear bg_0 bg_1 bg_2 bg_3 bg_4 bg_5 bg_6 bg_7 bg_8 bg_9 bg_f
  have s_w4 := hb_w4.size
  (try simp only [World.size_alloc, size_ten] at s_w4)
  have bp := bp.later hb_w4
  have bp_lt := bp.lt
  have bg := bg.later hb_w4
  have bg_lt := bg.lt
  have ba1 := ba1.later hb_w4
  have ba1_lt := ba1.lt
  have bb1 := bb1.later hb_w4
  have bb1_lt := bb1.lt
  have b_r1 := below_trans b_r1 hb_w4 b_r1.size
  have b_rs := below_trans b_rs hb_w4 b_rs.size
  have b_rg := below_trans b_rg hb_w4 b_rg.size
  have b_ra1 := below_trans b_ra1 hb_w4 b_ra1.size
  have b_rb1 := below_trans b_rb1 hb_w4 b_rb1.size
  clear hb_w4
  have ra2 := o_ra2.row
  have b_ra2 := Below.refl w4.heap.size w4
  obtain ⟨bp_0, bp_1, bp_2, bp_3, bp_4, bp_5, bp_6, bp_7, bp_8, bp_9, bp_f⟩ := id bp
  obtain ⟨bg_0, bg_1, bg_2, bg_3, bg_4, bg_5, bg_6, bg_7, bg_8, bg_9, bg_f⟩ := id bg
  have bp := bp.later ((Below.refl _ _).alloc (Nat.le_refl _) (.cells #[.int .i64 q2.pct, .int .u64 (q2.least : Nat), .int .u64 (q2.live : Nat), .bool q2.on, .int .u64 (q2.est : Nat), .int .u64 (q2.room : Nat), .int .u64 (q2.credit : Nat), .int .u64 (q2.done : Nat), .int .u64 (q2.made : Nat), .slice A2 q2.ds.length c2] 25))
  have bg := bg.later ((Below.refl _ _).alloc (Nat.le_refl _) (.cells #[.int .i64 q2.pct, .int .u64 (q2.least : Nat), .int .u64 (q2.live : Nat), .bool q2.on, .int .u64 (q2.est : Nat), .int .u64 (q2.room : Nat), .int .u64 (q2.credit : Nat), .int .u64 (q2.done : Nat), .int .u64 (q2.made : Nat), .slice A2 q2.ds.length c2] 25))
  have ba1 := ba1.later ((Below.refl _ _).alloc (Nat.le_refl _) (.cells #[.int .i64 q2.pct, .int .u64 (q2.least : Nat), .int .u64 (q2.live : Nat), .bool q2.on, .int .u64 (q2.est : Nat), .int .u64 (q2.room : Nat), .int .u64 (q2.credit : Nat), .int .u64 (q2.done : Nat), .int .u64 (q2.made : Nat), .slice A2 q2.ds.length c2] 25))
  have bb1 := bb1.later ((Below.refl _ _).alloc (Nat.le_refl _) (.cells #[.int .i64 q2.pct, .int .u64 (q2.least : Nat), .int .u64 (q2.live : Nat), .bool q2.on, .int .u64 (q2.est : Nat), .int .u64 (q2.room : Nat), .int .u64 (q2.credit : Nat), .int .u64 (q2.done : Nat), .int .u64 (q2.made : Nat), .slice A2 q2.ds.length c2] 25))
  have b_r1 : Below w.heap.size w (w4.alloc (.cells #[.int .i64 q2.pct, .int .u64 (q2.least : Nat), .int .u64 (q2.live : Nat), .bool q2.on, .int .u64 (q2.est : Nat), .int .u64 (q2.room : Nat), .int .u64 (q2.credit : Nat), .int .u64 (q2.done : Nat), .int .u64 (q2.made : Nat), .slice A2 q2.ds.length c2] 25)) := b_r1.alloc (by first | omega | (simp only [World.size_alloc, size_ten]; omega)) _
  have b_rs : Below w.heap.size w (w4.alloc (.cells #[.int .i64 q2.pct, .int .u64 (q2.least : Nat), .int .u64 (q2.live : Nat), .bool q2.on, .int .u64 (q2.est : Nat), .int .u64 (q2.room : Nat), .int .u64 (q2.credit : Nat), .int .u64 (q2.done : Nat), .int .u64 (q2.made : Nat), .slice A2 q2.ds.length c2] 25)) := b_rs.alloc (by first | omega | (simp only [World.size_alloc, size_ten]; omega)) _
  have b_rg : Below w1.heap.size w1 (w4.alloc (.cells #[.int .i64 q2.pct, .int .u64 (q2.least : Nat), .int .u64 (q2.live : Nat), .bool q2.on, .int .u64 (q2.est : Nat), .int .u64 (q2.room : Nat), .int .u64 (q2.credit : Nat), .int .u64 (q2.done : Nat), .int .u64 (q2.made : Nat), .slice A2 q2.ds.length c2] 25)) := b_rg.alloc (by first | omega | (simp only [World.size_alloc, size_ten]; omega)) _
  have b_ra1 : Below w2.heap.size w2 (w4.alloc (.cells #[.int .i64 q2.pct, .int .u64 (q2.least : Nat), .int .u64 (q2.live : Nat), .bool q2.on, .int .u64 (q2.est : Nat), .int .u64 (q2.room : Nat), .int .u64 (q2.credit : Nat), .int .u64 (q2.done : Nat), .int .u64 (q2.made : Nat), .slice A2 q2.ds.length c2] 25)) := b_ra1.alloc (by first | omega | (simp only [World.size_alloc, size_ten]; omega)) _
  have b_rb1 : Below w3.heap.size w3 (w4.alloc (.cells #[.int .i64 q2.pct, .int .u64 (q2.least : Nat), .int .u64 (q2.live : Nat), .bool q2.on, .int .u64 (q2.est : Nat), .int .u64 (q2.room : Nat), .int .u64 (q2.credit : Nat), .int .u64 (q2.done : Nat), .int .u64 (q2.made : Nat), .slice A2 q2.ds.length c2] 25)) := b_rb1.alloc (by first | omega | (simp only [World.size_alloc, size_ten]; omega)) _
  have b_ra2 : Below w4.heap.size w4 (w4.alloc (.cells #[.int .i64 q2.pct, .int .u64 (q2.least : Nat), .int .u64 (q2.live : Nat), .bool q2.on, .int .u64 (q2.est : Nat), .int .u64 (q2.room : Nat), .int .u64 (q2.credit : Nat), .int .u64 (q2.done : Nat), .int .u64 (q2.made : Nat), .slice A2 q2.ds.length c2] 25)) := b_ra2.alloc (by first | omega | (simp only [World.size_alloc, size_ten]; omega)) _
  have ba2 := Ten.new w4 (.int .i64 q2.pct) (.int .u64 (q2.least : Nat)) (.int .u64 (q2.live : Nat)) (.bool q2.on) (.int .u64 (q2.est : Nat)) (.int .u64 (q2.room : Nat)) (.int .u64 (q2.credit : Nat)) (.int .u64 (q2.done : Nat)) (.int .u64 (q2.made : Nat)) (.slice A2 q2.ds.length c2) 25
  (try simp only [World.size_alloc, size_ten] at ba2)
  go_wp2_with fail
  go_at_call 23
  refine (X2.out _ (by exact r1.later b_r1)).mono ?_
  rintro e w5 ⟨B2, d2, rfl, o_rb2, hb_w5⟩
  clear bp_0 bp_1 bp_2 bp_3 bp_4 bp_5 bp_6 bp_7 bp_8 bp_9 bp_f
  clear bg_0 bg_1 bg_2 bg_3 bg_4 bg_5 bg_6 bg_7 bg_8 bg_9 bg_f
  have s_w5 := hb_w5.size
  (try simp only [World.size_alloc, size_ten] at s_w5)
  have bp := bp.later hb_w5
  have bp_lt := bp.lt
  have bg := bg.later hb_w5
  have bg_lt := bg.lt
  have ba1 := ba1.later hb_w5
  have ba1_lt := ba1.lt
  have bb1 := bb1.later hb_w5
  have bb1_lt := bb1.lt
  have ba2 := ba2.later hb_w5
  have ba2_lt := ba2.lt
  have b_r1 := below_trans b_r1 hb_w5 b_r1.size
  have b_rs := below_trans b_rs hb_w5 b_rs.size
  have b_rg := below_trans b_rg hb_w5 b_rg.size
  have b_ra1 := below_trans b_ra1 hb_w5 b_ra1.size
  have b_rb1 := below_trans b_rb1 hb_w5 b_rb1.size
  have b_ra2 := below_trans b_ra2 hb_w5 b_ra2.size
  clear hb_w5
  have rb2 := o_rb2.row
  have b_rb2 := Below.refl w5.heap.size w5
  obtain ⟨bp_0, bp_1, bp_2, bp_3, bp_4, bp_5, bp_6, bp_7, bp_8, bp_9, bp_f⟩ := id bp
  obtain ⟨bg_0, bg_1, bg_2, bg_3, bg_4, bg_5, bg_6, bg_7, bg_8, bg_9, bg_f⟩ := id bg
  have bp := bp.later ((Below.refl _ _).alloc (Nat.le_refl _) (.cells #[.int .i64 q2.pct, .int .u64 (q2.least : Nat), .int .u64 (q2.live : Nat), .bool q2.on, .int .u64 (q2.est : Nat), .int .u64 (q2.room : Nat), .int .u64 (q2.credit : Nat), .int .u64 (q2.done : Nat), .int .u64 (q2.made : Nat), .slice B2 q2.ds.length d2] 25))
  have bg := bg.later ((Below.refl _ _).alloc (Nat.le_refl _) (.cells #[.int .i64 q2.pct, .int .u64 (q2.least : Nat), .int .u64 (q2.live : Nat), .bool q2.on, .int .u64 (q2.est : Nat), .int .u64 (q2.room : Nat), .int .u64 (q2.credit : Nat), .int .u64 (q2.done : Nat), .int .u64 (q2.made : Nat), .slice B2 q2.ds.length d2] 25))
  have ba1 := ba1.later ((Below.refl _ _).alloc (Nat.le_refl _) (.cells #[.int .i64 q2.pct, .int .u64 (q2.least : Nat), .int .u64 (q2.live : Nat), .bool q2.on, .int .u64 (q2.est : Nat), .int .u64 (q2.room : Nat), .int .u64 (q2.credit : Nat), .int .u64 (q2.done : Nat), .int .u64 (q2.made : Nat), .slice B2 q2.ds.length d2] 25))
  have bb1 := bb1.later ((Below.refl _ _).alloc (Nat.le_refl _) (.cells #[.int .i64 q2.pct, .int .u64 (q2.least : Nat), .int .u64 (q2.live : Nat), .bool q2.on, .int .u64 (q2.est : Nat), .int .u64 (q2.room : Nat), .int .u64 (q2.credit : Nat), .int .u64 (q2.done : Nat), .int .u64 (q2.made : Nat), .slice B2 q2.ds.length d2] 25))
  have ba2 := ba2.later ((Below.refl _ _).alloc (Nat.le_refl _) (.cells #[.int .i64 q2.pct, .int .u64 (q2.least : Nat), .int .u64 (q2.live : Nat), .bool q2.on, .int .u64 (q2.est : Nat), .int .u64 (q2.room : Nat), .int .u64 (q2.credit : Nat), .int .u64 (q2.done : Nat), .int .u64 (q2.made : Nat), .slice B2 q2.ds.length d2] 25))
  have b_r1 : Below w.heap.size w (w5.alloc (.cells #[.int .i64 q2.pct, .int .u64 (q2.least : Nat), .int .u64 (q2.live : Nat), .bool q2.on, .int .u64 (q2.est : Nat), .int .u64 (q2.room : Nat), .int .u64 (q2.credit : Nat), .int .u64 (q2.done : Nat), .int .u64 (q2.made : Nat), .slice B2 q2.ds.length d2] 25)) := b_r1.alloc (by first | omega | (simp only [World.size_alloc, size_ten]; omega)) _
  have b_rs : Below w.heap.size w (w5.alloc (.cells #[.int .i64 q2.pct, .int .u64 (q2.least : Nat), .int .u64 (q2.live : Nat), .bool q2.on, .int .u64 (q2.est : Nat), .int .u64 (q2.room : Nat), .int .u64 (q2.credit : Nat), .int .u64 (q2.done : Nat), .int .u64 (q2.made : Nat), .slice B2 q2.ds.length d2] 25)) := b_rs.alloc (by first | omega | (simp only [World.size_alloc, size_ten]; omega)) _
  have b_rg : Below w1.heap.size w1 (w5.alloc (.cells #[.int .i64 q2.pct, .int .u64 (q2.least : Nat), .int .u64 (q2.live : Nat), .bool q2.on, .int .u64 (q2.est : Nat), .int .u64 (q2.room : Nat), .int .u64 (q2.credit : Nat), .int .u64 (q2.done : Nat), .int .u64 (q2.made : Nat), .slice B2 q2.ds.length d2] 25)) := b_rg.alloc (by first | omega | (simp only [World.size_alloc, size_ten]; omega)) _
  have b_ra1 : Below w2.heap.size w2 (w5.alloc (.cells #[.int .i64 q2.pct, .int .u64 (q2.least : Nat), .int .u64 (q2.live : Nat), .bool q2.on, .int .u64 (q2.est : Nat), .int .u64 (q2.room : Nat), .int .u64 (q2.credit : Nat), .int .u64 (q2.done : Nat), .int .u64 (q2.made : Nat), .slice B2 q2.ds.length d2] 25)) := b_ra1.alloc (by first | omega | (simp only [World.size_alloc, size_ten]; omega)) _
  have b_rb1 : Below w3.heap.size w3 (w5.alloc (.cells #[.int .i64 q2.pct, .int .u64 (q2.least : Nat), .int .u64 (q2.live : Nat), .bool q2.on, .int .u64 (q2.est : Nat), .int .u64 (q2.room : Nat), .int .u64 (q2.credit : Nat), .int .u64 (q2.done : Nat), .int .u64 (q2.made : Nat), .slice B2 q2.ds.length d2] 25)) := b_rb1.alloc (by first | omega | (simp only [World.size_alloc, size_ten]; omega)) _
  have b_ra2 : Below w4.heap.size w4 (w5.alloc (.cells #[.int .i64 q2.pct, .int .u64 (q2.least : Nat), .int .u64 (q2.live : Nat), .bool q2.on, .int .u64 (q2.est : Nat), .int .u64 (q2.room : Nat), .int .u64 (q2.credit : Nat), .int .u64 (q2.done : Nat), .int .u64 (q2.made : Nat), .slice B2 q2.ds.length d2] 25)) := b_ra2.alloc (by first | omega | (simp only [World.size_alloc, size_ten]; omega)) _
  have b_rb2 : Below w5.heap.size w5 (w5.alloc (.cells #[.int .i64 q2.pct, .int .u64 (q2.least : Nat), .int .u64 (q2.live : Nat), .bool q2.on, .int .u64 (q2.est : Nat), .int .u64 (q2.room : Nat), .int .u64 (q2.credit : Nat), .int .u64 (q2.done : Nat), .int .u64 (q2.made : Nat), .slice B2 q2.ds.length d2] 25)) := b_rb2.alloc (by first | omega | (simp only [World.size_alloc, size_ten]; omega)) _
  have bb2 := Ten.new w5 (.int .i64 q2.pct) (.int .u64 (q2.least : Nat)) (.int .u64 (q2.live : Nat)) (.bool q2.on) (.int .u64 (q2.est : Nat)) (.int .u64 (q2.room : Nat)) (.int .u64 (q2.credit : Nat)) (.int .u64 (q2.done : Nat)) (.int .u64 (q2.made : Nat)) (.slice B2 q2.ds.length d2) 25
  (try simp only [World.size_alloc, size_ten] at bb2)
  go_wp2_with fail
  go_at_call 24
  refine (H3.out _ G gc (by exact rg.later b_rg) ng).mono ?_
  rintro e w6 ⟨A3, c3, rfl, o_ra3, hb_w6⟩
  clear bp_0 bp_1 bp_2 bp_3 bp_4 bp_5 bp_6 bp_7 bp_8 bp_9 bp_f
  clear bg_0 bg_1 bg_2 bg_3 bg_4 bg_5 bg_6 bg_7 bg_8 bg_9 bg_f
  have s_w6 := hb_w6.size
  (try simp only [World.size_alloc, size_ten] at s_w6)
  have bp := bp.later hb_w6
  have bp_lt := bp.lt
  have bg := bg.later hb_w6
  have bg_lt := bg.lt
  have ba1 := ba1.later hb_w6
  have ba1_lt := ba1.lt
  have bb1 := bb1.later hb_w6
  have bb1_lt := bb1.lt
  have ba2 := ba2.later hb_w6
  have ba2_lt := ba2.lt
  have bb2 := bb2.later hb_w6
  have bb2_lt := bb2.lt
  have b_r1 := below_trans b_r1 hb_w6 b_r1.size
  have b_rs := below_trans b_rs hb_w6 b_rs.size
  have b_rg := below_trans b_rg hb_w6 b_rg.size
  have b_ra1 := below_trans b_ra1 hb_w6 b_ra1.size
  have b_rb1 := below_trans b_rb1 hb_w6 b_rb1.size
  have b_ra2 := below_trans b_ra2 hb_w6 b_ra2.size
  have b_rb2 := below_trans b_rb2 hb_w6 b_rb2.size
  clear hb_w6
  have ra3 := o_ra3.row
  have b_ra3 := Below.refl w6.heap.size w6
  obtain ⟨bp_0, bp_1, bp_2, bp_3, bp_4, bp_5, bp_6, bp_7, bp_8, bp_9, bp_f⟩ := id bp
  obtain ⟨bg_0, bg_1, bg_2, bg_3, bg_4, bg_5, bg_6, bg_7, bg_8, bg_9, bg_f⟩ := id bg
  have bp := bp.later ((Below.refl _ _).alloc (Nat.le_refl _) (.cells #[.int .i64 q3.pct, .int .u64 (q3.least : Nat), .int .u64 (q3.live : Nat), .bool q3.on, .int .u64 (q3.est : Nat), .int .u64 (q3.room : Nat), .int .u64 (q3.credit : Nat), .int .u64 (q3.done : Nat), .int .u64 (q3.made : Nat), .slice A3 q3.ds.length c3] 25))
  have bg := bg.later ((Below.refl _ _).alloc (Nat.le_refl _) (.cells #[.int .i64 q3.pct, .int .u64 (q3.least : Nat), .int .u64 (q3.live : Nat), .bool q3.on, .int .u64 (q3.est : Nat), .int .u64 (q3.room : Nat), .int .u64 (q3.credit : Nat), .int .u64 (q3.done : Nat), .int .u64 (q3.made : Nat), .slice A3 q3.ds.length c3] 25))
  have ba1 := ba1.later ((Below.refl _ _).alloc (Nat.le_refl _) (.cells #[.int .i64 q3.pct, .int .u64 (q3.least : Nat), .int .u64 (q3.live : Nat), .bool q3.on, .int .u64 (q3.est : Nat), .int .u64 (q3.room : Nat), .int .u64 (q3.credit : Nat), .int .u64 (q3.done : Nat), .int .u64 (q3.made : Nat), .slice A3 q3.ds.length c3] 25))
  have bb1 := bb1.later ((Below.refl _ _).alloc (Nat.le_refl _) (.cells #[.int .i64 q3.pct, .int .u64 (q3.least : Nat), .int .u64 (q3.live : Nat), .bool q3.on, .int .u64 (q3.est : Nat), .int .u64 (q3.room : Nat), .int .u64 (q3.credit : Nat), .int .u64 (q3.done : Nat), .int .u64 (q3.made : Nat), .slice A3 q3.ds.length c3] 25))
  have ba2 := ba2.later ((Below.refl _ _).alloc (Nat.le_refl _) (.cells #[.int .i64 q3.pct, .int .u64 (q3.least : Nat), .int .u64 (q3.live : Nat), .bool q3.on, .int .u64 (q3.est : Nat), .int .u64 (q3.room : Nat), .int .u64 (q3.credit : Nat), .int .u64 (q3.done : Nat), .int .u64 (q3.made : Nat), .slice A3 q3.ds.length c3] 25))
  have bb2 := bb2.later ((Below.refl _ _).alloc (Nat.le_refl _) (.cells #[.int .i64 q3.pct, .int .u64 (q3.least : Nat), .int .u64 (q3.live : Nat), .bool q3.on, .int .u64 (q3.est : Nat), .int .u64 (q3.room : Nat), .int .u64 (q3.credit : Nat), .int .u64 (q3.done : Nat), .int .u64 (q3.made : Nat), .slice A3 q3.ds.length c3] 25))
  have b_r1 : Below w.heap.size w (w6.alloc (.cells #[.int .i64 q3.pct, .int .u64 (q3.least : Nat), .int .u64 (q3.live : Nat), .bool q3.on, .int .u64 (q3.est : Nat), .int .u64 (q3.room : Nat), .int .u64 (q3.credit : Nat), .int .u64 (q3.done : Nat), .int .u64 (q3.made : Nat), .slice A3 q3.ds.length c3] 25)) := b_r1.alloc (by first | omega | (simp only [World.size_alloc, size_ten]; omega)) _
  have b_rs : Below w.heap.size w (w6.alloc (.cells #[.int .i64 q3.pct, .int .u64 (q3.least : Nat), .int .u64 (q3.live : Nat), .bool q3.on, .int .u64 (q3.est : Nat), .int .u64 (q3.room : Nat), .int .u64 (q3.credit : Nat), .int .u64 (q3.done : Nat), .int .u64 (q3.made : Nat), .slice A3 q3.ds.length c3] 25)) := b_rs.alloc (by first | omega | (simp only [World.size_alloc, size_ten]; omega)) _
  have b_rg : Below w1.heap.size w1 (w6.alloc (.cells #[.int .i64 q3.pct, .int .u64 (q3.least : Nat), .int .u64 (q3.live : Nat), .bool q3.on, .int .u64 (q3.est : Nat), .int .u64 (q3.room : Nat), .int .u64 (q3.credit : Nat), .int .u64 (q3.done : Nat), .int .u64 (q3.made : Nat), .slice A3 q3.ds.length c3] 25)) := b_rg.alloc (by first | omega | (simp only [World.size_alloc, size_ten]; omega)) _
  have b_ra1 : Below w2.heap.size w2 (w6.alloc (.cells #[.int .i64 q3.pct, .int .u64 (q3.least : Nat), .int .u64 (q3.live : Nat), .bool q3.on, .int .u64 (q3.est : Nat), .int .u64 (q3.room : Nat), .int .u64 (q3.credit : Nat), .int .u64 (q3.done : Nat), .int .u64 (q3.made : Nat), .slice A3 q3.ds.length c3] 25)) := b_ra1.alloc (by first | omega | (simp only [World.size_alloc, size_ten]; omega)) _
  have b_rb1 : Below w3.heap.size w3 (w6.alloc (.cells #[.int .i64 q3.pct, .int .u64 (q3.least : Nat), .int .u64 (q3.live : Nat), .bool q3.on, .int .u64 (q3.est : Nat), .int .u64 (q3.room : Nat), .int .u64 (q3.credit : Nat), .int .u64 (q3.done : Nat), .int .u64 (q3.made : Nat), .slice A3 q3.ds.length c3] 25)) := b_rb1.alloc (by first | omega | (simp only [World.size_alloc, size_ten]; omega)) _
  have b_ra2 : Below w4.heap.size w4 (w6.alloc (.cells #[.int .i64 q3.pct, .int .u64 (q3.least : Nat), .int .u64 (q3.live : Nat), .bool q3.on, .int .u64 (q3.est : Nat), .int .u64 (q3.room : Nat), .int .u64 (q3.credit : Nat), .int .u64 (q3.done : Nat), .int .u64 (q3.made : Nat), .slice A3 q3.ds.length c3] 25)) := b_ra2.alloc (by first | omega | (simp only [World.size_alloc, size_ten]; omega)) _
  have b_rb2 : Below w5.heap.size w5 (w6.alloc (.cells #[.int .i64 q3.pct, .int .u64 (q3.least : Nat), .int .u64 (q3.live : Nat), .bool q3.on, .int .u64 (q3.est : Nat), .int .u64 (q3.room : Nat), .int .u64 (q3.credit : Nat), .int .u64 (q3.done : Nat), .int .u64 (q3.made : Nat), .slice A3 q3.ds.length c3] 25)) := b_rb2.alloc (by first | omega | (simp only [World.size_alloc, size_ten]; omega)) _
  have b_ra3 : Below w6.heap.size w6 (w6.alloc (.cells #[.int .i64 q3.pct, .int .u64 (q3.least : Nat), .int .u64 (q3.live : Nat), .bool q3.on, .int .u64 (q3.est : Nat), .int .u64 (q3.room : Nat), .int .u64 (q3.credit : Nat), .int .u64 (q3.done : Nat), .int .u64 (q3.made : Nat), .slice A3 q3.ds.length c3] 25)) := b_ra3.alloc (by first | omega | (simp only [World.size_alloc, size_ten]; omega)) _
  have ba3 := Ten.new w6 (.int .i64 q3.pct) (.int .u64 (q3.least : Nat)) (.int .u64 (q3.live : Nat)) (.bool q3.on) (.int .u64 (q3.est : Nat)) (.int .u64 (q3.room : Nat)) (.int .u64 (q3.credit : Nat)) (.int .u64 (q3.done : Nat)) (.int .u64 (q3.made : Nat)) (.slice A3 q3.ds.length c3) 25
  (try simp only [World.size_alloc, size_ten] at ba3)
  go_wp2_with fail
  go_at_call 25
  refine (X3.out _ (by exact r1.later b_r1)).mono ?_
  rintro e w7 ⟨B3, d3, rfl, o_rb3, hb_w7⟩
  clear bp_0 bp_1 bp_2 bp_3 bp_4 bp_5 bp_6 bp_7 bp_8 bp_9 bp_f
  clear bg_0 bg_1 bg_2 bg_3 bg_4 bg_5 bg_6 bg_7 bg_8 bg_9 bg_f
  have s_w7 := hb_w7.size
  (try simp only [World.size_alloc, size_ten] at s_w7)
  have bp := bp.later hb_w7
  have bp_lt := bp.lt
  have bg := bg.later hb_w7
  have bg_lt := bg.lt
  have ba1 := ba1.later hb_w7
  have ba1_lt := ba1.lt
  have bb1 := bb1.later hb_w7
  have bb1_lt := bb1.lt
  have ba2 := ba2.later hb_w7
  have ba2_lt := ba2.lt
  have bb2 := bb2.later hb_w7
  have bb2_lt := bb2.lt
  have ba3 := ba3.later hb_w7
  have ba3_lt := ba3.lt
  have b_r1 := below_trans b_r1 hb_w7 b_r1.size
  have b_rs := below_trans b_rs hb_w7 b_rs.size
  have b_rg := below_trans b_rg hb_w7 b_rg.size
  have b_ra1 := below_trans b_ra1 hb_w7 b_ra1.size
  have b_rb1 := below_trans b_rb1 hb_w7 b_rb1.size
  have b_ra2 := below_trans b_ra2 hb_w7 b_ra2.size
  have b_rb2 := below_trans b_rb2 hb_w7 b_rb2.size
  have b_ra3 := below_trans b_ra3 hb_w7 b_ra3.size
  clear hb_w7
  have rb3 := o_rb3.row
  have b_rb3 := Below.refl w7.heap.size w7
  obtain ⟨bp_0, bp_1, bp_2, bp_3, bp_4, bp_5, bp_6, bp_7, bp_8, bp_9, bp_f⟩ := id bp
  obtain ⟨bg_0, bg_1, bg_2, bg_3, bg_4, bg_5, bg_6, bg_7, bg_8, bg_9, bg_f⟩ := id bg
  have bp := bp.later ((Below.refl _ _).alloc (Nat.le_refl _) (.cells #[.int .i64 q3.pct, .int .u64 (q3.least : Nat), .int .u64 (q3.live : Nat), .bool q3.on, .int .u64 (q3.est : Nat), .int .u64 (q3.room : Nat), .int .u64 (q3.credit : Nat), .int .u64 (q3.done : Nat), .int .u64 (q3.made : Nat), .slice B3 q3.ds.length d3] 25))
  have bg := bg.later ((Below.refl _ _).alloc (Nat.le_refl _) (.cells #[.int .i64 q3.pct, .int .u64 (q3.least : Nat), .int .u64 (q3.live : Nat), .bool q3.on, .int .u64 (q3.est : Nat), .int .u64 (q3.room : Nat), .int .u64 (q3.credit : Nat), .int .u64 (q3.done : Nat), .int .u64 (q3.made : Nat), .slice B3 q3.ds.length d3] 25))
  have ba1 := ba1.later ((Below.refl _ _).alloc (Nat.le_refl _) (.cells #[.int .i64 q3.pct, .int .u64 (q3.least : Nat), .int .u64 (q3.live : Nat), .bool q3.on, .int .u64 (q3.est : Nat), .int .u64 (q3.room : Nat), .int .u64 (q3.credit : Nat), .int .u64 (q3.done : Nat), .int .u64 (q3.made : Nat), .slice B3 q3.ds.length d3] 25))
  have bb1 := bb1.later ((Below.refl _ _).alloc (Nat.le_refl _) (.cells #[.int .i64 q3.pct, .int .u64 (q3.least : Nat), .int .u64 (q3.live : Nat), .bool q3.on, .int .u64 (q3.est : Nat), .int .u64 (q3.room : Nat), .int .u64 (q3.credit : Nat), .int .u64 (q3.done : Nat), .int .u64 (q3.made : Nat), .slice B3 q3.ds.length d3] 25))
  have ba2 := ba2.later ((Below.refl _ _).alloc (Nat.le_refl _) (.cells #[.int .i64 q3.pct, .int .u64 (q3.least : Nat), .int .u64 (q3.live : Nat), .bool q3.on, .int .u64 (q3.est : Nat), .int .u64 (q3.room : Nat), .int .u64 (q3.credit : Nat), .int .u64 (q3.done : Nat), .int .u64 (q3.made : Nat), .slice B3 q3.ds.length d3] 25))
  have bb2 := bb2.later ((Below.refl _ _).alloc (Nat.le_refl _) (.cells #[.int .i64 q3.pct, .int .u64 (q3.least : Nat), .int .u64 (q3.live : Nat), .bool q3.on, .int .u64 (q3.est : Nat), .int .u64 (q3.room : Nat), .int .u64 (q3.credit : Nat), .int .u64 (q3.done : Nat), .int .u64 (q3.made : Nat), .slice B3 q3.ds.length d3] 25))
  have ba3 := ba3.later ((Below.refl _ _).alloc (Nat.le_refl _) (.cells #[.int .i64 q3.pct, .int .u64 (q3.least : Nat), .int .u64 (q3.live : Nat), .bool q3.on, .int .u64 (q3.est : Nat), .int .u64 (q3.room : Nat), .int .u64 (q3.credit : Nat), .int .u64 (q3.done : Nat), .int .u64 (q3.made : Nat), .slice B3 q3.ds.length d3] 25))
  have b_r1 : Below w.heap.size w (w7.alloc (.cells #[.int .i64 q3.pct, .int .u64 (q3.least : Nat), .int .u64 (q3.live : Nat), .bool q3.on, .int .u64 (q3.est : Nat), .int .u64 (q3.room : Nat), .int .u64 (q3.credit : Nat), .int .u64 (q3.done : Nat), .int .u64 (q3.made : Nat), .slice B3 q3.ds.length d3] 25)) := b_r1.alloc (by first | omega | (simp only [World.size_alloc, size_ten]; omega)) _
  have b_rs : Below w.heap.size w (w7.alloc (.cells #[.int .i64 q3.pct, .int .u64 (q3.least : Nat), .int .u64 (q3.live : Nat), .bool q3.on, .int .u64 (q3.est : Nat), .int .u64 (q3.room : Nat), .int .u64 (q3.credit : Nat), .int .u64 (q3.done : Nat), .int .u64 (q3.made : Nat), .slice B3 q3.ds.length d3] 25)) := b_rs.alloc (by first | omega | (simp only [World.size_alloc, size_ten]; omega)) _
  have b_rg : Below w1.heap.size w1 (w7.alloc (.cells #[.int .i64 q3.pct, .int .u64 (q3.least : Nat), .int .u64 (q3.live : Nat), .bool q3.on, .int .u64 (q3.est : Nat), .int .u64 (q3.room : Nat), .int .u64 (q3.credit : Nat), .int .u64 (q3.done : Nat), .int .u64 (q3.made : Nat), .slice B3 q3.ds.length d3] 25)) := b_rg.alloc (by first | omega | (simp only [World.size_alloc, size_ten]; omega)) _
  have b_ra1 : Below w2.heap.size w2 (w7.alloc (.cells #[.int .i64 q3.pct, .int .u64 (q3.least : Nat), .int .u64 (q3.live : Nat), .bool q3.on, .int .u64 (q3.est : Nat), .int .u64 (q3.room : Nat), .int .u64 (q3.credit : Nat), .int .u64 (q3.done : Nat), .int .u64 (q3.made : Nat), .slice B3 q3.ds.length d3] 25)) := b_ra1.alloc (by first | omega | (simp only [World.size_alloc, size_ten]; omega)) _
  have b_rb1 : Below w3.heap.size w3 (w7.alloc (.cells #[.int .i64 q3.pct, .int .u64 (q3.least : Nat), .int .u64 (q3.live : Nat), .bool q3.on, .int .u64 (q3.est : Nat), .int .u64 (q3.room : Nat), .int .u64 (q3.credit : Nat), .int .u64 (q3.done : Nat), .int .u64 (q3.made : Nat), .slice B3 q3.ds.length d3] 25)) := b_rb1.alloc (by first | omega | (simp only [World.size_alloc, size_ten]; omega)) _
  have b_ra2 : Below w4.heap.size w4 (w7.alloc (.cells #[.int .i64 q3.pct, .int .u64 (q3.least : Nat), .int .u64 (q3.live : Nat), .bool q3.on, .int .u64 (q3.est : Nat), .int .u64 (q3.room : Nat), .int .u64 (q3.credit : Nat), .int .u64 (q3.done : Nat), .int .u64 (q3.made : Nat), .slice B3 q3.ds.length d3] 25)) := b_ra2.alloc (by first | omega | (simp only [World.size_alloc, size_ten]; omega)) _
  have b_rb2 : Below w5.heap.size w5 (w7.alloc (.cells #[.int .i64 q3.pct, .int .u64 (q3.least : Nat), .int .u64 (q3.live : Nat), .bool q3.on, .int .u64 (q3.est : Nat), .int .u64 (q3.room : Nat), .int .u64 (q3.credit : Nat), .int .u64 (q3.done : Nat), .int .u64 (q3.made : Nat), .slice B3 q3.ds.length d3] 25)) := b_rb2.alloc (by first | omega | (simp only [World.size_alloc, size_ten]; omega)) _
  have b_ra3 : Below w6.heap.size w6 (w7.alloc (.cells #[.int .i64 q3.pct, .int .u64 (q3.least : Nat), .int .u64 (q3.live : Nat), .bool q3.on, .int .u64 (q3.est : Nat), .int .u64 (q3.room : Nat), .int .u64 (q3.credit : Nat), .int .u64 (q3.done : Nat), .int .u64 (q3.made : Nat), .slice B3 q3.ds.length d3] 25)) := b_ra3.alloc (by first | omega | (simp only [World.size_alloc, size_ten]; omega)) _
  have b_rb3 : Below w7.heap.size w7 (w7.alloc (.cells #[.int .i64 q3.pct, .int .u64 (q3.least : Nat), .int .u64 (q3.live : Nat), .bool q3.on, .int .u64 (q3.est : Nat), .int .u64 (q3.room : Nat), .int .u64 (q3.credit : Nat), .int .u64 (q3.done : Nat), .int .u64 (q3.made : Nat), .slice B3 q3.ds.length d3] 25)) := b_rb3.alloc (by first | omega | (simp only [World.size_alloc, size_ten]; omega)) _
  have bb3 := Ten.new w7 (.int .i64 q3.pct) (.int .u64 (q3.least : Nat)) (.int .u64 (q3.live : Nat)) (.bool q3.on) (.int .u64 (q3.est : Nat)) (.int .u64 (q3.room : Nat)) (.int .u64 (q3.credit : Nat)) (.int .u64 (q3.done : Nat)) (.int .u64 (q3.made : Nat)) (.slice B3 q3.ds.length d3) 25
  (try simp only [World.size_alloc, size_ten] at bb3)
  go_wp2_with fail
  go_at_call 26
  refine (H4.out _ G gc (by exact rg.later b_rg) ng (by exact rs.later b_rs)).mono ?_
  rintro e w8 ⟨A4, c4, rfl, o_ra4, hb_w8⟩
  clear bp_0 bp_1 bp_2 bp_3 bp_4 bp_5 bp_6 bp_7 bp_8 bp_9 bp_f
  clear bg_0 bg_1 bg_2 bg_3 bg_4 bg_5 bg_6 bg_7 bg_8 bg_9 bg_f
  have s_w8 := hb_w8.size
  (try simp only [World.size_alloc, size_ten] at s_w8)
  have bp := bp.later hb_w8
  have bp_lt := bp.lt
  have bg := bg.later hb_w8
  have bg_lt := bg.lt
  have ba1 := ba1.later hb_w8
  have ba1_lt := ba1.lt
  have bb1 := bb1.later hb_w8
  have bb1_lt := bb1.lt
  have ba2 := ba2.later hb_w8
  have ba2_lt := ba2.lt
  have bb2 := bb2.later hb_w8
  have bb2_lt := bb2.lt
  have ba3 := ba3.later hb_w8
  have ba3_lt := ba3.lt
  have bb3 := bb3.later hb_w8
  have bb3_lt := bb3.lt
  have b_r1 := below_trans b_r1 hb_w8 b_r1.size
  have b_rs := below_trans b_rs hb_w8 b_rs.size
  have b_rg := below_trans b_rg hb_w8 b_rg.size
  have b_ra1 := below_trans b_ra1 hb_w8 b_ra1.size
  have b_rb1 := below_trans b_rb1 hb_w8 b_rb1.size
  have b_ra2 := below_trans b_ra2 hb_w8 b_ra2.size
  have b_rb2 := below_trans b_rb2 hb_w8 b_rb2.size
  have b_ra3 := below_trans b_ra3 hb_w8 b_ra3.size
  have b_rb3 := below_trans b_rb3 hb_w8 b_rb3.size
  clear hb_w8
  have ra4 := o_ra4.row
  have b_ra4 := Below.refl w8.heap.size w8
  obtain ⟨bp_0, bp_1, bp_2, bp_3, bp_4, bp_5, bp_6, bp_7, bp_8, bp_9, bp_f⟩ := id bp
  obtain ⟨bg_0, bg_1, bg_2, bg_3, bg_4, bg_5, bg_6, bg_7, bg_8, bg_9, bg_f⟩ := id bg
  have bp := bp.later ((Below.refl _ _).alloc (Nat.le_refl _) (.cells #[.int .i64 q4.pct, .int .u64 (q4.least : Nat), .int .u64 (q4.live : Nat), .bool q4.on, .int .u64 (q4.est : Nat), .int .u64 (q4.room : Nat), .int .u64 (q4.credit : Nat), .int .u64 (q4.done : Nat), .int .u64 (q4.made : Nat), .slice A4 q4.ds.length c4] 25))
  have bg := bg.later ((Below.refl _ _).alloc (Nat.le_refl _) (.cells #[.int .i64 q4.pct, .int .u64 (q4.least : Nat), .int .u64 (q4.live : Nat), .bool q4.on, .int .u64 (q4.est : Nat), .int .u64 (q4.room : Nat), .int .u64 (q4.credit : Nat), .int .u64 (q4.done : Nat), .int .u64 (q4.made : Nat), .slice A4 q4.ds.length c4] 25))
  have ba1 := ba1.later ((Below.refl _ _).alloc (Nat.le_refl _) (.cells #[.int .i64 q4.pct, .int .u64 (q4.least : Nat), .int .u64 (q4.live : Nat), .bool q4.on, .int .u64 (q4.est : Nat), .int .u64 (q4.room : Nat), .int .u64 (q4.credit : Nat), .int .u64 (q4.done : Nat), .int .u64 (q4.made : Nat), .slice A4 q4.ds.length c4] 25))
  have bb1 := bb1.later ((Below.refl _ _).alloc (Nat.le_refl _) (.cells #[.int .i64 q4.pct, .int .u64 (q4.least : Nat), .int .u64 (q4.live : Nat), .bool q4.on, .int .u64 (q4.est : Nat), .int .u64 (q4.room : Nat), .int .u64 (q4.credit : Nat), .int .u64 (q4.done : Nat), .int .u64 (q4.made : Nat), .slice A4 q4.ds.length c4] 25))
  have ba2 := ba2.later ((Below.refl _ _).alloc (Nat.le_refl _) (.cells #[.int .i64 q4.pct, .int .u64 (q4.least : Nat), .int .u64 (q4.live : Nat), .bool q4.on, .int .u64 (q4.est : Nat), .int .u64 (q4.room : Nat), .int .u64 (q4.credit : Nat), .int .u64 (q4.done : Nat), .int .u64 (q4.made : Nat), .slice A4 q4.ds.length c4] 25))
  have bb2 := bb2.later ((Below.refl _ _).alloc (Nat.le_refl _) (.cells #[.int .i64 q4.pct, .int .u64 (q4.least : Nat), .int .u64 (q4.live : Nat), .bool q4.on, .int .u64 (q4.est : Nat), .int .u64 (q4.room : Nat), .int .u64 (q4.credit : Nat), .int .u64 (q4.done : Nat), .int .u64 (q4.made : Nat), .slice A4 q4.ds.length c4] 25))
  have ba3 := ba3.later ((Below.refl _ _).alloc (Nat.le_refl _) (.cells #[.int .i64 q4.pct, .int .u64 (q4.least : Nat), .int .u64 (q4.live : Nat), .bool q4.on, .int .u64 (q4.est : Nat), .int .u64 (q4.room : Nat), .int .u64 (q4.credit : Nat), .int .u64 (q4.done : Nat), .int .u64 (q4.made : Nat), .slice A4 q4.ds.length c4] 25))
  have bb3 := bb3.later ((Below.refl _ _).alloc (Nat.le_refl _) (.cells #[.int .i64 q4.pct, .int .u64 (q4.least : Nat), .int .u64 (q4.live : Nat), .bool q4.on, .int .u64 (q4.est : Nat), .int .u64 (q4.room : Nat), .int .u64 (q4.credit : Nat), .int .u64 (q4.done : Nat), .int .u64 (q4.made : Nat), .slice A4 q4.ds.length c4] 25))
  have b_r1 : Below w.heap.size w (w8.alloc (.cells #[.int .i64 q4.pct, .int .u64 (q4.least : Nat), .int .u64 (q4.live : Nat), .bool q4.on, .int .u64 (q4.est : Nat), .int .u64 (q4.room : Nat), .int .u64 (q4.credit : Nat), .int .u64 (q4.done : Nat), .int .u64 (q4.made : Nat), .slice A4 q4.ds.length c4] 25)) := b_r1.alloc (by first | omega | (simp only [World.size_alloc, size_ten]; omega)) _
  have b_rs : Below w.heap.size w (w8.alloc (.cells #[.int .i64 q4.pct, .int .u64 (q4.least : Nat), .int .u64 (q4.live : Nat), .bool q4.on, .int .u64 (q4.est : Nat), .int .u64 (q4.room : Nat), .int .u64 (q4.credit : Nat), .int .u64 (q4.done : Nat), .int .u64 (q4.made : Nat), .slice A4 q4.ds.length c4] 25)) := b_rs.alloc (by first | omega | (simp only [World.size_alloc, size_ten]; omega)) _
  have b_rg : Below w1.heap.size w1 (w8.alloc (.cells #[.int .i64 q4.pct, .int .u64 (q4.least : Nat), .int .u64 (q4.live : Nat), .bool q4.on, .int .u64 (q4.est : Nat), .int .u64 (q4.room : Nat), .int .u64 (q4.credit : Nat), .int .u64 (q4.done : Nat), .int .u64 (q4.made : Nat), .slice A4 q4.ds.length c4] 25)) := b_rg.alloc (by first | omega | (simp only [World.size_alloc, size_ten]; omega)) _
  have b_ra1 : Below w2.heap.size w2 (w8.alloc (.cells #[.int .i64 q4.pct, .int .u64 (q4.least : Nat), .int .u64 (q4.live : Nat), .bool q4.on, .int .u64 (q4.est : Nat), .int .u64 (q4.room : Nat), .int .u64 (q4.credit : Nat), .int .u64 (q4.done : Nat), .int .u64 (q4.made : Nat), .slice A4 q4.ds.length c4] 25)) := b_ra1.alloc (by first | omega | (simp only [World.size_alloc, size_ten]; omega)) _
  have b_rb1 : Below w3.heap.size w3 (w8.alloc (.cells #[.int .i64 q4.pct, .int .u64 (q4.least : Nat), .int .u64 (q4.live : Nat), .bool q4.on, .int .u64 (q4.est : Nat), .int .u64 (q4.room : Nat), .int .u64 (q4.credit : Nat), .int .u64 (q4.done : Nat), .int .u64 (q4.made : Nat), .slice A4 q4.ds.length c4] 25)) := b_rb1.alloc (by first | omega | (simp only [World.size_alloc, size_ten]; omega)) _
  have b_ra2 : Below w4.heap.size w4 (w8.alloc (.cells #[.int .i64 q4.pct, .int .u64 (q4.least : Nat), .int .u64 (q4.live : Nat), .bool q4.on, .int .u64 (q4.est : Nat), .int .u64 (q4.room : Nat), .int .u64 (q4.credit : Nat), .int .u64 (q4.done : Nat), .int .u64 (q4.made : Nat), .slice A4 q4.ds.length c4] 25)) := b_ra2.alloc (by first | omega | (simp only [World.size_alloc, size_ten]; omega)) _
  have b_rb2 : Below w5.heap.size w5 (w8.alloc (.cells #[.int .i64 q4.pct, .int .u64 (q4.least : Nat), .int .u64 (q4.live : Nat), .bool q4.on, .int .u64 (q4.est : Nat), .int .u64 (q4.room : Nat), .int .u64 (q4.credit : Nat), .int .u64 (q4.done : Nat), .int .u64 (q4.made : Nat), .slice A4 q4.ds.length c4] 25)) := b_rb2.alloc (by first | omega | (simp only [World.size_alloc, size_ten]; omega)) _
  have b_ra3 : Below w6.heap.size w6 (w8.alloc (.cells #[.int .i64 q4.pct, .int .u64 (q4.least : Nat), .int .u64 (q4.live : Nat), .bool q4.on, .int .u64 (q4.est : Nat), .int .u64 (q4.room : Nat), .int .u64 (q4.credit : Nat), .int .u64 (q4.done : Nat), .int .u64 (q4.made : Nat), .slice A4 q4.ds.length c4] 25)) := b_ra3.alloc (by first | omega | (simp only [World.size_alloc, size_ten]; omega)) _
  have b_rb3 : Below w7.heap.size w7 (w8.alloc (.cells #[.int .i64 q4.pct, .int .u64 (q4.least : Nat), .int .u64 (q4.live : Nat), .bool q4.on, .int .u64 (q4.est : Nat), .int .u64 (q4.room : Nat), .int .u64 (q4.credit : Nat), .int .u64 (q4.done : Nat), .int .u64 (q4.made : Nat), .slice A4 q4.ds.length c4] 25)) := b_rb3.alloc (by first | omega | (simp only [World.size_alloc, size_ten]; omega)) _
  have b_ra4 : Below w8.heap.size w8 (w8.alloc (.cells #[.int .i64 q4.pct, .int .u64 (q4.least : Nat), .int .u64 (q4.live : Nat), .bool q4.on, .int .u64 (q4.est : Nat), .int .u64 (q4.room : Nat), .int .u64 (q4.credit : Nat), .int .u64 (q4.done : Nat), .int .u64 (q4.made : Nat), .slice A4 q4.ds.length c4] 25)) := b_ra4.alloc (by first | omega | (simp only [World.size_alloc, size_ten]; omega)) _
  have ba4 := Ten.new w8 (.int .i64 q4.pct) (.int .u64 (q4.least : Nat)) (.int .u64 (q4.live : Nat)) (.bool q4.on) (.int .u64 (q4.est : Nat)) (.int .u64 (q4.room : Nat)) (.int .u64 (q4.credit : Nat)) (.int .u64 (q4.done : Nat)) (.int .u64 (q4.made : Nat)) (.slice A4 q4.ds.length c4) 25
  (try simp only [World.size_alloc, size_ten] at ba4)
  go_wp2_with fail
  go_at_call 27
  refine (X4.out _ (by exact r1.later b_r1) (by exact rs.later b_rs)).mono ?_
  rintro e w9 ⟨B4, d4, rfl, o_rb4, hb_w9⟩
  clear bp_0 bp_1 bp_2 bp_3 bp_4 bp_5 bp_6 bp_7 bp_8 bp_9 bp_f
  clear bg_0 bg_1 bg_2 bg_3 bg_4 bg_5 bg_6 bg_7 bg_8 bg_9 bg_f
  have s_w9 := hb_w9.size
  (try simp only [World.size_alloc, size_ten] at s_w9)
  have bp := bp.later hb_w9
  have bp_lt := bp.lt
  have bg := bg.later hb_w9
  have bg_lt := bg.lt
  have ba1 := ba1.later hb_w9
  have ba1_lt := ba1.lt
  have bb1 := bb1.later hb_w9
  have bb1_lt := bb1.lt
  have ba2 := ba2.later hb_w9
  have ba2_lt := ba2.lt
  have bb2 := bb2.later hb_w9
  have bb2_lt := bb2.lt
  have ba3 := ba3.later hb_w9
  have ba3_lt := ba3.lt
  have bb3 := bb3.later hb_w9
  have bb3_lt := bb3.lt
  have ba4 := ba4.later hb_w9
  have ba4_lt := ba4.lt
  have b_r1 := below_trans b_r1 hb_w9 b_r1.size
  have b_rs := below_trans b_rs hb_w9 b_rs.size
  have b_rg := below_trans b_rg hb_w9 b_rg.size
  have b_ra1 := below_trans b_ra1 hb_w9 b_ra1.size
  have b_rb1 := below_trans b_rb1 hb_w9 b_rb1.size
  have b_ra2 := below_trans b_ra2 hb_w9 b_ra2.size
  have b_rb2 := below_trans b_rb2 hb_w9 b_rb2.size
  have b_ra3 := below_trans b_ra3 hb_w9 b_ra3.size
  have b_rb3 := below_trans b_rb3 hb_w9 b_rb3.size
  have b_ra4 := below_trans b_ra4 hb_w9 b_ra4.size
  clear hb_w9
  have rb4 := o_rb4.row
  have b_rb4 := Below.refl w9.heap.size w9
  obtain ⟨bp_0, bp_1, bp_2, bp_3, bp_4, bp_5, bp_6, bp_7, bp_8, bp_9, bp_f⟩ := id bp
  obtain ⟨bg_0, bg_1, bg_2, bg_3, bg_4, bg_5, bg_6, bg_7, bg_8, bg_9, bg_f⟩ := id bg
  have bp := bp.later ((Below.refl _ _).alloc (Nat.le_refl _) (.cells #[.int .i64 q4.pct, .int .u64 (q4.least : Nat), .int .u64 (q4.live : Nat), .bool q4.on, .int .u64 (q4.est : Nat), .int .u64 (q4.room : Nat), .int .u64 (q4.credit : Nat), .int .u64 (q4.done : Nat), .int .u64 (q4.made : Nat), .slice B4 q4.ds.length d4] 25))
  have bg := bg.later ((Below.refl _ _).alloc (Nat.le_refl _) (.cells #[.int .i64 q4.pct, .int .u64 (q4.least : Nat), .int .u64 (q4.live : Nat), .bool q4.on, .int .u64 (q4.est : Nat), .int .u64 (q4.room : Nat), .int .u64 (q4.credit : Nat), .int .u64 (q4.done : Nat), .int .u64 (q4.made : Nat), .slice B4 q4.ds.length d4] 25))
  have ba1 := ba1.later ((Below.refl _ _).alloc (Nat.le_refl _) (.cells #[.int .i64 q4.pct, .int .u64 (q4.least : Nat), .int .u64 (q4.live : Nat), .bool q4.on, .int .u64 (q4.est : Nat), .int .u64 (q4.room : Nat), .int .u64 (q4.credit : Nat), .int .u64 (q4.done : Nat), .int .u64 (q4.made : Nat), .slice B4 q4.ds.length d4] 25))
  have bb1 := bb1.later ((Below.refl _ _).alloc (Nat.le_refl _) (.cells #[.int .i64 q4.pct, .int .u64 (q4.least : Nat), .int .u64 (q4.live : Nat), .bool q4.on, .int .u64 (q4.est : Nat), .int .u64 (q4.room : Nat), .int .u64 (q4.credit : Nat), .int .u64 (q4.done : Nat), .int .u64 (q4.made : Nat), .slice B4 q4.ds.length d4] 25))
  have ba2 := ba2.later ((Below.refl _ _).alloc (Nat.le_refl _) (.cells #[.int .i64 q4.pct, .int .u64 (q4.least : Nat), .int .u64 (q4.live : Nat), .bool q4.on, .int .u64 (q4.est : Nat), .int .u64 (q4.room : Nat), .int .u64 (q4.credit : Nat), .int .u64 (q4.done : Nat), .int .u64 (q4.made : Nat), .slice B4 q4.ds.length d4] 25))
  have bb2 := bb2.later ((Below.refl _ _).alloc (Nat.le_refl _) (.cells #[.int .i64 q4.pct, .int .u64 (q4.least : Nat), .int .u64 (q4.live : Nat), .bool q4.on, .int .u64 (q4.est : Nat), .int .u64 (q4.room : Nat), .int .u64 (q4.credit : Nat), .int .u64 (q4.done : Nat), .int .u64 (q4.made : Nat), .slice B4 q4.ds.length d4] 25))
  have ba3 := ba3.later ((Below.refl _ _).alloc (Nat.le_refl _) (.cells #[.int .i64 q4.pct, .int .u64 (q4.least : Nat), .int .u64 (q4.live : Nat), .bool q4.on, .int .u64 (q4.est : Nat), .int .u64 (q4.room : Nat), .int .u64 (q4.credit : Nat), .int .u64 (q4.done : Nat), .int .u64 (q4.made : Nat), .slice B4 q4.ds.length d4] 25))
  have bb3 := bb3.later ((Below.refl _ _).alloc (Nat.le_refl _) (.cells #[.int .i64 q4.pct, .int .u64 (q4.least : Nat), .int .u64 (q4.live : Nat), .bool q4.on, .int .u64 (q4.est : Nat), .int .u64 (q4.room : Nat), .int .u64 (q4.credit : Nat), .int .u64 (q4.done : Nat), .int .u64 (q4.made : Nat), .slice B4 q4.ds.length d4] 25))
  have ba4 := ba4.later ((Below.refl _ _).alloc (Nat.le_refl _) (.cells #[.int .i64 q4.pct, .int .u64 (q4.least : Nat), .int .u64 (q4.live : Nat), .bool q4.on, .int .u64 (q4.est : Nat), .int .u64 (q4.room : Nat), .int .u64 (q4.credit : Nat), .int .u64 (q4.done : Nat), .int .u64 (q4.made : Nat), .slice B4 q4.ds.length d4] 25))
  have b_r1 : Below w.heap.size w (w9.alloc (.cells #[.int .i64 q4.pct, .int .u64 (q4.least : Nat), .int .u64 (q4.live : Nat), .bool q4.on, .int .u64 (q4.est : Nat), .int .u64 (q4.room : Nat), .int .u64 (q4.credit : Nat), .int .u64 (q4.done : Nat), .int .u64 (q4.made : Nat), .slice B4 q4.ds.length d4] 25)) := b_r1.alloc (by first | omega | (simp only [World.size_alloc, size_ten]; omega)) _
  have b_rs : Below w.heap.size w (w9.alloc (.cells #[.int .i64 q4.pct, .int .u64 (q4.least : Nat), .int .u64 (q4.live : Nat), .bool q4.on, .int .u64 (q4.est : Nat), .int .u64 (q4.room : Nat), .int .u64 (q4.credit : Nat), .int .u64 (q4.done : Nat), .int .u64 (q4.made : Nat), .slice B4 q4.ds.length d4] 25)) := b_rs.alloc (by first | omega | (simp only [World.size_alloc, size_ten]; omega)) _
  have b_rg : Below w1.heap.size w1 (w9.alloc (.cells #[.int .i64 q4.pct, .int .u64 (q4.least : Nat), .int .u64 (q4.live : Nat), .bool q4.on, .int .u64 (q4.est : Nat), .int .u64 (q4.room : Nat), .int .u64 (q4.credit : Nat), .int .u64 (q4.done : Nat), .int .u64 (q4.made : Nat), .slice B4 q4.ds.length d4] 25)) := b_rg.alloc (by first | omega | (simp only [World.size_alloc, size_ten]; omega)) _
  have b_ra1 : Below w2.heap.size w2 (w9.alloc (.cells #[.int .i64 q4.pct, .int .u64 (q4.least : Nat), .int .u64 (q4.live : Nat), .bool q4.on, .int .u64 (q4.est : Nat), .int .u64 (q4.room : Nat), .int .u64 (q4.credit : Nat), .int .u64 (q4.done : Nat), .int .u64 (q4.made : Nat), .slice B4 q4.ds.length d4] 25)) := b_ra1.alloc (by first | omega | (simp only [World.size_alloc, size_ten]; omega)) _
  have b_rb1 : Below w3.heap.size w3 (w9.alloc (.cells #[.int .i64 q4.pct, .int .u64 (q4.least : Nat), .int .u64 (q4.live : Nat), .bool q4.on, .int .u64 (q4.est : Nat), .int .u64 (q4.room : Nat), .int .u64 (q4.credit : Nat), .int .u64 (q4.done : Nat), .int .u64 (q4.made : Nat), .slice B4 q4.ds.length d4] 25)) := b_rb1.alloc (by first | omega | (simp only [World.size_alloc, size_ten]; omega)) _
  have b_ra2 : Below w4.heap.size w4 (w9.alloc (.cells #[.int .i64 q4.pct, .int .u64 (q4.least : Nat), .int .u64 (q4.live : Nat), .bool q4.on, .int .u64 (q4.est : Nat), .int .u64 (q4.room : Nat), .int .u64 (q4.credit : Nat), .int .u64 (q4.done : Nat), .int .u64 (q4.made : Nat), .slice B4 q4.ds.length d4] 25)) := b_ra2.alloc (by first | omega | (simp only [World.size_alloc, size_ten]; omega)) _
  have b_rb2 : Below w5.heap.size w5 (w9.alloc (.cells #[.int .i64 q4.pct, .int .u64 (q4.least : Nat), .int .u64 (q4.live : Nat), .bool q4.on, .int .u64 (q4.est : Nat), .int .u64 (q4.room : Nat), .int .u64 (q4.credit : Nat), .int .u64 (q4.done : Nat), .int .u64 (q4.made : Nat), .slice B4 q4.ds.length d4] 25)) := b_rb2.alloc (by first | omega | (simp only [World.size_alloc, size_ten]; omega)) _
  have b_ra3 : Below w6.heap.size w6 (w9.alloc (.cells #[.int .i64 q4.pct, .int .u64 (q4.least : Nat), .int .u64 (q4.live : Nat), .bool q4.on, .int .u64 (q4.est : Nat), .int .u64 (q4.room : Nat), .int .u64 (q4.credit : Nat), .int .u64 (q4.done : Nat), .int .u64 (q4.made : Nat), .slice B4 q4.ds.length d4] 25)) := b_ra3.alloc (by first | omega | (simp only [World.size_alloc, size_ten]; omega)) _
  have b_rb3 : Below w7.heap.size w7 (w9.alloc (.cells #[.int .i64 q4.pct, .int .u64 (q4.least : Nat), .int .u64 (q4.live : Nat), .bool q4.on, .int .u64 (q4.est : Nat), .int .u64 (q4.room : Nat), .int .u64 (q4.credit : Nat), .int .u64 (q4.done : Nat), .int .u64 (q4.made : Nat), .slice B4 q4.ds.length d4] 25)) := b_rb3.alloc (by first | omega | (simp only [World.size_alloc, size_ten]; omega)) _
  have b_ra4 : Below w8.heap.size w8 (w9.alloc (.cells #[.int .i64 q4.pct, .int .u64 (q4.least : Nat), .int .u64 (q4.live : Nat), .bool q4.on, .int .u64 (q4.est : Nat), .int .u64 (q4.room : Nat), .int .u64 (q4.credit : Nat), .int .u64 (q4.done : Nat), .int .u64 (q4.made : Nat), .slice B4 q4.ds.length d4] 25)) := b_ra4.alloc (by first | omega | (simp only [World.size_alloc, size_ten]; omega)) _
  have b_rb4 : Below w9.heap.size w9 (w9.alloc (.cells #[.int .i64 q4.pct, .int .u64 (q4.least : Nat), .int .u64 (q4.live : Nat), .bool q4.on, .int .u64 (q4.est : Nat), .int .u64 (q4.room : Nat), .int .u64 (q4.credit : Nat), .int .u64 (q4.done : Nat), .int .u64 (q4.made : Nat), .slice B4 q4.ds.length d4] 25)) := b_rb4.alloc (by first | omega | (simp only [World.size_alloc, size_ten]; omega)) _
  have bb4 := Ten.new w9 (.int .i64 q4.pct) (.int .u64 (q4.least : Nat)) (.int .u64 (q4.live : Nat)) (.bool q4.on) (.int .u64 (q4.est : Nat)) (.int .u64 (q4.room : Nat)) (.int .u64 (q4.credit : Nat)) (.int .u64 (q4.done : Nat)) (.int .u64 (q4.made : Nat)) (.slice B4 q4.ds.length d4) 25
  (try simp only [World.size_alloc, size_ten] at bb4)
  go_wp2_with fail
  go_at_call 15
  refine (HLv.out _).mono ?_
  rintro e w10 ⟨rfl, hb_w10⟩
  clear bp_0 bp_1 bp_2 bp_3 bp_4 bp_5 bp_6 bp_7 bp_8 bp_9 bp_f
  clear bg_0 bg_1 bg_2 bg_3 bg_4 bg_5 bg_6 bg_7 bg_8 bg_9 bg_f
  have s_w10 := hb_w10.size
  (try simp only [World.size_alloc, size_ten] at s_w10)
  have bp := bp.later hb_w10
  have bp_lt := bp.lt
  have bg := bg.later hb_w10
  have bg_lt := bg.lt
  have ba1 := ba1.later hb_w10
  have ba1_lt := ba1.lt
  have bb1 := bb1.later hb_w10
  have bb1_lt := bb1.lt
  have ba2 := ba2.later hb_w10
  have ba2_lt := ba2.lt
  have bb2 := bb2.later hb_w10
  have bb2_lt := bb2.lt
  have ba3 := ba3.later hb_w10
  have ba3_lt := ba3.lt
  have bb3 := bb3.later hb_w10
  have bb3_lt := bb3.lt
  have ba4 := ba4.later hb_w10
  have ba4_lt := ba4.lt
  have bb4 := bb4.later hb_w10
  have bb4_lt := bb4.lt
  have b_r1 := below_trans b_r1 hb_w10 b_r1.size
  have b_rs := below_trans b_rs hb_w10 b_rs.size
  have b_rg := below_trans b_rg hb_w10 b_rg.size
  have b_ra1 := below_trans b_ra1 hb_w10 b_ra1.size
  have b_rb1 := below_trans b_rb1 hb_w10 b_rb1.size
  have b_ra2 := below_trans b_ra2 hb_w10 b_ra2.size
  have b_rb2 := below_trans b_rb2 hb_w10 b_rb2.size
  have b_ra3 := below_trans b_ra3 hb_w10 b_ra3.size
  have b_rb3 := below_trans b_rb3 hb_w10 b_rb3.size
  have b_ra4 := below_trans b_ra4 hb_w10 b_ra4.size
  have b_rb4 := below_trans b_rb4 hb_w10 b_rb4.size
  clear hb_w10
  obtain ⟨ba1_0, ba1_1, ba1_2, ba1_3, ba1_4, ba1_5, ba1_6, ba1_7, ba1_8, ba1_9, ba1_f⟩ := id ba1
  obtain ⟨bb1_0, bb1_1, bb1_2, bb1_3, bb1_4, bb1_5, bb1_6, bb1_7, bb1_8, bb1_9, bb1_f⟩ := id bb1
  go_wp2_with fail
  go_at_call 16
  refine (HS.out _ q1 _ _ _ _ (by exact ra1.later b_ra1) (by exact rb1.later b_rb1) l1).mono ?_
  rintro e w11 ⟨rfl, hb_w11⟩
  clear ba1_0 ba1_1 ba1_2 ba1_3 ba1_4 ba1_5 ba1_6 ba1_7 ba1_8 ba1_9 ba1_f
  clear bb1_0 bb1_1 bb1_2 bb1_3 bb1_4 bb1_5 bb1_6 bb1_7 bb1_8 bb1_9 bb1_f
  have s_w11 := hb_w11.size
  (try simp only [World.size_alloc, size_ten] at s_w11)
  have bp := bp.later hb_w11
  have bp_lt := bp.lt
  have bg := bg.later hb_w11
  have bg_lt := bg.lt
  have ba1 := ba1.later hb_w11
  have ba1_lt := ba1.lt
  have bb1 := bb1.later hb_w11
  have bb1_lt := bb1.lt
  have ba2 := ba2.later hb_w11
  have ba2_lt := ba2.lt
  have bb2 := bb2.later hb_w11
  have bb2_lt := bb2.lt
  have ba3 := ba3.later hb_w11
  have ba3_lt := ba3.lt
  have bb3 := bb3.later hb_w11
  have bb3_lt := bb3.lt
  have ba4 := ba4.later hb_w11
  have ba4_lt := ba4.lt
  have bb4 := bb4.later hb_w11
  have bb4_lt := bb4.lt
  have b_r1 := below_trans b_r1 hb_w11 b_r1.size
  have b_rs := below_trans b_rs hb_w11 b_rs.size
  have b_rg := below_trans b_rg hb_w11 b_rg.size
  have b_ra1 := below_trans b_ra1 hb_w11 b_ra1.size
  have b_rb1 := below_trans b_rb1 hb_w11 b_rb1.size
  have b_ra2 := below_trans b_ra2 hb_w11 b_ra2.size
  have b_rb2 := below_trans b_rb2 hb_w11 b_rb2.size
  have b_ra3 := below_trans b_ra3 hb_w11 b_ra3.size
  have b_rb3 := below_trans b_rb3 hb_w11 b_rb3.size
  have b_ra4 := below_trans b_ra4 hb_w11 b_ra4.size
  have b_rb4 := below_trans b_rb4 hb_w11 b_rb4.size
  clear hb_w11
  obtain ⟨ba2_0, ba2_1, ba2_2, ba2_3, ba2_4, ba2_5, ba2_6, ba2_7, ba2_8, ba2_9, ba2_f⟩ := id ba2
  obtain ⟨bb2_0, bb2_1, bb2_2, bb2_3, bb2_4, bb2_5, bb2_6, bb2_7, bb2_8, bb2_9, bb2_f⟩ := id bb2
  go_wp2_with fail
  go_at_call 16
  refine (HS.out _ q2 _ _ _ _ (by exact ra2.later b_ra2) (by exact rb2.later b_rb2) l2).mono ?_
  rintro e w12 ⟨rfl, hb_w12⟩
  clear ba2_0 ba2_1 ba2_2 ba2_3 ba2_4 ba2_5 ba2_6 ba2_7 ba2_8 ba2_9 ba2_f
  clear bb2_0 bb2_1 bb2_2 bb2_3 bb2_4 bb2_5 bb2_6 bb2_7 bb2_8 bb2_9 bb2_f
  have s_w12 := hb_w12.size
  (try simp only [World.size_alloc, size_ten] at s_w12)
  have bp := bp.later hb_w12
  have bp_lt := bp.lt
  have bg := bg.later hb_w12
  have bg_lt := bg.lt
  have ba1 := ba1.later hb_w12
  have ba1_lt := ba1.lt
  have bb1 := bb1.later hb_w12
  have bb1_lt := bb1.lt
  have ba2 := ba2.later hb_w12
  have ba2_lt := ba2.lt
  have bb2 := bb2.later hb_w12
  have bb2_lt := bb2.lt
  have ba3 := ba3.later hb_w12
  have ba3_lt := ba3.lt
  have bb3 := bb3.later hb_w12
  have bb3_lt := bb3.lt
  have ba4 := ba4.later hb_w12
  have ba4_lt := ba4.lt
  have bb4 := bb4.later hb_w12
  have bb4_lt := bb4.lt
  have b_r1 := below_trans b_r1 hb_w12 b_r1.size
  have b_rs := below_trans b_rs hb_w12 b_rs.size
  have b_rg := below_trans b_rg hb_w12 b_rg.size
  have b_ra1 := below_trans b_ra1 hb_w12 b_ra1.size
  have b_rb1 := below_trans b_rb1 hb_w12 b_rb1.size
  have b_ra2 := below_trans b_ra2 hb_w12 b_ra2.size
  have b_rb2 := below_trans b_rb2 hb_w12 b_rb2.size
  have b_ra3 := below_trans b_ra3 hb_w12 b_ra3.size
  have b_rb3 := below_trans b_rb3 hb_w12 b_rb3.size
  have b_ra4 := below_trans b_ra4 hb_w12 b_ra4.size
  have b_rb4 := below_trans b_rb4 hb_w12 b_rb4.size
  clear hb_w12
  obtain ⟨ba3_0, ba3_1, ba3_2, ba3_3, ba3_4, ba3_5, ba3_6, ba3_7, ba3_8, ba3_9, ba3_f⟩ := id ba3
  obtain ⟨bb3_0, bb3_1, bb3_2, bb3_3, bb3_4, bb3_5, bb3_6, bb3_7, bb3_8, bb3_9, bb3_f⟩ := id bb3
  go_wp2_with fail
  go_at_call 16
  refine (HS.out _ q3 _ _ _ _ (by exact ra3.later b_ra3) (by exact rb3.later b_rb3) l3).mono ?_
  rintro e w13 ⟨rfl, hb_w13⟩
  clear ba3_0 ba3_1 ba3_2 ba3_3 ba3_4 ba3_5 ba3_6 ba3_7 ba3_8 ba3_9 ba3_f
  clear bb3_0 bb3_1 bb3_2 bb3_3 bb3_4 bb3_5 bb3_6 bb3_7 bb3_8 bb3_9 bb3_f
  have s_w13 := hb_w13.size
  (try simp only [World.size_alloc, size_ten] at s_w13)
  have bp := bp.later hb_w13
  have bp_lt := bp.lt
  have bg := bg.later hb_w13
  have bg_lt := bg.lt
  have ba1 := ba1.later hb_w13
  have ba1_lt := ba1.lt
  have bb1 := bb1.later hb_w13
  have bb1_lt := bb1.lt
  have ba2 := ba2.later hb_w13
  have ba2_lt := ba2.lt
  have bb2 := bb2.later hb_w13
  have bb2_lt := bb2.lt
  have ba3 := ba3.later hb_w13
  have ba3_lt := ba3.lt
  have bb3 := bb3.later hb_w13
  have bb3_lt := bb3.lt
  have ba4 := ba4.later hb_w13
  have ba4_lt := ba4.lt
  have bb4 := bb4.later hb_w13
  have bb4_lt := bb4.lt
  have b_r1 := below_trans b_r1 hb_w13 b_r1.size
  have b_rs := below_trans b_rs hb_w13 b_rs.size
  have b_rg := below_trans b_rg hb_w13 b_rg.size
  have b_ra1 := below_trans b_ra1 hb_w13 b_ra1.size
  have b_rb1 := below_trans b_rb1 hb_w13 b_rb1.size
  have b_ra2 := below_trans b_ra2 hb_w13 b_ra2.size
  have b_rb2 := below_trans b_rb2 hb_w13 b_rb2.size
  have b_ra3 := below_trans b_ra3 hb_w13 b_ra3.size
  have b_rb3 := below_trans b_rb3 hb_w13 b_rb3.size
  have b_ra4 := below_trans b_ra4 hb_w13 b_ra4.size
  have b_rb4 := below_trans b_rb4 hb_w13 b_rb4.size
  clear hb_w13
  obtain ⟨ba4_0, ba4_1, ba4_2, ba4_3, ba4_4, ba4_5, ba4_6, ba4_7, ba4_8, ba4_9, ba4_f⟩ := id ba4
  obtain ⟨bb4_0, bb4_1, bb4_2, bb4_3, bb4_4, bb4_5, bb4_6, bb4_7, bb4_8, bb4_9, bb4_f⟩ := id bb4
  go_wp2_with fail
  go_at_call 16
  refine (HS.out _ q4 _ _ _ _ (by exact ra4.later b_ra4) (by exact rb4.later b_rb4) l4).mono ?_
  rintro e w14 ⟨rfl, hb_w14⟩
  clear ba4_0 ba4_1 ba4_2 ba4_3 ba4_4 ba4_5 ba4_6 ba4_7 ba4_8 ba4_9 ba4_f
  clear bb4_0 bb4_1 bb4_2 bb4_3 bb4_4 bb4_5 bb4_6 bb4_7 bb4_8 bb4_9 bb4_f
  have s_w14 := hb_w14.size
  (try simp only [World.size_alloc, size_ten] at s_w14)
  have bp := bp.later hb_w14
  have bp_lt := bp.lt
  have bg := bg.later hb_w14
  have bg_lt := bg.lt
  have ba1 := ba1.later hb_w14
  have ba1_lt := ba1.lt
  have bb1 := bb1.later hb_w14
  have bb1_lt := bb1.lt
  have ba2 := ba2.later hb_w14
  have ba2_lt := ba2.lt
  have bb2 := bb2.later hb_w14
  have bb2_lt := bb2.lt
  have ba3 := ba3.later hb_w14
  have ba3_lt := ba3.lt
  have bb3 := bb3.later hb_w14
  have bb3_lt := bb3.lt
  have ba4 := ba4.later hb_w14
  have ba4_lt := ba4.lt
  have bb4 := bb4.later hb_w14
  have bb4_lt := bb4.lt
  have b_r1 := below_trans b_r1 hb_w14 b_r1.size
  have b_rs := below_trans b_rs hb_w14 b_rs.size
  have b_rg := below_trans b_rg hb_w14 b_rg.size
  have b_ra1 := below_trans b_ra1 hb_w14 b_ra1.size
  have b_rb1 := below_trans b_rb1 hb_w14 b_rb1.size
  have b_ra2 := below_trans b_ra2 hb_w14 b_ra2.size
  have b_rb2 := below_trans b_rb2 hb_w14 b_rb2.size
  have b_ra3 := below_trans b_ra3 hb_w14 b_ra3.size
  have b_rb3 := below_trans b_rb3 hb_w14 b_rb3.size
  have b_ra4 := below_trans b_ra4 hb_w14 b_ra4.size
  have b_rb4 := below_trans b_rb4 hb_w14 b_rb4.size
  clear hb_w14
  obtain ⟨bp_0, bp_1, bp_2, bp_3, bp_4, bp_5, bp_6, bp_7, bp_8, bp_9, bp_f⟩ := id bp
  obtain ⟨bg_0, bg_1, bg_2, bg_3, bg_4, bg_5, bg_6, bg_7, bg_8, bg_9, bg_f⟩ := id bg
  go_wp2_with fail
  go_at_call 16
  refine (HS.out _ p _ _ _ _ (by exact rg.later b_rg) (by exact r1.later b_r1) hl).mono ?_
  rintro e w15 ⟨rfl, hb_w15⟩
  clear bp_0 bp_1 bp_2 bp_3 bp_4 bp_5 bp_6 bp_7 bp_8 bp_9 bp_f
  clear bg_0 bg_1 bg_2 bg_3 bg_4 bg_5 bg_6 bg_7 bg_8 bg_9 bg_f
  have s_w15 := hb_w15.size
  (try simp only [World.size_alloc, size_ten] at s_w15)
  have bp := bp.later hb_w15
  have bp_lt := bp.lt
  have bg := bg.later hb_w15
  have bg_lt := bg.lt
  have ba1 := ba1.later hb_w15
  have ba1_lt := ba1.lt
  have bb1 := bb1.later hb_w15
  have bb1_lt := bb1.lt
  have ba2 := ba2.later hb_w15
  have ba2_lt := ba2.lt
  have bb2 := bb2.later hb_w15
  have bb2_lt := bb2.lt
  have ba3 := ba3.later hb_w15
  have ba3_lt := ba3.lt
  have bb3 := bb3.later hb_w15
  have bb3_lt := bb3.lt
  have ba4 := ba4.later hb_w15
  have ba4_lt := ba4.lt
  have bb4 := bb4.later hb_w15
  have bb4_lt := bb4.lt
  have b_r1 := below_trans b_r1 hb_w15 b_r1.size
  have b_rs := below_trans b_rs hb_w15 b_rs.size
  have b_rg := below_trans b_rg hb_w15 b_rg.size
  have b_ra1 := below_trans b_ra1 hb_w15 b_ra1.size
  have b_rb1 := below_trans b_rb1 hb_w15 b_rb1.size
  have b_ra2 := below_trans b_ra2 hb_w15 b_ra2.size
  have b_rb2 := below_trans b_rb2 hb_w15 b_rb2.size
  have b_ra3 := below_trans b_ra3 hb_w15 b_ra3.size
  have b_rb3 := below_trans b_rb3 hb_w15 b_rb3.size
  have b_ra4 := below_trans b_ra4 hb_w15 b_ra4.size
  have b_rb4 := below_trans b_rb4 hb_w15 b_rb4.size
  clear hb_w15
  go_wp2
  go_ret
  exact ⟨rfl, b_r1⟩
end
end Go.Proofs.Ytkdbcoibapcmjaa
