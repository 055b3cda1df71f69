/- The walks of the laws BitsOne and BitsFirst. -/
import Derived.Test.YtbhblffomlhopaaAsks
import Derived.Test.YtbhblffomlhopaaSpec2
namespace Go.Proofs.Ytbhblffomlhopaa
open Go.RowKit
set_option linter.unusedVariables false
set_option linter.unusedSimpArgs false

section
variable {N : Int} {A : Option Addr} {ws : List Nat} {w : World} (cap : Nat)
/- a change that is refused -/
set_option maxHeartbeats 1000000 in
theorem one_err (i o why : Int) (v : Bool) (M : Int) (us : List Nat) (hr : Row w w.heap.size A ws) (hne : (why != 0) = true)
    (G : ∀ (w : World) (A : Option Addr) (cap : Nat), Row w w.heap.size A ws → Calls Try.prog 22 #[.agg #[.int .i64 N, .slice A ws.length cap], .int .i64 i] w fun e w' => e = .returned (.tuple #[.bool false, .int .i64 why]) ∧ Below w.heap.size w w')
    (P : ∀ (w : World) (A : Option Addr) (cap : Nat), Row w w.heap.size A ws → Calls Try.prog 24 #[.agg #[.int .i64 N, .slice A ws.length cap], .int .i64 i, .bool v] w fun e w' => Fresh w M us why e w') :
    Calls Try.prog 8 #[.agg #[.int .i64 N, .slice A ws.length cap], .int .i64 i, .bool v, .int .i64 o] w fun e w' => e = .returned (.bool true) ∧ Below w.heap.size w w' := by
  have G1 := Lib.hid G
  have P1 := Lib.hid P
  have e1 : (why == why) = true := by simp
  clear G P
  go_enter Try.func8, Try.ntmps8
  go_wp2_with fail
  go_at_call 17
  refine (puts_any _).mono ?_
  rintro e w1 ⟨rfl, hb_w1⟩
  obtain ⟨hc_w1, hf_w1⟩ := bcell hb_w1; have hz_w1_w_0 : w.heap.size < w1.heap.size := (by have hzz := hb_w1.size; (try simp only [World.size_alloc, World.size_setCell, World.size_drew, World.heap_drewN] at hzz); omega); have hs_w1 := hb_w1.size; (try simp only [World.size_alloc, World.size_setCell, World.size_drew, World.heap_drewN] at hs_w1)
  go_wp2_with fail
  go_at_call 34
  refine (asks_any _).mono ?_
  rintro e w2 ⟨rfl, hb_w2⟩
  obtain ⟨hc_w2, hf_w2⟩ := bcell hb_w2; have hz_w2_w_0 : w.heap.size < w2.heap.size := (by have hzz := hb_w2.size; (try simp only [World.size_alloc, World.size_setCell, World.size_drew, World.heap_drewN] at hzz); omega); have hs_w2 := hb_w2.size; (try simp only [World.size_alloc, World.size_setCell, World.size_drew, World.heap_drewN] at hs_w2)
  go_wp2_with fail
  go_at_call 22
  refine (G1.out _ _ _ (hr.later (by repeat (first | exact Below.refl _ _ | assumption | (refine below_drewN ?_ _) | (refine Below.drew ?_) | (refine Below.alloc ?_ (by first | omega | (simp; omega) | simp) _) | (refine Below.setCell ?_ (by first | omega | (simp; omega) | simp) _) | (refine below_trans ?_ (by assumption) (by first | omega | (simp; omega) | simp)))))).mono ?_
  rintro e w3 ⟨rfl, hb_w3⟩
  obtain ⟨hc_w3, hf_w3⟩ := bcell hb_w3; have hz_w3_w_0 : w.heap.size < w3.heap.size := (by have hzz := hb_w3.size; (try simp only [World.size_alloc, World.size_setCell, World.size_drew, World.heap_drewN] at hzz); omega); have hs_w3 := hb_w3.size; (try simp only [World.size_alloc, World.size_setCell, World.size_drew, World.heap_drewN] at hs_w3)
  go_wp2_with fail
  go_at_call 24
  refine (P1.out _ _ _ (hr.later (by repeat (first | exact Below.refl _ _ | assumption | (refine below_drewN ?_ _) | (refine Below.drew ?_) | (refine Below.alloc ?_ (by first | omega | (simp; omega) | simp) _) | (refine Below.setCell ?_ (by first | omega | (simp; omega) | simp) _) | (refine below_trans ?_ (by assumption) (by first | omega | (simp; omega) | simp)))))).mono ?_
  rintro e w4 ⟨A4, cap4, rfl, ho4, hb_w4⟩
  obtain ⟨hc_w4, hf_w4⟩ := bcell hb_w4; have hz_w4_w_0 : w.heap.size < w4.heap.size := (by have hzz := hb_w4.size; (try simp only [World.size_alloc, World.size_setCell, World.size_drew, World.heap_drewN] at hzz); omega); have hs_w4 := hb_w4.size; (try simp only [World.size_alloc, World.size_setCell, World.size_drew, World.heap_drewN] at hs_w4)
  go_wp2
  go_ret
  exact ⟨rfl, (by repeat (first | exact Below.refl _ _ | assumption | (refine below_drewN ?_ _) | (refine Below.drew ?_) | (refine Below.alloc ?_ (by first | omega | (simp; omega) | simp) _) | (refine Below.setCell ?_ (by first | omega | (simp; omega) | simp) _) | (refine below_trans ?_ (by assumption) (by first | omega | (simp; omega) | simp))))⟩

/- a change that is made -/
set_option maxHeartbeats 1000000 in
theorem one_ok (i o y n m : Int) (t v x z : Bool) (us : List Nat) (hr : Row w w.heap.size A ws) (hn : 0 ≤ n ∧ n ≤ 4096) (hm : 0 ≤ m ∧ m ≤ 4096) (hd : m - n = b2i v - b2i t) (hq : (o == i) = true ∨ ((o == i) = false ∧ (x == z) = true))
    (G : ∀ (w : World) (A : Option Addr) (cap : Nat), Row w w.heap.size A ws → Calls Try.prog 22 #[.agg #[.int .i64 N, .slice A ws.length cap], .int .i64 i] w fun e w' => e = .returned (.tuple #[.bool t, .int .i64 0]) ∧ Below w.heap.size w w')
    (P : ∀ (w : World) (A : Option Addr) (cap : Nat), Row w w.heap.size A ws → Calls Try.prog 24 #[.agg #[.int .i64 N, .slice A ws.length cap], .int .i64 i, .bool v] w fun e w' => Fresh w N us 0 e w')
    (G' : ∀ (w : World) (A : Option Addr) (cap : Nat), Row w w.heap.size A us → Calls Try.prog 22 #[.agg #[.int .i64 N, .slice A us.length cap], .int .i64 i] w fun e w' => e = .returned (.tuple #[.bool v, .int .i64 0]) ∧ Below w.heap.size w w')
    (O : ∀ (w : World) (A : Option Addr) (cap : Nat), Row w w.heap.size A ws → Calls Try.prog 22 #[.agg #[.int .i64 N, .slice A ws.length cap], .int .i64 o] w fun e w' => e = .returned (.tuple #[.bool x, .int .i64 y]) ∧ Below w.heap.size w w')
    (O' : ∀ (w : World) (A : Option Addr) (cap : Nat), Row w w.heap.size A us → Calls Try.prog 22 #[.agg #[.int .i64 N, .slice A us.length cap], .int .i64 o] w fun e w' => e = .returned (.tuple #[.bool z, .int .i64 y]) ∧ Below w.heap.size w w')
    (C : ∀ (w : World) (A : Option Addr) (cap : Nat), Row w w.heap.size A ws → Calls Try.prog 28 #[.agg #[.int .i64 N, .slice A ws.length cap]] w fun e w' => e = .returned (.tuple #[.int .i64 n, .int .i64 0]) ∧ Below w.heap.size w w')
    (C' : ∀ (w : World) (A : Option Addr) (cap : Nat), Row w w.heap.size A us → Calls Try.prog 28 #[.agg #[.int .i64 N, .slice A us.length cap]] w fun e w' => e = .returned (.tuple #[.int .i64 m, .int .i64 0]) ∧ Below w.heap.size w w') :
    Calls Try.prog 8 #[.agg #[.int .i64 N, .slice A ws.length cap], .int .i64 i, .bool v, .int .i64 o] w fun e w' => e = .returned (.bool true) ∧ Below w.heap.size w w' := by
  have G1 := Lib.hid G
  have P1 := Lib.hid P
  have G2 := Lib.hid G'
  have O1 := Lib.hid O
  have O2 := Lib.hid O'
  have C1 := Lib.hid C
  have C2 := Lib.hid C'
  have e1 : (y == y) = true := by simp
  have e2 : (v == v) = true := by simp
  have hd2 : (m - n == b2i v - b2i t) = true := by simpa using hd
  clear G P G' O O' C C' hd
  rcases hq with hq | ⟨hq, hxz⟩ <;> cases t <;> cases v <;> simp only [b2i, if_true, Bool.false_eq_true, if_false, Int.sub_self, Int.sub_zero, Int.zero_sub] at hd2
  all_goals
    go_enter Try.func8, Try.ntmps8
    go_wp2_with fail
    go_at_call 17
    refine (puts_any _).mono ?_
    rintro e w1 ⟨rfl, hb_w1⟩
    obtain ⟨hc_w1, hf_w1⟩ := bcell hb_w1; have hz_w1_w_0 : w.heap.size < w1.heap.size := (by have hzz := hb_w1.size; (try simp only [World.size_alloc, World.size_setCell, World.size_drew, World.heap_drewN] at hzz); omega); have hs_w1 := hb_w1.size; (try simp only [World.size_alloc, World.size_setCell, World.size_drew, World.heap_drewN] at hs_w1)
    go_wp2_with fail
    go_at_call 34
    refine (asks_any _).mono ?_
    rintro e w2 ⟨rfl, hb_w2⟩
    obtain ⟨hc_w2, hf_w2⟩ := bcell hb_w2; have hz_w2_w_0 : w.heap.size < w2.heap.size := (by have hzz := hb_w2.size; (try simp only [World.size_alloc, World.size_setCell, World.size_drew, World.heap_drewN] at hzz); omega); have hs_w2 := hb_w2.size; (try simp only [World.size_alloc, World.size_setCell, World.size_drew, World.heap_drewN] at hs_w2)
    go_wp2_with fail
    go_at_call 22
    refine (G1.out _ _ _ (hr.later (by repeat (first | exact Below.refl _ _ | assumption | (refine below_drewN ?_ _) | (refine Below.drew ?_) | (refine Below.alloc ?_ (by first | omega | (simp; omega) | simp) _) | (refine Below.setCell ?_ (by first | omega | (simp; omega) | simp) _) | (refine below_trans ?_ (by assumption) (by first | omega | (simp; omega) | simp)))))).mono ?_
    rintro e w3 ⟨rfl, hb_w3⟩
    obtain ⟨hc_w3, hf_w3⟩ := bcell hb_w3; have hz_w3_w_0 : w.heap.size < w3.heap.size := (by have hzz := hb_w3.size; (try simp only [World.size_alloc, World.size_setCell, World.size_drew, World.heap_drewN] at hzz); omega); have hs_w3 := hb_w3.size; (try simp only [World.size_alloc, World.size_setCell, World.size_drew, World.heap_drewN] at hs_w3)
    go_wp2_with fail
    go_at_call 24
    refine (P1.out _ _ _ (hr.later (by repeat (first | exact Below.refl _ _ | assumption | (refine below_drewN ?_ _) | (refine Below.drew ?_) | (refine Below.alloc ?_ (by first | omega | (simp; omega) | simp) _) | (refine Below.setCell ?_ (by first | omega | (simp; omega) | simp) _) | (refine below_trans ?_ (by assumption) (by first | omega | (simp; omega) | simp)))))).mono ?_
    rintro e w4 ⟨A4, cap4, rfl, ho4, hb_w4⟩
    obtain ⟨hc_w4, hf_w4⟩ := bcell hb_w4; have hz_w4_w_0 : w.heap.size < w4.heap.size := (by have hzz := hb_w4.size; (try simp only [World.size_alloc, World.size_setCell, World.size_drew, World.heap_drewN] at hzz); omega); have hs_w4 := hb_w4.size; (try simp only [World.size_alloc, World.size_setCell, World.size_drew, World.heap_drewN] at hs_w4)
    go_wp2_with fail
    go_at_call 22
    refine (G2.out _ _ _ (ho4.row.later (by repeat (first | exact Below.refl _ _ | assumption | (refine below_drewN ?_ _) | (refine Below.drew ?_) | (refine Below.alloc ?_ (by first | omega | (simp; omega) | simp) _) | (refine Below.setCell ?_ (by first | omega | (simp; omega) | simp) _) | (refine below_trans ?_ (by assumption) (by first | omega | (simp; omega) | simp)))))).mono ?_
    rintro e w5 ⟨rfl, hb_w5⟩
    obtain ⟨hc_w5, hf_w5⟩ := bcell hb_w5; have hz_w5_w_0 : w.heap.size < w5.heap.size := (by have hzz := hb_w5.size; (try simp only [World.size_alloc, World.size_setCell, World.size_drew, World.heap_drewN] at hzz); omega); have hz_w5_w4_0 : w4.heap.size < w5.heap.size := (by have hzz := hb_w5.size; (try simp only [World.size_alloc, World.size_setCell, World.size_drew, World.heap_drewN] at hzz); omega); have hs_w5 := hb_w5.size; (try simp only [World.size_alloc, World.size_setCell, World.size_drew, World.heap_drewN] at hs_w5)
    go_wp2_with fail
    go_at_call 22
    refine (O1.out _ _ _ (hr.later (by repeat (first | exact Below.refl _ _ | assumption | (refine below_drewN ?_ _) | (refine Below.drew ?_) | (refine Below.alloc ?_ (by first | omega | (simp; omega) | simp) _) | (refine Below.setCell ?_ (by first | omega | (simp; omega) | simp) _) | (refine below_trans ?_ (by assumption) (by first | omega | (simp; omega) | simp)))))).mono ?_
    rintro e w6 ⟨rfl, hb_w6⟩
    obtain ⟨hc_w6, hf_w6⟩ := bcell hb_w6; have hz_w6_w_0 : w.heap.size < w6.heap.size := (by have hzz := hb_w6.size; (try simp only [World.size_alloc, World.size_setCell, World.size_drew, World.heap_drewN] at hzz); omega); have hz_w6_w4_0 : w4.heap.size < w6.heap.size := (by have hzz := hb_w6.size; (try simp only [World.size_alloc, World.size_setCell, World.size_drew, World.heap_drewN] at hzz); omega); have hs_w6 := hb_w6.size; (try simp only [World.size_alloc, World.size_setCell, World.size_drew, World.heap_drewN] at hs_w6)
    go_wp2_with fail
    go_at_call 22
    refine (O2.out _ _ _ (ho4.row.later (by repeat (first | exact Below.refl _ _ | assumption | (refine below_drewN ?_ _) | (refine Below.drew ?_) | (refine Below.alloc ?_ (by first | omega | (simp; omega) | simp) _) | (refine Below.setCell ?_ (by first | omega | (simp; omega) | simp) _) | (refine below_trans ?_ (by assumption) (by first | omega | (simp; omega) | simp)))))).mono ?_
    rintro e w7 ⟨rfl, hb_w7⟩
    obtain ⟨hc_w7, hf_w7⟩ := bcell hb_w7; have hz_w7_w_0 : w.heap.size < w7.heap.size := (by have hzz := hb_w7.size; (try simp only [World.size_alloc, World.size_setCell, World.size_drew, World.heap_drewN] at hzz); omega); have hz_w7_w4_0 : w4.heap.size < w7.heap.size := (by have hzz := hb_w7.size; (try simp only [World.size_alloc, World.size_setCell, World.size_drew, World.heap_drewN] at hzz); omega); have hs_w7 := hb_w7.size; (try simp only [World.size_alloc, World.size_setCell, World.size_drew, World.heap_drewN] at hs_w7)
    go_wp2_with fail
    go_at_call 28
    refine (C1.out _ _ _ (hr.later (by repeat (first | exact Below.refl _ _ | assumption | (refine below_drewN ?_ _) | (refine Below.drew ?_) | (refine Below.alloc ?_ (by first | omega | (simp; omega) | simp) _) | (refine Below.setCell ?_ (by first | omega | (simp; omega) | simp) _) | (refine below_trans ?_ (by assumption) (by first | omega | (simp; omega) | simp)))))).mono ?_
    rintro e w8 ⟨rfl, hb_w8⟩
    obtain ⟨hc_w8, hf_w8⟩ := bcell hb_w8; have hz_w8_w_0 : w.heap.size < w8.heap.size := (by have hzz := hb_w8.size; (try simp only [World.size_alloc, World.size_setCell, World.size_drew, World.heap_drewN] at hzz); omega); have hz_w8_w4_0 : w4.heap.size < w8.heap.size := (by have hzz := hb_w8.size; (try simp only [World.size_alloc, World.size_setCell, World.size_drew, World.heap_drewN] at hzz); omega); have hs_w8 := hb_w8.size; (try simp only [World.size_alloc, World.size_setCell, World.size_drew, World.heap_drewN] at hs_w8)
    go_wp2_with fail
    go_at_call 28
    refine (C2.out _ _ _ (ho4.row.later (by repeat (first | exact Below.refl _ _ | assumption | (refine below_drewN ?_ _) | (refine Below.drew ?_) | (refine Below.alloc ?_ (by first | omega | (simp; omega) | simp) _) | (refine Below.setCell ?_ (by first | omega | (simp; omega) | simp) _) | (refine below_trans ?_ (by assumption) (by first | omega | (simp; omega) | simp)))))).mono ?_
    rintro e w9 ⟨rfl, hb_w9⟩
    obtain ⟨hc_w9, hf_w9⟩ := bcell hb_w9; have hz_w9_w_0 : w.heap.size < w9.heap.size := (by have hzz := hb_w9.size; (try simp only [World.size_alloc, World.size_setCell, World.size_drew, World.heap_drewN] at hzz); omega); have hz_w9_w4_0 : w4.heap.size < w9.heap.size := (by have hzz := hb_w9.size; (try simp only [World.size_alloc, World.size_setCell, World.size_drew, World.heap_drewN] at hzz); omega); have hs_w9 := hb_w9.size; (try simp only [World.size_alloc, World.size_setCell, World.size_drew, World.heap_drewN] at hs_w9)
    go_wp2
    go_ret
    exact ⟨rfl, (by repeat (first | exact Below.refl _ _ | assumption | (refine below_drewN ?_ _) | (refine Below.drew ?_) | (refine Below.alloc ?_ (by first | omega | (simp; omega) | simp) _) | (refine Below.setCell ?_ (by first | omega | (simp; omega) | simp) _) | (refine below_trans ?_ (by assumption) (by first | omega | (simp; omega) | simp))))⟩
end

theorem bitsOne_walk (N : Int) (A : Option Addr) (cap : Nat) (ws : List Nat) (i : Int) (v : Bool) (o : Int) (w : World) (hr : Row w w.heap.size A ws) (h63 : i ≤ 9223372036854775807) :
    Calls Try.prog 8 #[.agg #[.int .i64 N, .slice A ws.length cap], .int .i64 i, .bool v, .int .i64 o] w fun e w' => e = .returned (.bool true) ∧ Below w.heap.size w w' := by
  by_cases h : Right N ws
  · by_cases hi : 0 ≤ i ∧ i < N
    · have hl := h.long
      have hR : Right N (putW ws i.toNat v) := right_putW h _ _ (by omega)
      have hc := countTo_putW ws i.toNat v N.toNat (by omega)
      rw [if_pos (by omega)] at hc
      have c1 := countTo_le ws N.toNat
      have c2 := countTo_le (putW ws i.toNat v) N.toNat
      have hN := h.2.1
      have G' : ∀ (w : World) (A : Option Addr) (cap : Nat), Row w w.heap.size A (putW ws i.toNat v) → Calls Try.prog 22 #[.agg #[.int .i64 N, .slice A (putW ws i.toNat v).length cap], .int .i64 i] w fun e w' => e = .returned (.tuple #[.bool v, .int .i64 0]) ∧ Below w.heap.size w w' := fun w A cap hr => by
        have := get_in cap i hr hR hi.1 hi.2
        rwa [tb_putW ws _ _ v (by omega), if_pos rfl] at this
      by_cases ho : 0 ≤ o ∧ o < N
      · refine one_ok cap i o 0 (countTo ws N.toNat : Nat) (countTo (putW ws i.toNat v) N.toNat : Nat) (tb ws i.toNat) v (tb ws o.toNat) (tb (putW ws i.toNat v) o.toNat) (putW ws i.toNat v) hr (by omega) (by omega) (by omega) ?_
          (fun w A cap hr => get_in cap i hr h hi.1 hi.2) (fun w A cap hr => put_in cap v i hr h hi.1 hi.2) G' (fun w A cap hr => get_in cap o hr h ho.1 ho.2) (fun w A cap hr => get_in cap o hr hR ho.1 ho.2) (fun w A cap hr => count_ok cap hr h) (fun w A cap hr => count_ok cap hr hR)
        by_cases e : o = i
        · exact .inl (by simpa using e)
        · exact .inr ⟨by simpa using e, by rw [tb_putW ws _ _ v (by omega), if_neg (by omega)]; simp⟩
      · exact one_ok cap i o 1 (countTo ws N.toNat : Nat) (countTo (putW ws i.toNat v) N.toNat : Nat) (tb ws i.toNat) v false false (putW ws i.toNat v) hr (by omega) (by omega) (by omega) (.inr ⟨by simp; omega, rfl⟩)
          (fun w A cap hr => get_in cap i hr h hi.1 hi.2) (fun w A cap hr => put_in cap v i hr h hi.1 hi.2) G' (fun w A cap hr => get_out cap o hr h ho) (fun w A cap hr => get_out cap o hr hR ho) (fun w A cap hr => count_ok cap hr h) (fun w A cap hr => count_ok cap hr hR)
    · exact one_err cap i o 1 v N ws hr (by decide) (fun w A cap hr => get_out cap i hr h hi) (fun w A cap hr => put_out cap v i hr h h63 hi)
  · exact one_err cap i o 2 v 0 [] hr (by decide) (fun w A cap hr => get_bad cap i hr h) (fun w A cap hr => put_bad cap v i hr h)
end Go.Proofs.Ytbhblffomlhopaa
