/- The program and the document's own answers agree, call by call. -/
import Derived.Test.YtcokfdgbgeeabaaPuts
namespace Go.Proofs.Ytcokfdgbgeeabaa
open Go.RowKit
set_option linter.unusedVariables false
set_option linter.unusedSimpArgs false

theorem make_both (n : Int) : ∃ (N : Int) (us : List Nat) (why : Int), (∀ w, Calls Try.prog 39 #[.int .i64 n] w fun e w' => Fresh w N us why e w') ∧ (∀ w, Calls Try.prog 40 #[.int .i64 n] w fun e w' => Fresh w N us why e w') ∧ us.length ≤ 64 := by
  by_cases h : 0 ≤ n ∧ n ≤ 4096
  · exact ⟨n, wordsN n, 0, fun w => make_ok n w h.1 h.2, fun w => rmake_ok n w h.1 h.2, right_len (right_wordsN n h.1 h.2)⟩
  · exact ⟨0, [], 1, fun w => make_bad n w h, fun w => rmake_bad n w h, Nat.zero_le _⟩
theorem check_both (n : Int) (ws : List Nat) : ∃ why : Int, (∀ (w : World) (A : Option Addr) (cap : Nat), Row w w.heap.size A ws → Calls Try.prog 41 #[.agg #[.int .i64 n, .slice A ws.length cap]] w fun e w' => e = .returned (.int .i64 why) ∧ Below w.heap.size w w') ∧
    (∀ (w : World) (A : Option Addr) (cap : Nat), Row w w.heap.size A ws → Calls Try.prog 42 #[.agg #[.int .i64 n, .slice A ws.length cap]] w fun e w' => e = .returned (.int .i64 why) ∧ Below w.heap.size w w') := by
  by_cases h : Right n ws
  · exact ⟨0, fun w A cap hr => check_ok cap hr h, fun w A cap hr => rcheck_ok cap hr h⟩
  · exact ⟨2, fun w A cap hr => check_bad cap hr h, fun w A cap hr => rcheck_bad cap hr h⟩
theorem fill_both (n a c : Int) (v : Bool) (ws : List Nat) (h63 : a ≤ 9223372036854775807) : ∃ (N : Int) (us : List Nat) (why : Int), (∀ (w : World) (A : Option Addr) (cap : Nat), Row w w.heap.size A ws → Calls Try.prog 46 #[.agg #[.int .i64 n, .slice A ws.length cap], .int .i64 a, .int .i64 c, .bool v] w fun e w' => Fresh w N us why e w') ∧
    (∀ (w : World) (A : Option Addr) (cap : Nat), Row w w.heap.size A ws → Calls Try.prog 32 #[.agg #[.int .i64 n, .slice A ws.length cap], .int .i64 a, .int .i64 c, .bool v] w fun e w' => Fresh w N us why e w') ∧ us.length ≤ 64 := by
  by_cases h : Right n ws
  · by_cases hi : 0 ≤ a ∧ 0 ≤ c ∧ c ≤ n - a
    · exact ⟨n, fillW ws a.toNat c.toNat v, 0, fun w A cap hr => fill_in cap a c v hr h hi.1 hi.2.1 hi.2.2, fun w A cap hr => rfill_in cap a c v hr h hi.1 hi.2.1 hi.2.2, by rw [length_fillW]; exact right_len h⟩
    · exact ⟨n, ws, 1, fun w A cap hr => fill_out cap a c v hr h h63 hi, fun w A cap hr => rfill_out cap a c v hr h hi, right_len h⟩
  · exact ⟨0, [], 2, fun w A cap hr => fill_bad cap a c v hr h, fun w A cap hr => rfill_bad cap a c v hr h, Nat.zero_le _⟩
theorem count_both (n : Int) (ws : List Nat) : ∃ (k why : Int), (∀ (w : World) (A : Option Addr) (cap : Nat), Row w w.heap.size A ws → Calls Try.prog 37 #[.agg #[.int .i64 n, .slice A ws.length cap]] w fun e w' => e = .returned (.tuple #[.int .i64 k, .int .i64 why]) ∧ Below w.heap.size w w') ∧
    (∀ (w : World) (A : Option Addr) (cap : Nat), Row w w.heap.size A ws → Calls Try.prog 38 #[.agg #[.int .i64 n, .slice A ws.length cap]] w fun e w' => e = .returned (.tuple #[.int .i64 k, .int .i64 why]) ∧ Below w.heap.size w w') := by
  by_cases h : Right n ws
  · exact ⟨_, 0, fun w A cap hr => count_ok cap hr h, fun w A cap hr => rcount_ok cap hr h⟩
  · exact ⟨0, 2, fun w A cap hr => count_bad cap hr h, fun w A cap hr => rcount_bad cap hr h⟩
theorem first_ex (ws : List Nat) (v : Bool) (a : Nat) (m : Nat) : ∃ i why, FirstP ws v a (a + m) i why := by
  induction m with
  | zero => exact ⟨0, 3, .inr ⟨rfl, rfl, fun j g1 g2 => by omega⟩⟩
  | succ m ih =>
    obtain ⟨i, why, h⟩ := ih
    rcases h with ⟨rfl, h1, h2, h3, h4⟩ | ⟨rfl, rfl, h4⟩
    · exact ⟨i, 0, .inl ⟨rfl, h1, by omega, h3, h4⟩⟩
    · by_cases hb : tb ws (a + m) = v
      · exact ⟨(a + m : Nat), 0, .inl ⟨rfl, by omega, by omega, by rw [Int.toNat_natCast]; exact hb, fun j g1 g2 => h4 j g1 (by omega)⟩⟩
      · refine ⟨0, 3, .inr ⟨rfl, rfl, fun j g1 g2 => ?_⟩⟩
        by_cases e : j = a + m
        · rw [e]; exact hb
        · exact h4 j g1 (by omega)
theorem Told.is {P : Int → Int → Prop} {i why : Int} (hu : ∀ i' why', P i' why' → i' = i ∧ why' = why) {e : Ending} (h : Told P e) : e = .returned (.tuple #[.int .i64 i, .int .i64 why]) := by
  obtain ⟨i', why', he, hp⟩ := h
  obtain ⟨rfl, rfl⟩ := hu _ _ hp
  exact he
theorem run_ex (ws : List Nat) (c : Int) (h1 : 1 ≤ c) (m : Nat) : ∃ i why, RunP ws c m i why := by
  induction m with
  | zero => exact ⟨0, 3, .inr ⟨rfl, rfl, fun j g => by
      obtain rfl : j = 0 := by omega
      show (0 : Int) ≠ c
      omega⟩⟩
  | succ m ih =>
    obtain ⟨i, why, h⟩ := ih
    rcases h with ⟨rfl, k, g1, g2, g3, rfl⟩ | ⟨rfl, rfl, h4⟩
    · exact ⟨_, 0, .inl ⟨rfl, k, by omega, g2, g3, rfl⟩⟩
    · by_cases hb : (zs ws (m + 1) : Int) = c
      · exact ⟨_, 0, .inl ⟨rfl, m, by omega, hb, fun j g => h4 j (by omega), rfl⟩⟩
      · refine ⟨0, 3, .inr ⟨rfl, rfl, fun j g => ?_⟩⟩
        by_cases e : j = m + 1
        · rw [e]; exact hb
        · exact h4 j (by omega)
theorem same_ok (n : Int) (ws : List Nat) (hm : ws.length ≤ maxLen) (w : World) (A A' : Option Addr) (cap cap' : Nat) (hr : Row w w.heap.size A ws) (hr' : Row w w.heap.size A' ws) :
    Calls Try.prog 36 #[.agg #[.int .i64 n, .slice A ws.length cap], .agg #[.int .i64 n, .slice A' ws.length cap']] w fun e w' => e = .returned (.bool true) ∧ Below w.heap.size w w' :=
  (same_loop n A A' cap cap' ws ws w hr hr' rfl hm).mono fun _ _ ⟨h1, h2⟩ => ⟨by rw [h1, decide_eq_true rfl], h2⟩
end Go.Proofs.Ytcokfdgbgeeabaa
