/- The program and the document's own answers agree, call by call. -/
import Derived.Test.YtbhblffomlhopaaPuts
namespace Go.Proofs.Ytbhblffomlhopaa
open Go.RowKit
set_option linter.unusedVariables false
set_option linter.unusedSimpArgs false

theorem make_both (n : Int) : ∃ (N : Int) (us : List Nat) (why : Int), (∀ w, Calls Try.prog 15 #[.int .i64 n] w fun e w' => Fresh w N us why e w') ∧ (∀ w, Calls Try.prog 16 #[.int .i64 n] w fun e w' => Fresh w N us why e w') ∧ us.length ≤ 64 := by
  by_cases h : 0 ≤ n ∧ n ≤ 4096
  · exact ⟨n, wordsN n, 0, fun w => make_ok n w h.1 h.2, fun w => rmake_ok n w h.1 h.2, right_len (right_wordsN n h.1 h.2)⟩
  · exact ⟨0, [], 1, fun w => make_bad n w h, fun w => rmake_bad n w h, Nat.zero_le _⟩
theorem check_both (n : Int) (ws : List Nat) : ∃ why : Int, (∀ (w : World) (A : Option Addr) (cap : Nat), Row w w.heap.size A ws → Calls Try.prog 19 #[.agg #[.int .i64 n, .slice A ws.length cap]] w fun e w' => e = .returned (.int .i64 why) ∧ Below w.heap.size w w') ∧
    (∀ (w : World) (A : Option Addr) (cap : Nat), Row w w.heap.size A ws → Calls Try.prog 20 #[.agg #[.int .i64 n, .slice A ws.length cap]] w fun e w' => e = .returned (.int .i64 why) ∧ Below w.heap.size w w') := by
  by_cases h : Right n ws
  · exact ⟨0, fun w A cap hr => check_ok cap hr h, fun w A cap hr => rcheck_ok cap hr h⟩
  · exact ⟨2, fun w A cap hr => check_bad cap hr h, fun w A cap hr => rcheck_bad cap hr h⟩
theorem get_both (n i : Int) (ws : List Nat) : ∃ (b : Bool) (why : Int), (∀ (w : World) (A : Option Addr) (cap : Nat), Row w w.heap.size A ws → Calls Try.prog 22 #[.agg #[.int .i64 n, .slice A ws.length cap], .int .i64 i] w fun e w' => e = .returned (.tuple #[.bool b, .int .i64 why]) ∧ Below w.heap.size w w') ∧
    (∀ (w : World) (A : Option Addr) (cap : Nat), Row w w.heap.size A ws → Calls Try.prog 23 #[.agg #[.int .i64 n, .slice A ws.length cap], .int .i64 i] w fun e w' => e = .returned (.tuple #[.bool b, .int .i64 why]) ∧ Below w.heap.size w w') := by
  by_cases h : Right n ws
  · by_cases hi : 0 ≤ i ∧ i < n
    · exact ⟨tb ws i.toNat, 0, fun w A cap hr => get_in cap i hr h hi.1 hi.2, fun w A cap hr => rget_in cap i hr h hi.1 hi.2⟩
    · exact ⟨false, 1, fun w A cap hr => get_out cap i hr h hi, fun w A cap hr => rget_out cap i hr h hi⟩
  · exact ⟨false, 2, fun w A cap hr => get_bad cap i hr h, fun w A cap hr => rget_bad cap i hr h⟩
theorem put_both (n i : Int) (v : Bool) (ws : List Nat) (h63 : i ≤ 9223372036854775807) : ∃ (N : Int) (us : List Nat) (why : Int), (∀ (w : World) (A : Option Addr) (cap : Nat), Row w w.heap.size A ws → Calls Try.prog 24 #[.agg #[.int .i64 n, .slice A ws.length cap], .int .i64 i, .bool v] w fun e w' => Fresh w N us why e w') ∧
    (∀ (w : World) (A : Option Addr) (cap : Nat), Row w w.heap.size A ws → Calls Try.prog 25 #[.agg #[.int .i64 n, .slice A ws.length cap], .int .i64 i, .bool v] w fun e w' => Fresh w N us why e w') ∧ us.length ≤ 64 := by
  by_cases h : Right n ws
  · by_cases hi : 0 ≤ i ∧ i < n
    · exact ⟨n, putW ws i.toNat v, 0, fun w A cap hr => put_in cap v i hr h hi.1 hi.2, fun w A cap hr => rput_in cap v i hr h hi.1 hi.2, by rw [length_putW]; exact right_len h⟩
    · exact ⟨n, ws, 1, fun w A cap hr => put_out cap v i hr h h63 hi, fun w A cap hr => rput_out cap v i hr h hi, right_len h⟩
  · exact ⟨0, [], 2, fun w A cap hr => put_bad cap v i hr h, fun w A cap hr => rput_bad cap v i hr h, Nat.zero_le _⟩
theorem fill_both (n a c : Int) (v : Bool) (ws : List Nat) (h63 : a ≤ 9223372036854775807) : ∃ (N : Int) (us : List Nat) (why : Int), (∀ (w : World) (A : Option Addr) (cap : Nat), Row w w.heap.size A ws → Calls Try.prog 26 #[.agg #[.int .i64 n, .slice A ws.length cap], .int .i64 a, .int .i64 c, .bool v] w fun e w' => Fresh w N us why e w') ∧
    (∀ (w : World) (A : Option Addr) (cap : Nat), Row w w.heap.size A ws → Calls Try.prog 27 #[.agg #[.int .i64 n, .slice A ws.length cap], .int .i64 a, .int .i64 c, .bool v] w fun e w' => Fresh w N us why e w') ∧ us.length ≤ 64 := by
  by_cases h : Right n ws
  · by_cases hi : 0 ≤ a ∧ 0 ≤ c ∧ c ≤ n - a
    · exact ⟨n, fillW ws a.toNat c.toNat v, 0, fun w A cap hr => fill_in cap a c v hr h hi.1 hi.2.1 hi.2.2, fun w A cap hr => rfill_in cap a c v hr h hi.1 hi.2.1 hi.2.2, by rw [length_fillW]; exact right_len h⟩
    · exact ⟨n, ws, 1, fun w A cap hr => fill_out cap a c v hr h h63 hi, fun w A cap hr => rfill_out cap a c v hr h hi, right_len h⟩
  · exact ⟨0, [], 2, fun w A cap hr => fill_bad cap a c v hr h, fun w A cap hr => rfill_bad cap a c v hr h, Nat.zero_le _⟩
theorem count_both (n : Int) (ws : List Nat) : ∃ (k why : Int), (∀ (w : World) (A : Option Addr) (cap : Nat), Row w w.heap.size A ws → Calls Try.prog 28 #[.agg #[.int .i64 n, .slice A ws.length cap]] w fun e w' => e = .returned (.tuple #[.int .i64 k, .int .i64 why]) ∧ Below w.heap.size w w') ∧
    (∀ (w : World) (A : Option Addr) (cap : Nat), Row w w.heap.size A ws → Calls Try.prog 29 #[.agg #[.int .i64 n, .slice A ws.length cap]] w fun e w' => e = .returned (.tuple #[.int .i64 k, .int .i64 why]) ∧ Below w.heap.size w w') := by
  by_cases h : Right n ws
  · exact ⟨_, 0, fun w A cap hr => count_ok cap hr h, fun w A cap hr => rcount_ok cap hr h⟩
  · exact ⟨0, 2, fun w A cap hr => count_bad cap hr h, fun w A cap hr => rcount_bad cap hr h⟩
theorem first_ex (ws : List Nat) (v : Bool) (a : Nat) (m : Nat) : ∃ i why, FirstP ws v a (a + m) i why := by
  induction m with
  | zero => exact ⟨0, 3, .inr ⟨rfl, rfl, fun j g1 g2 => by omega⟩⟩
  | succ m ih =>
    obtain ⟨i, why, h⟩ := ih
    rcases h with ⟨rfl, h1, h2, h3, h4⟩ | ⟨rfl, rfl, h4⟩
    · exact ⟨i, 0, .inl ⟨rfl, h1, by omega, h3, h4⟩⟩
    · by_cases hb : tb ws (a + m) = v
      · exact ⟨(a + m : Nat), 0, .inl ⟨rfl, by omega, by omega, by rw [Int.toNat_natCast]; exact hb, fun j g1 g2 => h4 j g1 (by omega)⟩⟩
      · refine ⟨0, 3, .inr ⟨rfl, rfl, fun j g1 g2 => ?_⟩⟩
        by_cases e : j = a + m
        · rw [e]; exact hb
        · exact h4 j g1 (by omega)
theorem Told.is {P : Int → Int → Prop} {i why : Int} (hu : ∀ i' why', P i' why' → i' = i ∧ why' = why) {e : Ending} (h : Told P e) : e = .returned (.tuple #[.int .i64 i, .int .i64 why]) := by
  obtain ⟨i', why', he, hp⟩ := h
  obtain ⟨rfl, rfl⟩ := hu _ _ hp
  exact he
theorem first_both (n a : Int) (v : Bool) (ws : List Nat) : ∃ (k why : Int), (∀ (w : World) (A : Option Addr) (cap : Nat), Row w w.heap.size A ws → Calls Try.prog 30 #[.agg #[.int .i64 n, .slice A ws.length cap], .int .i64 a, .bool v] w fun e w' => e = .returned (.tuple #[.int .i64 k, .int .i64 why]) ∧ Below w.heap.size w w') ∧
    (∀ (w : World) (A : Option Addr) (cap : Nat), Row w w.heap.size A ws → Calls Try.prog 31 #[.agg #[.int .i64 n, .slice A ws.length cap], .int .i64 a, .bool v] w fun e w' => e = .returned (.tuple #[.int .i64 k, .int .i64 why]) ∧ Below w.heap.size w w') := by
  by_cases h : Right n ws
  · by_cases hi : 0 ≤ a ∧ a ≤ n
    · obtain ⟨i, why, hp⟩ := first_ex ws v a.toNat (n - a).toNat
      rw [show ((a.toNat : Nat) : Int) = a by omega, show a + (((n - a).toNat : Nat) : Int) = n by omega] at hp
      have hu : ∀ i' why', FirstP ws v a n i' why' → i' = i ∧ why' = why := fun i' why' h' => h'.one hp hi.1
      exact ⟨i, why, fun w A cap hr => (first_in cap a v hr h hi.1 hi.2).mono fun _ _ ⟨g1, g2⟩ => ⟨g1.is hu, g2⟩, fun w A cap hr => (rfirst_in cap a v hr h hi.1 hi.2).mono fun _ _ ⟨g1, g2⟩ => ⟨g1.is hu, g2⟩⟩
    · exact ⟨0, 1, fun w A cap hr => first_out cap a v hr h hi, fun w A cap hr => rfirst_out cap a v hr h hi⟩
  · exact ⟨0, 2, fun w A cap hr => first_bad cap a v hr h, fun w A cap hr => rfirst_bad cap a v hr h⟩
theorem run_ex (ws : List Nat) (c : Int) (h1 : 1 ≤ c) (m : Nat) : ∃ i why, RunP ws c m i why := by
  induction m with
  | zero => exact ⟨0, 3, .inr ⟨rfl, rfl, fun j g => by
      obtain rfl : j = 0 := by omega
      show (0 : Int) ≠ c
      omega⟩⟩
  | succ m ih =>
    obtain ⟨i, why, h⟩ := ih
    rcases h with ⟨rfl, k, g1, g2, g3, rfl⟩ | ⟨rfl, rfl, h4⟩
    · exact ⟨_, 0, .inl ⟨rfl, k, by omega, g2, g3, rfl⟩⟩
    · by_cases hb : (zs ws (m + 1) : Int) = c
      · exact ⟨_, 0, .inl ⟨rfl, m, by omega, hb, fun j g => h4 j (by omega), rfl⟩⟩
      · refine ⟨0, 3, .inr ⟨rfl, rfl, fun j g => ?_⟩⟩
        by_cases e : j = m + 1
        · rw [e]; exact hb
        · exact h4 j (by omega)
theorem run_both (n c : Int) (ws : List Nat) (h63 : c ≤ 9223372036854775807) : ∃ (k why : Int), (∀ (w : World) (A : Option Addr) (cap : Nat), Row w w.heap.size A ws → Calls Try.prog 32 #[.agg #[.int .i64 n, .slice A ws.length cap], .int .i64 c] w fun e w' => e = .returned (.tuple #[.int .i64 k, .int .i64 why]) ∧ Below w.heap.size w w') ∧
    (∀ (w : World) (A : Option Addr) (cap : Nat), Row w w.heap.size A ws → Calls Try.prog 33 #[.agg #[.int .i64 n, .slice A ws.length cap], .int .i64 c] w fun e w' => e = .returned (.tuple #[.int .i64 k, .int .i64 why]) ∧ Below w.heap.size w w') := by
  by_cases h : Right n ws
  · by_cases hi : 1 ≤ c
    · obtain ⟨i, why, hp⟩ := run_ex ws c hi n.toNat
      rw [show ((n.toNat : Nat) : Int) = n by have := h.1; omega] at hp
      have hu : ∀ i' why', RunP ws c n i' why' → i' = i ∧ why' = why := fun i' why' h' => h'.one hp
      exact ⟨i, why, fun w A cap hr => (bits_run_in cap c hr h hi h63).mono fun _ _ ⟨g1, g2⟩ => ⟨g1.is hu, g2⟩, fun w A cap hr => (rrun_in cap c hr h hi h63).mono fun _ _ ⟨g1, g2⟩ => ⟨g1.is hu, g2⟩⟩
    · exact ⟨0, 1, fun w A cap hr => run_out cap c hr h (by omega), fun w A cap hr => rrun_out cap c hr h (by omega)⟩
  · exact ⟨0, 2, fun w A cap hr => run_bad cap c hr h, fun w A cap hr => rrun_bad cap c hr h⟩
theorem both_both (n m : Int) (ws us : List Nat) : ∃ (N : Int) (vs : List Nat) (why : Int), (∀ (w : World) (A C : Option Addr) (cap cap' : Nat), Row w w.heap.size A ws → Row w w.heap.size C us → Calls Try.prog 35 #[.agg #[.int .i64 n, .slice A ws.length cap], .agg #[.int .i64 m, .slice C us.length cap']] w fun e w' => Fresh w N vs why e w') ∧
    (∀ (w : World) (A C : Option Addr) (cap cap' : Nat), Row w w.heap.size A ws → Row w w.heap.size C us → Calls Try.prog 36 #[.agg #[.int .i64 n, .slice A ws.length cap], .agg #[.int .i64 m, .slice C us.length cap']] w fun e w' => Fresh w N vs why e w') ∧ vs.length ≤ 64 := by
  by_cases h : Right n ws
  · by_cases h' : Right m us
    · by_cases hne : n = m
      · subst hne
        exact ⟨n, bothTo ws us us.length, 0, fun w A C cap cap' hr hs => both_ok cap cap' hr hs h h', fun w A C cap cap' hr hs => rboth_ok cap cap' hr hs h h', by rw [length_bothTo]; exact right_len h⟩
      · exact ⟨0, [], 2, fun w A C cap cap' hr hs => both_len cap cap' hr hs h h' hne, fun w A C cap cap' hr hs => rboth_len cap cap' hr hs h h' hne, Nat.zero_le _⟩
    · exact ⟨0, [], 2, fun w A C cap cap' hr hs => both_bad2 cap cap' hr hs h h', fun w A C cap cap' hr hs => rboth_bad2 cap cap' hr hs h h', Nat.zero_le _⟩
  · exact ⟨0, [], 2, fun w A C cap cap' hr hs => both_bad1 cap cap' hr h, fun w A C cap cap' hr hs => rboth_bad1 cap cap' hr h, Nat.zero_le _⟩
theorem same_ok (n : Int) (ws : List Nat) (hm : ws.length ≤ maxLen) (w : World) (A A' : Option Addr) (cap cap' : Nat) (hr : Row w w.heap.size A ws) (hr' : Row w w.heap.size A' ws) :
    Calls Try.prog 18 #[.agg #[.int .i64 n, .slice A ws.length cap], .agg #[.int .i64 n, .slice A' ws.length cap']] w fun e w' => e = .returned (.bool true) ∧ Below w.heap.size w w' :=
  (same_loop n A A' cap cap' ws ws w hr hr' rfl hm).mono fun _ _ ⟨h1, h2⟩ => ⟨by rw [h1, decide_eq_true rfl], h2⟩
end Go.Proofs.Ytbhblffomlhopaa
