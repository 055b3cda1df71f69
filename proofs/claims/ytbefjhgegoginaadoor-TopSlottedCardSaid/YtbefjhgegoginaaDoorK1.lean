/- Contracts of package class, and of the document's own answers for it. -/
import Derived.Test.YtbefjhgegoginaaDoorAgree
namespace Go.Proofs.YtbefjhgegoginaaDoor
open Go.RowKit
set_option linter.unusedVariables false
set_option linter.unusedSimpArgs false

/-- the table of sizes lies where start-up laid it -/
structure Sizes (w : World) : Prop where
  c0 : w.cell? ⟨0, 0, none⟩ = some (.int .i64 2)
  c1 : w.cell? ⟨0, 1, none⟩ = some (.int .i64 4)
  c2 : w.cell? ⟨0, 2, none⟩ = some (.int .i64 8)
  c3 : w.cell? ⟨0, 3, none⟩ = some (.int .i64 16)
theorem Sizes.lt {w : World} (h : Sizes w) : 0 < w.heap.size := World.block_lt_of_cell? w _ h.c0
theorem Sizes.later {w w' : World} (h : Sizes w) (hb : Below w.heap.size w w') : Sizes w' :=
  ⟨((bcell hb).1 _ _ h.lt).trans h.c0, ((bcell hb).1 _ _ h.lt).trans h.c1, ((bcell hb).1 _ _ h.lt).trans h.c2, ((bcell hb).1 _ _ h.lt).trans h.c3⟩

def clsOf (x : Int) : Int := if x ≤ 2 then 0 else if x ≤ 4 then 1 else if x ≤ 8 then 2 else if x ≤ 16 then 3 else -1
def szOf (c : Int) : Int := if c = 0 then 2 else if c = 1 then 4 else if c = 2 then 8 else 16
def pgOf (x : Int) : Int := if x ≤ 16 then 1 else (x + 15) / 16
def rmOf (x : Int) : Int := if x ≤ 2 then 2 else if x ≤ 4 then 4 else if x ≤ 8 then 8 else if x ≤ 16 then 16 else (x + 15) / 16 * 16
theorem clsOf_case (x : Int) (h : 1 ≤ x) : (x ≤ 2 ∧ clsOf x = 0) ∨ (2 < x ∧ x ≤ 4 ∧ clsOf x = 1) ∨ (4 < x ∧ x ≤ 8 ∧ clsOf x = 2) ∨ (8 < x ∧ x ≤ 16 ∧ clsOf x = 3) ∨ (16 < x ∧ clsOf x = -1) := by
  unfold clsOf
  repeat' split
  all_goals omega
theorem rm_bounds (x : Int) (h : 1 ≤ x) : 0 ≤ rmOf x - x ∧ rmOf x - x ≤ 15 := by
  unfold rmOf
  repeat' split
  all_goals omega
def In (x : Int) : Prop := 1 ≤ x ∧ x ≤ 49
instance (x : Int) : Decidable (In x) := inferInstanceAs (Decidable (_ ∧ _))

section
variable {w : World}
set_option maxHeartbeats 1000000 in
theorem cof_in (hs : Sizes w) (x : Int) (h0 : 1 ≤ x) (h1 : x ≤ 49) :
    Calls Tryd.prog 6 #[.int .i64 x] w fun e w' => e = .returned (.tuple #[.int .i64 (clsOf x), .int .i64 0]) ∧ w = w' := by
  obtain ⟨s0, s1, s2, s3⟩ := id hs
  have hd : decide (x < 1) = false := decide_eq_false (by omega)
  have hd1 : decide (49 < x) = false := decide_eq_false (by omega)
  obtain ⟨r, hr⟩ : ∃ r, Hid (clsOf x = r) := ⟨_, rfl⟩
  have HC := Lib.hid (clsOf_case x h0)
  rw [hr.out] at HC ⊢
  have i0 : ∀ w : World, (Instr.index 51 (.agg #[.int .i64 2, .int .i64 4, .int .i64 8, .int .i64 16]) (.int .i64 0)).run Tryd.prog w = .ok (.int .i64 2) w := fun w => by kernel_rfl
  have i1 : ∀ w : World, (Instr.index 51 (.agg #[.int .i64 2, .int .i64 4, .int .i64 8, .int .i64 16]) (.int .i64 1)).run Tryd.prog w = .ok (.int .i64 4) w := fun w => by kernel_rfl
  have i2 : ∀ w : World, (Instr.index 51 (.agg #[.int .i64 2, .int .i64 4, .int .i64 8, .int .i64 16]) (.int .i64 2)).run Tryd.prog w = .ok (.int .i64 8) w := fun w => by kernel_rfl
  have i3 : ∀ w : World, (Instr.index 51 (.agg #[.int .i64 2, .int .i64 4, .int .i64 8, .int .i64 16]) (.int .i64 3)).run Tryd.prog w = .ok (.int .i64 16) w := fun w => by kernel_rfl
  go_enter Tryd.func6, Tryd.ntmps6
  go_wp2
  go_loopw [13] (fun i wr => ∃ k : Nat, i = .int .i64 (k : Nat) ∧ k ≤ 4 ∧ (0 < k → 2 < x) ∧ (1 < k → 4 < x) ∧ (2 < k → 8 < x) ∧ (3 < k → 16 < x) ∧ wr = w) (fun i _ => 4 - (intOf i).toNat)
  case atStart => exact ⟨0, rfl, by omega, by omega, by omega, by omega, by omega, rfl⟩
  case round =>
    obtain ⟨k, rfl, hk, k0, k1, k2, k3, rfl⟩ := hrel
    by_cases hlt : k < 4
    · have hk4 : k = 0 ∨ k = 1 ∨ k = 2 ∨ k = 3 := by omega
      rcases hk4 with rfl | rfl | rfl | rfl
      · by_cases hx : x ≤ 2
        · have e1 : decide (x ≤ 2) = true := decide_eq_true hx
          have hres : r = 0 := by have := HC.out; omega
          subst hres
          go_wp2
          go_ret2
          exact ⟨rfl, rfl⟩
        · have e1 : decide (x ≤ 2) = false := decide_eq_false hx
          go_wp2
          go_roundw
          case rel => exact ⟨1, rfl, by omega, by omega, by omega, by omega, by omega, by first | rfl | trivial⟩
          case measure => simp [intOf]
      · by_cases hx : x ≤ 4
        · have e1 : decide (x ≤ 4) = true := decide_eq_true hx
          have hres : r = 1 := by have := HC.out; omega
          subst hres
          go_wp2
          go_ret2
          exact ⟨rfl, rfl⟩
        · have e1 : decide (x ≤ 4) = false := decide_eq_false hx
          go_wp2
          go_roundw
          case rel => exact ⟨2, rfl, by omega, by omega, by omega, by omega, by omega, by first | rfl | trivial⟩
          case measure => simp [intOf]
      · by_cases hx : x ≤ 8
        · have e1 : decide (x ≤ 8) = true := decide_eq_true hx
          have hres : r = 2 := by have := HC.out; omega
          subst hres
          go_wp2
          go_ret2
          exact ⟨rfl, rfl⟩
        · have e1 : decide (x ≤ 8) = false := decide_eq_false hx
          go_wp2
          go_roundw
          case rel => exact ⟨3, rfl, by omega, by omega, by omega, by omega, by omega, by first | rfl | trivial⟩
          case measure => simp [intOf]
      · by_cases hx : x ≤ 16
        · have e1 : decide (x ≤ 16) = true := decide_eq_true hx
          have hres : r = 3 := by have := HC.out; omega
          subst hres
          go_wp2
          go_ret2
          exact ⟨rfl, rfl⟩
        · have e1 : decide (x ≤ 16) = false := decide_eq_false hx
          go_wp2
          go_roundw
          case rel => exact ⟨4, rfl, by omega, by omega, by omega, by omega, by omega, by first | rfl | trivial⟩
          case measure => simp [intOf]
    · obtain rfl : k = 4 := by omega
      have hres : r = -1 := by have := HC.out; omega
      subst hres
      go_wp2
      go_ret2
      exact ⟨rfl, rfl⟩
theorem cof_out (x : Int) (h : ¬ In x) :
    Calls Tryd.prog 6 #[.int .i64 x] w fun e w' => e = .returned (.tuple #[.int .i64 0, .int .i64 1]) ∧ w = w' := by
  unfold In at h
  by_cases h0 : x < 1
  · have hd : decide (x < 1) = true := decide_eq_true h0
    go_enter Tryd.func6, Tryd.ntmps6
    go_wp2
    go_ret2
    exact ⟨rfl, rfl⟩
  · have hd : decide (x < 1) = false := decide_eq_false h0
    have hd1 : decide (49 < x) = true := decide_eq_true (by omega)
    go_enter Tryd.func6, Tryd.ntmps6
    go_wp2
    go_ret2
    exact ⟨rfl, rfl⟩
theorem csize_in (hs : Sizes w) (c : Int) (h0 : 0 ≤ c) (h1 : c < 4) :
    Calls Tryd.prog 7 #[.int .i64 c] w fun e w' => e = .returned (.tuple #[.int .i64 (szOf c), .int .i64 0]) ∧ w = w' := by
  obtain ⟨s0, s1, s2, s3⟩ := id hs
  have hc4 : c = 0 ∨ c = 1 ∨ c = 2 ∨ c = 3 := by omega
  rcases hc4 with rfl | rfl | rfl | rfl
  all_goals
    go_enter Tryd.func7, Tryd.ntmps7
    go_wp2
    go_ret2
    exact ⟨rfl, rfl⟩
theorem csize_out (c : Int) (h : ¬ (0 ≤ c ∧ c < 4)) :
    Calls Tryd.prog 7 #[.int .i64 c] w fun e w' => e = .returned (.tuple #[.int .i64 0, .int .i64 1]) ∧ w = w' := by
  by_cases h0 : c < 0
  · have hd : decide (c < 0) = true := decide_eq_true h0
    go_enter Tryd.func7, Tryd.ntmps7
    go_wp2
    go_ret2
    exact ⟨rfl, rfl⟩
  · have hd : decide (c < 0) = false := decide_eq_false h0
    have hd1 : decide (4 ≤ c) = true := decide_eq_true (by omega)
    go_enter Tryd.func7, Tryd.ntmps7
    go_wp2
    go_ret2
    exact ⟨rfl, rfl⟩
theorem cpages_out (x : Int) (h : ¬ In x) :
    Calls Tryd.prog 8 #[.int .i64 x] w fun e w' => e = .returned (.tuple #[.int .i64 0, .int .i64 1]) ∧ w = w' := by
  have hH := Lib.hid h
  clear h
  go_enter Tryd.func8, Tryd.ntmps8
  go_wp2_with (go_at_call 6; refine (cof_out _ hH.out).mono ?_; rintro e w1 ⟨rfl, rfl⟩)
  go_ret2
  exact ⟨rfl, rfl⟩
theorem cpages_in (hs : Sizes w) (x : Int) (h0 : 1 ≤ x) (h1 : x ≤ 49) :
    Calls Tryd.prog 8 #[.int .i64 x] w fun e w' => e = .returned (.tuple #[.int .i64 (pgOf x), .int .i64 0]) ∧ w = w' := by
  by_cases h16 : x ≤ 16
  · obtain ⟨c, hc0, hc4, HC⟩ : ∃ c : Int, 0 ≤ c ∧ c < 4 ∧ Hid (clsOf x = c) := by
      rcases clsOf_case x h0 with ⟨_, h⟩ | ⟨_, _, h⟩ | ⟨_, _, h⟩ | ⟨_, _, h⟩ | ⟨h, _⟩
      · exact ⟨0, by omega, by omega, h⟩
      · exact ⟨1, by omega, by omega, h⟩
      · exact ⟨2, by omega, by omega, h⟩
      · exact ⟨3, by omega, by omega, h⟩
      · omega
    rw [show pgOf x = 1 from if_pos h16]
    have hd : (c != -1) = true := by simp; omega
    go_enter Tryd.func8, Tryd.ntmps8
    go_wp2_with (go_at_call 6; refine (cof_in hs _ h0 h1).mono ?_; rintro e w1 ⟨rfl, rfl⟩; rw [HC.out])
    go_ret2
    exact ⟨rfl, rfl⟩
  · have HC : Hid (clsOf x = -1) := Lib.hid (by have := clsOf_case x h0; omega)
    rw [show pgOf x = (x + 15) / 16 from if_neg h16]
    go_enter Tryd.func8, Tryd.ntmps8
    go_wp2_with (go_at_call 6; refine (cof_in hs _ h0 h1).mono ?_; rintro e w1 ⟨rfl, rfl⟩; rw [HC.out])
    go_ret2
    exact ⟨by show Ending.returned (.tuple #[.int .i64 ((x + 16 - 1) / 16), .int .i64 0]) = _; rw [show x + 16 - 1 = x + 15 by omega], rfl⟩
end
end Go.Proofs.YtbefjhgegoginaaDoor
