/- The program and the document's own answers agree, call by call. -/
import Derived.Test.YtndaccekemjdmaaGreatDoorPuts
namespace Go.Proofs.YtndaccekemjdmaaGreatDoor
open Go.RowKit
set_option linter.unusedVariables false
set_option linter.unusedSimpArgs false

theorem first_ex (ws : List Nat) (v : Bool) (a : Nat) (m : Nat) : ∃ i why, FirstP ws v a (a + m) i why := by
  induction m with
  | zero => exact ⟨0, 3, .inr ⟨rfl, rfl, fun j g1 g2 => by omega⟩⟩
  | succ m ih =>
    obtain ⟨i, why, h⟩ := ih
    rcases h with ⟨rfl, h1, h2, h3, h4⟩ | ⟨rfl, rfl, h4⟩
    · exact ⟨i, 0, .inl ⟨rfl, h1, by omega, h3, h4⟩⟩
    · by_cases hb : tb ws (a + m) = v
      · exact ⟨(a + m : Nat), 0, .inl ⟨rfl, by omega, by omega, by rw [Int.toNat_natCast]; exact hb, fun j g1 g2 => h4 j g1 (by omega)⟩⟩
      · refine ⟨0, 3, .inr ⟨rfl, rfl, fun j g1 g2 => ?_⟩⟩
        by_cases e : j = a + m
        · rw [e]; exact hb
        · exact h4 j g1 (by omega)
theorem Told.is {P : Int → Int → Prop} {i why : Int} (hu : ∀ i' why', P i' why' → i' = i ∧ why' = why) {e : Ending} (h : Told P e) : e = .returned (.tuple #[.int .i64 i, .int .i64 why]) := by
  obtain ⟨i', why', he, hp⟩ := h
  obtain ⟨rfl, rfl⟩ := hu _ _ hp
  exact he
theorem run_ex (ws : List Nat) (c : Int) (h1 : 1 ≤ c) (m : Nat) : ∃ i why, RunP ws c m i why := by
  induction m with
  | zero => exact ⟨0, 3, .inr ⟨rfl, rfl, fun j g => by
      obtain rfl : j = 0 := by omega
      show (0 : Int) ≠ c
      omega⟩⟩
  | succ m ih =>
    obtain ⟨i, why, h⟩ := ih
    rcases h with ⟨rfl, k, g1, g2, g3, rfl⟩ | ⟨rfl, rfl, h4⟩
    · exact ⟨_, 0, .inl ⟨rfl, k, by omega, g2, g3, rfl⟩⟩
    · by_cases hb : (zs ws (m + 1) : Int) = c
      · exact ⟨_, 0, .inl ⟨rfl, m, by omega, hb, fun j g => h4 j (by omega), rfl⟩⟩
      · refine ⟨0, 3, .inr ⟨rfl, rfl, fun j g => ?_⟩⟩
        by_cases e : j = m + 1
        · rw [e]; exact hb
        · exact h4 j (by omega)
end Go.Proofs.YtndaccekemjdmaaGreatDoor
