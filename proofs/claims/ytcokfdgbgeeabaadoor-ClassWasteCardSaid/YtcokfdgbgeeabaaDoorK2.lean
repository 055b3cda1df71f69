/- Contracts: the waste of some; the questions whose answers the document gives (lives of layer 4). -/
import Derived.Test.YtcokfdgbgeeabaaDoorK1
import Derived.Test.YtcokfdgbgeeabaaDoorIRow
namespace Go.Proofs.YtcokfdgbgeeabaaDoor
open Go.RowKit
set_option linter.unusedVariables false
set_option linter.unusedSimpArgs false

def wsum (xs : List Int) : Nat → Int
  | 0 => 0
  | k + 1 => wsum xs k + (rmOf (xs.getD k 0) - xs.getD k 0)
def AllW (xs : List Int) (k : Nat) : Prop := ∀ j, j < k → In (xs.getD j 0)
theorem wsum_bounds (xs : List Int) (k : Nat) (h : AllW xs k) : 0 ≤ wsum xs k ∧ wsum xs k ≤ 15 * k := by
  induction k with
  | zero => exact ⟨Int.le_refl _, by show (0 : Int) ≤ _; omega⟩
  | succ k ih =>
    have h1 := ih fun j hj => h j (by omega)
    have h2 := rm_bounds (xs.getD k 0) (h k (by omega)).1
    rw [wsum]
    omega
def WasteE (xs : List Int) (e : Ending) : Prop := (AllW xs xs.length ∧ e = .returned (.tuple #[.int .i64 (wsum xs xs.length), .int .i64 0])) ∨ (¬ AllW xs xs.length ∧ e = .returned (.tuple #[.int .i64 0, .int .i64 1]))
theorem inamed (xs : List Int) (k : Nat) : ∃ x, Hid (xs.getD k 0 = x) := ⟨_, rfl⟩

section
variable {A : Option Addr} {xs : List Int} {w : World} (cap : Nat)
theorem cwaste_any (hs : Sizes w) (hr : IRow w w.heap.size A xs) (hl : xs.length ≤ 17592186044416) :
    Calls Tryd.prog 16 #[.slice A xs.length cap] w fun e w' => WasteE xs e ∧ w = w' := by
  go_enter Tryd.func16, Tryd.ntmps16
  go_wp2
  go_loopw [4, 11] (fun s i wr => ∃ k : Nat, i = .int .i64 (k : Nat) ∧ k ≤ xs.length ∧ s = .int .i64 (wsum xs k) ∧ AllW xs k ∧ wr = w) (fun _ i _ => xs.length - (intOf i).toNat)
  case atStart => exact ⟨0, rfl, Nat.zero_le _, rfl, fun j hj => by omega, rfl⟩
  case round =>
    obtain ⟨k, rfl, hk, rfl, hA, rfl⟩ := hrel
    have hb := wsum_bounds xs k hA
    by_cases hlt : k < xs.length
    · obtain ⟨b, off, rfl, hbb, hc⟩ := hr.at_ (by omega)
      have hck := hc k hlt
      obtain ⟨x, hx⟩ := inamed xs k
      rw [hx.out] at hck
      clear hc
      have HS : Hid (wsum xs (k + 1) = wsum xs k + (rmOf x - x)) := Lib.hid (by rw [wsum, hx.out])
      have HA := Lib.hid hA
      clear hA
      by_cases hin : In x
      · have HI := Lib.hid hin
        have hrm := rm_bounds x hin.1
        clear hin
        go_wp2_with (go_at_call 25; refine (croom_in hs x HI.out.1 HI.out.2).mono ?_; rintro e w1 ⟨rfl, rfl⟩)
        go_roundw
        case rel => exact ⟨k + 1, by go_num, by omega, by rw [HS.out], fun j hj => by
            by_cases e : j = k
            · rw [e, hx.out]; exact HI.out
            · exact HA.out j (by omega), by first | rfl | trivial⟩
        case measure => simp [intOf]; omega
      · have HI := Lib.hid hin
        clear hin
        go_wp2_with (go_at_call 25; refine (croom_out x HI.out).mono ?_; rintro e w1 ⟨rfl, rfl⟩)
        go_ret2
        exact ⟨.inr ⟨fun hh => by have := hh k hlt; rw [hx.out] at this; exact HI.out this, rfl⟩, rfl⟩
    · obtain rfl : k = xs.length := by omega
      go_wp2
      go_ret2
      exact ⟨.inl ⟨hA, rfl⟩, rfl⟩
set_option maxHeartbeats 1000000 in
theorem rcwaste_any (hr : IRow w w.heap.size A xs) (hl : xs.length ≤ 17592186044416) :
    Calls Tryd.prog 17 #[.slice A xs.length cap] w fun e w' => WasteE xs e ∧ w = w' := by
  go_enter Tryd.func17, Tryd.ntmps17
  go_wp2
  go_loopw [4, 15] (fun s i wr => ∃ k : Nat, i = .int .i64 (k : Nat) ∧ k ≤ xs.length ∧ s = .int .i64 (wsum xs k) ∧ AllW xs k ∧ wr = w) (fun _ i _ => xs.length - (intOf i).toNat)
  case atStart => exact ⟨0, rfl, Nat.zero_le _, rfl, fun j hj => by omega, rfl⟩
  case round =>
    obtain ⟨k, rfl, hk, rfl, hA, rfl⟩ := hrel
    have hb := wsum_bounds xs k hA
    by_cases hlt : k < xs.length
    · obtain ⟨b, off, rfl, hbb, hc⟩ := hr.at_ (by omega)
      have hck := hc k hlt
      obtain ⟨x, hx⟩ := inamed xs k
      rw [hx.out] at hck
      clear hc
      have HS : Hid (wsum xs (k + 1) = wsum xs k + (rmOf x - x)) := Lib.hid (by rw [wsum, hx.out])
      have HA := Lib.hid hA
      clear hA
      by_cases hin : In x
      · have HI := Lib.hid hin
        have hrm := rm_bounds x hin.1
        by_cases h16 : x ≤ 16
        · obtain ⟨c, hc0, hc4, HC, HZ⟩ : ∃ c : Int, 0 ≤ c ∧ c < 4 ∧ Hid (clsOf x = c) ∧ Hid (szOf c = rmOf x) := by
            rcases clsOf_case x hin.1 with ⟨g, h⟩ | ⟨g', g, h⟩ | ⟨g', g, h⟩ | ⟨g', g, h⟩ | ⟨h, _⟩
            · exact ⟨0, by omega, by omega, h, by unfold Hid szOf rmOf; repeat' split; all_goals omega⟩
            · exact ⟨1, by omega, by omega, h, by unfold Hid szOf rmOf; repeat' split; all_goals omega⟩
            · exact ⟨2, by omega, by omega, h, by unfold Hid szOf rmOf; repeat' split; all_goals omega⟩
            · exact ⟨3, by omega, by omega, h, by unfold Hid szOf rmOf; repeat' split; all_goals omega⟩
            · omega
          clear hin
          go_wp2_with (first
            | (go_at_call 9; refine (rcof_in x HI.out.1 HI.out.2).mono ?_; rintro e w1 ⟨rfl, rfl⟩; rw [HC.out])
            | (go_at_call 11; refine (rcsize_in c hc0 hc4).mono ?_; rintro e w2 ⟨rfl, rfl⟩; rw [HZ.out]))
          go_roundw
          case rel => exact ⟨k + 1, by go_num, by omega, by rw [HS.out], fun j hj => by
              by_cases e : j = k
              · rw [e, hx.out]; exact HI.out
              · exact HA.out j (by omega), by first | rfl | trivial⟩
          case measure => simp [intOf]; omega
        · have HC : Hid (clsOf x = -1) := Lib.hid (by have := clsOf_case x hin.1; omega)
          obtain ⟨p, HP, HQ⟩ : ∃ p : Int, Hid (pgOf x = p) ∧ Hid (p * 16 = rmOf x) := ⟨(x + 15) / 16, Lib.hid (if_neg h16), Lib.hid (by unfold rmOf; repeat' split; all_goals omega)⟩
          have hp : 0 ≤ p ∧ p ≤ 100 := by have := HQ.out; have := HI.out.2; omega
          have HQ2 : Hid (wsum xs k + (p * 16 - x) = wsum xs (k + 1)) := Lib.hid (by rw [HS.out, HQ.out])
          have hq : 0 ≤ p * 16 - x ∧ p * 16 - x ≤ 15 := by have := HQ.out; omega
          clear hin
          go_wp2_with (first
            | (go_at_call 9; refine (rcof_in x HI.out.1 HI.out.2).mono ?_; rintro e w1 ⟨rfl, rfl⟩; rw [HC.out])
            | (go_at_call 11; refine (rcsize_out (-1) (by omega)).mono ?_; rintro e w2 ⟨rfl, rfl⟩)
            | (go_at_call 15; refine (rcpages_in x HI.out.1 HI.out.2).mono ?_; rintro e w2 ⟨rfl, rfl⟩; rw [HP.out]))
          go_roundw
          case rel => exact ⟨k + 1, by go_num, by omega, by rw [← HQ2.out], fun j hj => by
              by_cases e : j = k
              · rw [e, hx.out]; exact HI.out
              · exact HA.out j (by omega), by first | rfl | trivial⟩
          case measure => simp [intOf]; omega
      · have HI := Lib.hid hin
        clear hin
        go_wp2_with (go_at_call 9; refine (rcof_out x HI.out).mono ?_; rintro e w1 ⟨rfl, rfl⟩)
        go_ret2
        exact ⟨.inr ⟨fun hh => by have := hh k hlt; rw [hx.out] at this; exact HI.out this, rfl⟩, rfl⟩
    · obtain rfl : k = xs.length := by omega
      go_wp2
      go_ret2
      exact ⟨.inl ⟨hA, rfl⟩, rfl⟩
end
theorem WasteE.good {xs : List Int} {e : Ending} (h : WasteE xs e) (hA : AllW xs xs.length) : e = .returned (.tuple #[.int .i64 (wsum xs xs.length), .int .i64 0]) := by
  rcases h with ⟨_, h⟩ | ⟨h, _⟩
  · exact h
  · exact absurd hA h
theorem WasteE.bad {xs : List Int} {e : Ending} (h : WasteE xs e) (hA : ¬ AllW xs xs.length) : e = .returned (.tuple #[.int .i64 0, .int .i64 1]) := by
  rcases h with ⟨h, _⟩ | ⟨_, h⟩
  · exact absurd h hA
  · exact h
theorem irow_two (w : World) (x y : Int) (hx : I63 x) (hy : I63 y) : IRow (w.alloc (.cells #[.int .i64 x, .int .i64 y] 3)) (w.alloc (.cells #[.int .i64 x, .int .i64 y] 3)).heap.size (some ⟨w.heap.size, 0, none⟩) [x, y] :=
  ⟨fun z hz => by
    simp at hz
    rcases hz with rfl | rfl
    · exact hx
    · exact hy, fun _ => ⟨w.heap.size, 0, rfl, by simp, fun i hi => by
      have h2 : i = 0 ∨ i = 1 := by simp at hi; omega
      rcases h2 with rfl | rfl
      · exact new_two.1
      · exact new_two.2⟩⟩
set_option maxHeartbeats 1000000 in
theorem clives_any (w : World) (hs : Sizes w) : Calls Tryd.prog 18 #[] w fun e w' => e = .returned (.bool true) ∧ Below w.heap.size w w' := by
  go_enter Tryd.func18, Tryd.ntmps18
  go_wp2_with fail
  go_at_call 8
  refine (cof_in hs 3 (by omega) (by omega)).mono ?_
  rintro e w1 ⟨rfl, rfl⟩
  rw [show clsOf 3 = 1 by decide]
  go_wp2_with fail
  go_at_call 8
  refine (cof_in hs 17 (by omega) (by omega)).mono ?_
  rintro e w1 ⟨rfl, rfl⟩
  rw [show clsOf 17 = -1 by decide]
  go_wp2_with fail
  go_at_call 10
  refine (csize_in hs 1 (by omega) (by omega)).mono ?_
  rintro e w1 ⟨rfl, rfl⟩
  rw [show szOf 1 = 4 by decide]
  go_wp2_with fail
  go_at_call 12
  refine (cslots_in hs 0 (by omega) (by omega)).mono ?_
  rintro e w1 ⟨rfl, rfl⟩
  rw [show 16 / szOf 0 = 8 by decide]
  go_wp2_with fail
  go_at_call 14
  refine (cpages_in hs 17 (by omega) (by omega)).mono ?_
  rintro e w1 ⟨rfl, rfl⟩
  rw [show pgOf 17 = 2 by decide]
  go_wp2_with fail
  go_at_call 16
  refine (cwaste_any 2 (hs.later (by repeat (first | exact Below.refl _ _ | assumption | (refine below_drewN ?_ _) | (refine Below.drew ?_) | (refine Below.alloc ?_ (by first | omega | (simp; omega) | simp) _) | (refine Below.setCell ?_ (by first | omega | (simp; omega) | simp) _) | (refine below_trans ?_ (by assumption) (by first | omega | (simp; omega) | simp))))) (irow_two w 3 17 (by unfold I63; omega) (by unfold I63; omega)) (by simp)).mono ?_
  rintro e w1 ⟨h1, rfl⟩
  rw [h1.good (fun j hj => by
    have h2 : j = 0 ∨ j = 1 := by simp at hj; omega
    rcases h2 with rfl | rfl
    · show In 3; decide
    · show In 17; decide), show wsum [3, 17] [(3 : Int), 17].length = 16 by decide]
  clear h1
  go_wp2_with fail
  go_at_call 8
  refine (cof_out 50 (by decide)).mono ?_
  rintro e w1 ⟨rfl, rfl⟩
  go_wp2
  go_ret
  exact ⟨rfl, (by repeat (first | exact Below.refl _ _ | assumption | (refine below_drewN ?_ _) | (refine Below.drew ?_) | (refine Below.alloc ?_ (by first | omega | (simp; omega) | simp) _) | (refine Below.setCell ?_ (by first | omega | (simp; omega) | simp) _) | (refine below_trans ?_ (by assumption) (by first | omega | (simp; omega) | simp))))⟩
end Go.Proofs.YtcokfdgbgeeabaaDoor
