/- The document's own answers of arena: a copy, whether words are there, whether two are the same. -/
import Derived.Test.YtofkdpgnngbkfaaA7
import Derived.Deep.AppendLies
import Derived.OwnWalk
import Derived.BigQuiet
namespace Go.Proofs.Ytofkdpgnngbkfaa
open Go.RowKit
set_option linter.unusedVariables false
set_option linter.unusedSimpArgs false

theorem res_arena1 {fn : Func} {p : Tmp} (h : fn.results = #[.cell p 24]) {tmps : Array Value} {w : World} {g : Nat} {v0 : Value} (hp : tmps.getD p undef = .pointer (some ⟨g, 0, none⟩))
    (h0 : w.cell? ⟨g, 0, none⟩ = some v0) : (results fn tmps).run Try.prog w = .ok (.agg #[v0]) w := by
  have hp2 : tmps[p]?.getD undef = .pointer (some ⟨g, 0, none⟩) := by rw [← hp]; simp
  simp only [results, h]
  simp [go_sem, Result.andThen, h0, asAddr, hp2]
/-- an arena of a call's own -/
def CopiedA (w : World) (ws : List Nat) (e : Ending) (w' : World) : Prop :=
  ∃ A cap, e = .returned (.agg #[.slice A ws.length cap]) ∧ (Own w' w.heap.size A ws ∧ ws.length ≤ cap) ∧ Below w.heap.size w w'
theorem cap_of_owns {w : World} {B t s n cap g : Nat} {xs : List Value} (h : w.ownsRow B t s (.slice (some ⟨g, 0, none⟩) n cap) n xs) : n ≤ cap := by
  obtain ⟨_, ⟨h1, h2⟩ | ⟨g', cap', cur, e, _, _, h3, _⟩⟩ := h
  · injection h1 with h1; cases h1
  · injection e with e1 e2 e3
    omega

section
variable {A : Option Addr} {ws : List Nat} {w : World} (cap : Nat)
theorem athere_any (len a n : Nat) (b : Bool) (hl : len ≤ 9223372036854775807) (ha : a < W64) (hn : n < W64) (hb : (b = true ∧ a + n ≤ len) ∨ (b = false ∧ ¬ a + n ≤ len)) :
    Calls Try.prog 22 #[.agg #[.slice A len cap], .int .u64 (a : Nat), .int .u64 (n : Nat)] w fun e w' => e = .returned (.bool b) ∧ Below w.heap.size w w' := by
  unfold W64 at ha hn
  by_cases h1 : n ≤ len
  · by_cases h2 : a ≤ len - n
    · obtain rfl : b = true := by
        rcases hb with hb | hb
        · exact hb.1
        · omega
      clear hb
      have hd1 : decide ((n : Int) ≤ (len : Int)) = true := by simpa using h1
      have hd2 : decide ((a : Int) ≤ (len : Int) - n) = true := by simp; omega
      go_enter Try.func22, Try.ntmps22
      go_wp2
      go_ret
      exact ⟨rfl, (by repeat (first | exact Below.refl _ _ | assumption | (refine below_drewN ?_ _) | (refine Below.drew ?_) | (refine Below.alloc ?_ (by first | omega | (simp; omega) | simp) _) | (refine Below.setCell ?_ (by first | omega | (simp; omega) | simp) _) | (refine below_trans ?_ (by assumption) (by first | omega | (simp; omega) | simp))))⟩
    · obtain rfl : b = false := by
        rcases hb with hb | hb
        · omega
        · exact hb.1
      clear hb
      have hd1 : decide ((n : Int) ≤ (len : Int)) = true := by simpa using h1
      have hd2 : decide ((a : Int) ≤ (len : Int) - n) = false := by simp; omega
      go_enter Try.func22, Try.ntmps22
      go_wp2
      go_ret
      exact ⟨rfl, (by repeat (first | exact Below.refl _ _ | assumption | (refine below_drewN ?_ _) | (refine Below.drew ?_) | (refine Below.alloc ?_ (by first | omega | (simp; omega) | simp) _) | (refine Below.setCell ?_ (by first | omega | (simp; omega) | simp) _) | (refine below_trans ?_ (by assumption) (by first | omega | (simp; omega) | simp))))⟩
  · obtain rfl : b = false := by
      rcases hb with hb | hb
      · omega
      · exact hb.1
    clear hb
    have hd1 : decide ((n : Int) ≤ (len : Int)) = false := by simp; omega
    go_enter Try.func22, Try.ntmps22
    go_wp2
    go_ret
    exact ⟨rfl, (by repeat (first | exact Below.refl _ _ | assumption | (refine below_drewN ?_ _) | (refine Below.drew ?_) | (refine Below.alloc ?_ (by first | omega | (simp; omega) | simp) _) | (refine Below.setCell ?_ (by first | omega | (simp; omega) | simp) _) | (refine below_trans ?_ (by assumption) (by first | omega | (simp; omega) | simp))))⟩
end
def SameToA (ws ws' : List Nat) (k : Nat) : Prop := ∀ j, j < k → ws.getD j 0 = ws'.getD j 0
theorem asame_ok (ws : List Nat) (hm : ws.length ≤ maxLen) (w : World) (A A' : Option Addr) (cap cap' : Nat) (hr : Row w w.heap.size A ws) (hr' : Row w w.heap.size A' ws) :
    Calls Try.prog 12 #[.agg #[.slice A ws.length cap], .agg #[.slice A' ws.length cap']] w fun e w' => e = .returned (.bool true) ∧ Below w.heap.size w w' := by
  unfold maxLen at hm
  have hd2 : ((ws.length : Int) != (ws.length : Int)) = false := by simp
  go_enter Try.func12, Try.ntmps12
  go_wp2
  go_loopw [16] (fun i wr => ∃ k m : Nat, i = .int .i64 k ∧ k ≤ ws.length ∧ wr = ((w.alloc (Obj.cells #[Value.slice A ws.length cap] 24)).alloc (Obj.cells #[Value.slice A' ws.length cap'] 24)).drewN m)
    (fun i _ => ws.length - (intOf i).toNat)
  case atStart => exact ⟨0, 0, rfl, Nat.zero_le _, rfl⟩
  case round =>
    obtain ⟨k, m, rfl, hk, rfl⟩ := hrel
    by_cases hlt : k < ws.length
    · obtain ⟨b, off, rfl, hb, hc⟩ := hr.at_ (by omega)
      obtain ⟨b', off', rfl, hb', hc'⟩ := hr'.at_ (by omega)
      have hck := hc k hlt
      have hck' := hc' k hlt
      obtain ⟨x, hx⟩ := named ws k
      rw [hx.out] at hck hck'
      have hd3 : ((x : Int) != (x : Int)) = false := by simp
      clear hc hc'
      go_wp2
      go_quiet (fail)
      go_wp2
      go_roundw
      case rel => exact ⟨k + 1, _, by go_num, by omega, rfl⟩
      case measure => simp [intOf]; omega
    · go_wp2
      go_ret
      exact ⟨rfl, (by repeat (first | exact Below.refl _ _ | assumption | (refine below_drewN ?_ _) | (refine Below.drew ?_) | (refine Below.alloc ?_ (by first | omega | (simp; omega) | simp) _) | (refine Below.setCell ?_ (by first | omega | (simp; omega) | simp) _) | (refine below_trans ?_ (by assumption) (by first | omega | (simp; omega) | simp))))⟩
end Go.Proofs.Ytofkdpgnngbkfaa
