/- Contracts of the smallest functions of package bits: words for n bits, the place of a bit, whether there is a bit, which it is, and its change. -/
import Derived.Test.YtdeopodfpeeenaaDoorProg
import Derived.Test.YtdeopodfpeeenaaDoorBase
import Derived.WalkKit
import Derived.BigQuiet
import Derived.Deep.QuietTactic
import Derived.WalkLawsBesides
import Derived.WalkSpells
import Derived.Lib.Hide
import Derived.Outline
namespace Go.Proofs.YtdeopodfpeeenaaDoor
open Go.RowKit

theorem ret_bool {a b : Bool} (h : a = b) : Ending.returned (.bool a) = .returned (.bool b) := by rw [h]
theorem ret_int {k : IntKind} {a b : Int} (h : a = b) : Ending.returned (.int k a) = .returned (.int k b) := by rw [h]
theorem q_left {P : Program} {f : FuncId} {args : Array Value} {w : World} {n : Nat} {v : Value} (h : Calls P f args (w.drewN n) fun e w' => e = .returned v ∧ w.drewN n = w') :
    Calls P f args (w.drewN n) fun e w'' => e = .returned v ∧ ∃ m, w'' = w.drewN m := h.mono fun _ _ ⟨he, hm⟩ => ⟨he, n, hm.symm⟩
theorem q_some {P : Program} {f : FuncId} {args : Array Value} {w : World} {n : Nat} {v : Value} (h : Calls P f args (w.drewN n) fun e w' => e = .returned v ∧ ∃ m, w' = (w.drewN n).drewN m) :
    Calls P f args (w.drewN n) fun e w'' => e = .returned v ∧ ∃ m, w'' = w.drewN m := h.mono fun _ _ ⟨he, m, hm⟩ => ⟨he, n + m, by rw [hm, World.drewN_drewN]⟩

theorem wordsFor_any (n : Int) (w : World) (h0 : 0 ≤ n) (h1 : n ≤ 4096) :
    Calls Tryd.prog 25 #[.int .i64 n] w fun e w' => e = .returned (.int .i64 ((n + 63) / 64)) ∧ w = w' := by
  go_enter Tryd.func25, Tryd.ntmps25
  go_wp2
  go_ret
  exact ⟨by show Ending.returned (.int .i64 ((n + 64 - 1) / 64)) = _; rw [show n + 64 - 1 = n + 63 by omega], rfl⟩

theorem place_any (i : Int) (w : World) (h0 : 0 ≤ i) (h1 : i ≤ 4096) :
    Calls Tryd.prog 42 #[.int .i64 i] w fun e w' => e = .returned (.tuple #[.int .i64 (i / 64), .int .u64 ((p2 (i % 64).toNat : Nat) : Int)]) ∧ ∃ n, w' = w.drewN n := by
  have hp := wrap_pow (i % 64).toNat (by omega)
  go_enter Tryd.func42, Tryd.ntmps42
  go_wp2
  go_quiet (fail)
  go_wp2
  go_ret2
  exact ⟨rfl, _, rfl⟩

theorem at_any (i : Int) (vb b off len cap x : Nat) (w : World) (h0 : 0 ≤ i) (h1 : i < 64 * len) (hl : len ≤ 64) (hx : x < W64)
    (hc : w.cell? ⟨vb, 1, none⟩ = some (.slice (some ⟨b, off, none⟩) len cap)) (hw : w.cell? ⟨b, off + (i / 64).toNat, none⟩ = some (.int .u64 x)) :
    Calls Tryd.prog 28 #[.pointer (some ⟨vb, 0, none⟩), .int .i64 i] w fun e w' => e = .returned (.bool (x.testBit (i % 64).toNat)) ∧ ∃ n, w' = w.drewN n := by
  go_enter Tryd.func28, Tryd.ntmps28
  go_wp2_with (go_at_call 42; refine (place_any _ _ (by omega) (by omega)).mono ?_; rintro e w' ⟨rfl, n, rfl⟩)
  go_ret
  exact ⟨by show Ending.returned (.bool (bits .and .u64 (x : Int) ((p2 (i % 64).toNat : Nat) : Int) != 0)) = _; rw [and_pow x _ hx (by omega)], _, rfl⟩

theorem set_any (i : Int) (v : Bool) (vb b off len cap x : Nat) (w : World) (h0 : 0 ≤ i) (h1 : i < 64 * len) (hl : len ≤ 64) (hx : x < W64)
    (hc : w.cell? ⟨vb, 1, none⟩ = some (.slice (some ⟨b, off, none⟩) len cap)) (hw : w.cell? ⟨b, off + (i / 64).toNat, none⟩ = some (.int .u64 x)) (hf : w.frozen? ⟨b, off + (i / 64).toNat, none⟩ = false) :
    Calls Tryd.prog 40 #[.pointer (some ⟨vb, 0, none⟩), .int .i64 i, .bool v] w fun e w' => e = .returned (.tuple #[]) ∧
      ∃ n, w' = (w.setCell ⟨b, off + (i / 64).toNat, none⟩ (.int .u64 (setBit x (i % 64).toNat v : Nat))).drewN n := by
  have ho := or_pow x (i % 64).toNat hx (by omega)
  have ha := andNot_pow x (i % 64).toNat hx (by omega)
  cases v
  · go_enter Tryd.func40, Tryd.ntmps40
    go_wp2_with (go_at_call 42; refine (place_any _ _ (by omega) (by omega)).mono ?_; rintro e w' ⟨rfl, n, rfl⟩)
    go_end0
    exact ⟨rfl, _, rfl⟩
  · go_enter Tryd.func40, Tryd.ntmps40
    go_wp2_with (go_at_call 42; refine (place_any _ _ (by omega) (by omega)).mono ?_; rintro e w' ⟨rfl, n, rfl⟩)
    go_end0
    exact ⟨rfl, _, rfl⟩
end Go.Proofs.YtdeopodfpeeenaaDoor
