/- The walk of the law TopSlotted. -/
import Derived.Test.YtbefjhgegoginaaDoorU1
namespace Go.Proofs.YtbefjhgegoginaaDoor
open Go.RowKit
set_option linter.unusedVariables false
set_option linter.unusedSimpArgs false

section
variable {w : World} {d : Sd} {A M : Option Addr} (ca cm : Nat)
theorem sfind_one {g : Nat} (hg : w.heap.size = g) (hA : Row w w.heap.size A d.aw) (hM : Row w w.heap.size M d.mw) (a : Nat) (x k y : Int) (hF : FindE [d] a x k y) (t : TypeId) :
    Calls Tryd.prog 11 #[.slice (some ⟨g, 0, none⟩) 1 1, .int .u64 (a : Nat)] (w.alloc (.cells #[.int .i64 d.f, .int .i64 d.p, .int .i64 d.z, .int .i64 d.an, .slice A d.aw.length ca, .int .i64 d.mn, .slice M d.mw.length cm, .bool d.s] t)) fun e w' => e = .returned (.tuple #[.int .i64 x, .int .i64 k, .int .i64 y]) ∧ Below (g + 1) (w.alloc (.cells #[.int .i64 d.f, .int .i64 d.p, .int .i64 d.z, .int .i64 d.an, .slice A d.aw.length ca, .int .i64 d.mn, .slice M d.mw.length cm, .bool d.s] t)) w' := by
  subst hg
  have h := sfind_any (w := w.alloc (.cells #[.int .i64 d.f, .int .i64 d.p, .int .i64 d.z, .int .i64 d.an, .slice A d.aw.length ca, .int .i64 d.mn, .slice M d.mw.length cm, .bool d.s] t)) 1 (by have := srow_one w d A ca M cm t hA hM; rwa [show w.heap.size + 1 = _ from (World.size_alloc w _).symm] at this) (by simp) a x k y hF
  rw [World.size_alloc] at h
  exact h
end
/-- all that the law calls on its span, behind span.Make: letters for what they reckon -/
theorem ts_calls (first p z slot x : Int) (h1 : Sized p z) (h2 : Placed first p) (hx : (z = 0 ∧ x ≤ p * 16) ∨ (z ≠ 0 ∧ x ≤ z)) :
    ∃ (N : Int) (ws : List Nat), Hid (slotsOf z = N) ∧ Hid (wordsN N = ws) ∧ 1 ≤ N ∧ N ≤ 8 ∧ Right N ws ∧
      ((¬ (0 ≤ slot ∧ slot < N) ∧ ∀ (w : World) (A1 : Option Addr) (ca1 : Nat) (M1 : Option Addr) (cm1 : Nat), Row w w.heap.size A1 ws → Row w w.heap.size M1 ws →
          Calls Tryd.prog 10 #[.agg #[.int .i64 first, .int .i64 p, .int .i64 z, .int .i64 N, .slice A1 ws.length ca1, .int .i64 N, .slice M1 ws.length cm1, .bool true], .int .i64 slot] w fun e w' => e = .returned (.tuple #[.int .u64 0, .int .i64 1]) ∧ Below w.heap.size w w') ∨
       (0 ≤ slot ∧ slot < N ∧ ∃ (a : Nat) (us : List Nat) (r y : Int), Hid (putW ws slot.toNat true = us) ∧ a ≤ 17000 ∧
          ((y = 0 ∧ (a : Int) + x ≤ r ∧ 0 ≤ r ∧ r ≤ 20000) ∨ (y = 1 ∧ r = 0 ∧ (a : Int) + x ≤ (first + p) * 16)) ∧
          (∀ (w : World) (A1 : Option Addr) (ca1 : Nat) (M1 : Option Addr) (cm1 : Nat), Row w w.heap.size A1 ws → Row w w.heap.size M1 ws →
            Calls Tryd.prog 10 #[.agg #[.int .i64 first, .int .i64 p, .int .i64 z, .int .i64 N, .slice A1 ws.length ca1, .int .i64 N, .slice M1 ws.length cm1, .bool true], .int .i64 slot] w fun e w' => e = .returned (.tuple #[.int .u64 (a : Nat), .int .i64 0]) ∧ Below w.heap.size w w') ∧
          (∀ (w : World) (g : Nat) (A1 : Option Addr) (ca1 : Nat) (M1 : Option Addr) (cm1 : Nat) (t : TypeId), w.heap.size = g → Row w w.heap.size A1 ws → Row w w.heap.size M1 ws →
            Calls Tryd.prog 11 #[.slice (some ⟨g, 0, none⟩) 1 1, .int .u64 (a : Nat)] (w.alloc (.cells #[.int .i64 first, .int .i64 p, .int .i64 z, .int .i64 N, .slice A1 ws.length ca1, .int .i64 N, .slice M1 ws.length cm1, .bool true] t)) fun e w' => e = .returned (.tuple #[.int .i64 0, .int .i64 0, .int .i64 10]) ∧ Below (g + 1) (w.alloc (.cells #[.int .i64 first, .int .i64 p, .int .i64 z, .int .i64 N, .slice A1 ws.length ca1, .int .i64 N, .slice M1 ws.length cm1, .bool true] t)) w') ∧
          (∀ (w : World) (g : Nat) (A1 : Option Addr) (ca1 : Nat) (M1 : Option Addr) (cm1 : Nat) (t : TypeId), w.heap.size = g → Row w w.heap.size A1 us → Row w w.heap.size M1 ws →
            Calls Tryd.prog 11 #[.slice (some ⟨g, 0, none⟩) 1 1, .int .u64 (a : Nat)] (w.alloc (.cells #[.int .i64 first, .int .i64 p, .int .i64 z, .int .i64 N, .slice A1 us.length ca1, .int .i64 N, .slice M1 ws.length cm1, .bool true] t)) fun e w' => e = .returned (.tuple #[.int .i64 0, .int .i64 slot, .int .i64 0]) ∧ Below (g + 1) (w.alloc (.cells #[.int .i64 first, .int .i64 p, .int .i64 z, .int .i64 N, .slice A1 us.length ca1, .int .i64 N, .slice M1 ws.length cm1, .bool true] t)) w') ∧
          (∀ (w : World) (A1 : Option Addr) (ca1 : Nat) (M1 : Option Addr) (cm1 : Nat), Row w w.heap.size A1 us → Row w w.heap.size M1 ws →
            Calls Tryd.prog 10 #[.agg #[.int .i64 first, .int .i64 p, .int .i64 z, .int .i64 N, .slice A1 us.length ca1, .int .i64 N, .slice M1 ws.length cm1, .bool true], .int .i64 (slot + 1)] w fun e w' => e = .returned (.tuple #[.int .u64 r, .int .i64 y]) ∧ Below w.heap.size w w'))) := by
  have hs := h1.slots
  have hp := h2
  unfold Placed at hp
  refine ⟨_, _, rfl, rfl, by omega, by omega, right_wordsN _ (by omega) (by omega), ?_⟩
  by_cases hk : 0 ≤ slot ∧ slot < slotsOf z
  · obtain ⟨k0, k1⟩ := hk
    obtain ⟨b0, b1, b2, b3, b4⟩ := at_room h1 h2 k0 k1
    obtain ⟨a, ha⟩ := Int.eq_ofNat_of_zero_le b0
    obtain ⟨r, y, e1, e2⟩ := next_put h1 h2 k0 k1 hx
    refine .inr ⟨k0, k1, a, _, r, y, rfl, by omega, by rw [← ha]; exact e2, fun w A1 ca1 M1 cm1 hA hM => ?_, fun w g A1 ca1 M1 cm1 t hg hA hM => ?_, fun w g A1 ca1 M1 cm1 t hg hA hM => ?_, fun w A1 ca1 M1 cm1 hA hM => ?_⟩
    · have := sAddr_any (w := w) (d := newSd first p z) ca1 cm1 hA hM slot (a : Int) 0 (.inl ⟨ok_newSd h1 h2, k0, k1, ha.symm, rfl⟩)
      exact this
    · exact sfind_one (d := newSd first p z) ca1 cm1 hg hA hM a 0 0 10 (find_new a h1 h2 k0 k1 ha) t
    · exact sfind_one (d := putSd first p z slot) ca1 cm1 hg hA hM a 0 slot 0 (find_put a h1 h2 k0 k1 ha) t
    · exact sAddr_any (w := w) (d := putSd first p z slot) ca1 cm1 hA hM (slot + 1) r y e1
  · refine .inl ⟨hk, fun w A1 ca1 M1 cm1 hA hM => ?_⟩
    exact sAddr_any (w := w) (d := newSd first p z) ca1 cm1 hA hM slot 0 1 (.inr (.inl ⟨ok_newSd h1 h2, hk, rfl, rfl⟩))
end Go.Proofs.YtbefjhgegoginaaDoor
