/- The walks of the laws PagesTake, PagesBack, PagesFull. -/
import Derived.Test.YthikpamjeckfcaaDoorQ1
namespace Go.Proofs.YthikpamjeckfcaaDoor
open Go.RowKit
set_option linter.unusedVariables false
set_option linter.unusedSimpArgs false

/-- a run that is taken: either there is one, and it is free, or there is none -/
theorem ptake_any (n c : Int) (ws : List Nat) (h63 : c ≤ 9223372036854775807) :
    (∃ why : Int, why ≠ 0 ∧ (why = 6 ↔ (Right n ws ∧ 1 ≤ c)) ∧ ((Right n ws ∧ 1 ≤ c) → ((best ws n.toNat : Nat) : Int) < c) ∧ ∃ (N : Int) (us : List Nat), ∀ (w : World) (A : Option Addr) (cap : Nat), Row w w.heap.size A ws → Calls Tryd.prog 8 #[.agg #[.int .i64 n, .slice A ws.length cap], .int .i64 c] w fun e w' => FreshT w N us 0 why e w') ∨
    (∃ i : Int, Right n ws ∧ 1 ≤ c ∧ FitP ws c n i 0 ∧ c ≤ (best ws n.toNat : Nat) ∧ ∀ (w : World) (A : Option Addr) (cap : Nat), Row w w.heap.size A ws → Calls Tryd.prog 8 #[.agg #[.int .i64 n, .slice A ws.length cap], .int .i64 c] w fun e w' => FreshT w n (fillW ws i.toNat c.toNat true) i 0 e w') := by
  by_cases h : Right n ws
  · have hn := h.1
    by_cases h1 : 1 ≤ c
    · obtain ⟨i, why, hp⟩ := run_ex ws c h1 n.toNat
      rw [show ((n.toNat : Nat) : Int) = n by omega] at hp
      have hf := hp.fit h1
      have hb := hf.best h1 hn
      rcases run_why hp with rfl | ⟨rfl, rfl⟩
      · refine .inr ⟨i, h, h1, hf, ?_, fun w A cap hr => take_fit cap c i hr h h1 h63 hp⟩
        rcases hb with ⟨_, hb⟩ | ⟨hb, _⟩
        · exact hb
        · cases hb
      · refine .inl ⟨6, by omega, ⟨fun _ => ⟨h, h1⟩, fun _ => rfl⟩, fun _ => ?_, n, ws, fun w A cap hr => take_full cap c hr h h1 h63 hp⟩
        rcases hb with ⟨hb, _⟩ | ⟨_, hb⟩
        · cases hb
        · exact hb
    · exact .inl ⟨1, by omega, ⟨(fun hh => by cases hh), fun hh => absurd hh.2 h1⟩, fun hh => absurd hh.2 h1, n, ws, fun w A cap hr => take_out cap c hr h (by omega)⟩
  · exact .inl ⟨2, by omega, ⟨(fun hh => by cases hh), fun hh => absurd hh.1 h⟩, fun hh => absurd hh.1 h, 0, [], fun w A cap hr => take_bad cap c hr h⟩

end Go.Proofs.YthikpamjeckfcaaDoor
