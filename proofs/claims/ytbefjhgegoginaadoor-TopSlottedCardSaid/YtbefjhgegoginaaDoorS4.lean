/- Contracts of package span: slots, addresses, a new span. -/
import Derived.Test.YtbefjhgegoginaaDoorS3
namespace Go.Proofs.YtbefjhgegoginaaDoor
open Go.RowKit
set_option linter.unusedVariables false
set_option linter.unusedSimpArgs false

theorem okl_one (d : Sd) : OkL [d] ↔ Ok1 d := by
  constructor
  · intro h
    exact h.2.1 0 (by simp)
  · intro h
    refine ⟨by simp, fun i hi => ?_, fun i hi => ?_⟩
    · have : i = 0 := by simp at hi; omega
      subst this
      exact h
    · simp at hi
theorem srow_one (w : World) (d : Sd) (A : Option Addr) (ca : Nat) (M : Option Addr) (cm : Nat) (t : TypeId) (hA : Row w w.heap.size A d.aw) (hM : Row w w.heap.size M d.mw) :
    SRow (w.alloc (.cells #[.int .i64 d.f, .int .i64 d.p, .int .i64 d.z, .int .i64 d.an, .slice A d.aw.length ca, .int .i64 d.mn, .slice M d.mw.length cm, .bool d.s] t)) (w.heap.size + 1) (some ⟨w.heap.size, 0, none⟩) [d] :=
  ⟨fun _ => ⟨w.heap.size, 0, rfl, by omega, fun i hi => by
    have : i = 0 := by simp at hi; omega
    subst this
    have hb : Below w.heap.size w (w.alloc (.cells #[.int .i64 d.f, .int .i64 d.p, .int .i64 d.z, .int .i64 d.an, .slice A d.aw.length ca, .int .i64 d.mn, .slice M d.mw.length cm, .bool d.s] t)) := (Below.refl _ _).alloc (Nat.le_refl _) _
    exact ⟨A, ca, M, cm, Sp8.new w d A ca M cm t, (hA.below hb).more (by omega), (hM.below hb).more (by omega)⟩⟩⟩
section
variable {w : World} {d : Sd} {A M : Option Addr} (ca cm : Nat)
theorem scheck1_any {g : Nat} (hg : w.heap.size = g) (hA : Row w w.heap.size A d.aw) (hM : Row w w.heap.size M d.mw) (y : Int) (hy : (Ok1 d ∧ y = 0) ∨ (¬ Ok1 d ∧ y = 2)) (t : TypeId) :
    Calls Tryd.prog 20 #[.slice (some ⟨g, 0, none⟩) 1 1] (w.alloc (.cells #[.int .i64 d.f, .int .i64 d.p, .int .i64 d.z, .int .i64 d.an, .slice A d.aw.length ca, .int .i64 d.mn, .slice M d.mw.length cm, .bool d.s] t)) fun e w' => e = .returned (.int .i64 y) ∧ Below (g + 1) (w.alloc (.cells #[.int .i64 d.f, .int .i64 d.p, .int .i64 d.z, .int .i64 d.an, .slice A d.aw.length ca, .int .i64 d.mn, .slice M d.mw.length cm, .bool d.s] t)) w' := by
  subst hg
  have h := scheck_any (w := w.alloc (.cells #[.int .i64 d.f, .int .i64 d.p, .int .i64 d.z, .int .i64 d.an, .slice A d.aw.length ca, .int .i64 d.mn, .slice M d.mw.length cm, .bool d.s] t)) 1 (by have := srow_one w d A ca M cm t hA hM; rwa [show w.heap.size + 1 = _ from (World.size_alloc w _).symm] at this) (by simp) y (by rwa [okl_one])
  rw [World.size_alloc] at h
  exact h
end
end Go.Proofs.YtbefjhgegoginaaDoor
