/- Contracts of package span: where an address leads. -/
import Derived.Test.YtbefjhgegoginaaDoorS8
import Derived.Shelf.Abstract
namespace Go.Proofs.YtbefjhgegoginaaDoor
open Go.RowKit
set_option linter.unusedVariables false
set_option linter.unusedSimpArgs false

/-- an address lies in a span's pages -/
def inP (a : Nat) (d : Sd) : Bool := decide (d.f * 16 ≤ (a : Int) ∧ (a : Int) < (d.f + d.p) * 16)
/-- it is that of a slot in which an object is -/
def isAt (a : Nat) (d : Sd) (k : Nat) : Bool := decide (d.f * 16 + (k : Int) * d.z = (a : Int)) && tb d.aw k
section
variable {w : World} {d : Sd} {A M : Option Addr} (ca cm : Nat)
set_option maxHeartbeats 1000000 in
theorem sfind1_any (a B : Nat) (h : Ok1 d) (hB : w.cell? ⟨B, 0, none⟩ = some (.int .u64 (a : Nat))) :
    Calls Tryd.prog 23 #[spv d A ca M cm, .pointer (some ⟨B, 0, none⟩)] w fun e w' => e = .returned (.bool (inP a d)) ∧ Below w.heap.size w w' := by
  have hp := h.placed
  unfold Placed at hp
  have hs := h.sized.slots
  have hlt := World.block_lt_of_cell? w _ hB
  have G := Lib.hid fun (w : World) => sbehind_any (w := w) d A ca M cm (by omega) (by omega)
  obtain ⟨p0, p1⟩ := hp
  clear h
  unfold inP
  obtain ⟨f, p, z, an, aw, mn, mw, s⟩ := d
  simp only at *
  unfold spv at G ⊢
  simp only at G ⊢
  have k0 : (w.alloc (.cells #[.int .i64 f, .int .i64 p, .int .i64 z, .int .i64 an, .slice A aw.length ca, .int .i64 mn, .slice M mw.length cm, .bool s] 35)).cell? ⟨B, 0, none⟩ = some (.int .u64 (a : Nat)) := (World.cell?_alloc_lt _ _ ⟨_, _, _⟩ hlt).trans hB
  by_cases h1 : f * 16 ≤ (a : Int)
  · have d1 : decide (f * 16 ≤ (a : Int)) = true := decide_eq_true h1
    have e1 : decide (f * 16 ≤ (a : Int) ∧ (a : Int) < (f + p) * 16) = decide ((a : Int) < (f + p) * 16) := by simp [h1]
    rw [e1]
    clear e1
    go_enter Tryd.func23, Tryd.ntmps23
    go_wp2_with fail
    go_region_held3 (fun X : World => X.cell? ⟨w.heap.size, 0, none⟩ = some (.int .i64 f) ∧ X.cell? ⟨w.heap.size, 1, none⟩ = some (.int .i64 p) ∧ X.cell? ⟨w.heap.size, 2, none⟩ = some (.int .i64 z) ∧ X.cell? ⟨w.heap.size, 3, none⟩ = some (.int .i64 an) ∧ X.cell? ⟨w.heap.size, 4, none⟩ = some (.slice A aw.length ca) ∧ X.cell? ⟨w.heap.size, 5, none⟩ = some (.int .i64 mn) ∧ X.cell? ⟨w.heap.size, 6, none⟩ = some (.slice M mw.length cm) ∧ X.cell? ⟨w.heap.size, 7, none⟩ = some (.bool s) ∧ X.cell? ⟨B, 0, none⟩ = some (.int .u64 (a : Nat)))
      ((refine ⟨?_, ?_, ?_, ?_, ?_, ?_, ?_, ?_, ?_⟩ <;> first | assumption | (simp [go_sem]; done)))
      ((first
        | (go_at_call 24; refine (spage_any f (by omega) (by omega)).mono ?_; rintro e w1 ⟨rfl, rfl⟩)
        | (go_at_call 24; refine (spage_any (f + p) (by omega) (by omega)).mono ?_; rintro e w1 ⟨rfl, rfl⟩)
        | (go_at_call 25; refine (G.out _).mono ?_; rintro e w2 ⟨rfl, hb_w2⟩; obtain ⟨hc_w2, hf_w2⟩ := bcell hb_w2; have hz_w2_w_0 : w.heap.size < w2.heap.size := (by have hzz := hb_w2.size; (try simp only [World.size_alloc, World.size_setCell, World.size_drew, World.heap_drewN] at hzz); omega); have hs_w2 := hb_w2.size; (try simp only [World.size_alloc, World.size_setCell, World.size_drew, World.heap_drewN] at hs_w2); have k2 : w2.cell? ⟨B, 0, none⟩ = some (.int .u64 (a : Nat)) := (hb_w2.cell (p := ⟨B, 0, none⟩) (by first | omega | (simp; omega) | simp)).trans (by first | exact k0 | assumption); have m0 : w2.cell? ⟨w.heap.size, 0, none⟩ = some (.int .i64 f) := (hb_w2.cell (p := ⟨w.heap.size, 0, none⟩) (by first | omega | (simp; omega) | simp)).trans (by first | assumption | (simp [go_sem]; done)); have m1 : w2.cell? ⟨w.heap.size, 1, none⟩ = some (.int .i64 p) := (hb_w2.cell (p := ⟨w.heap.size, 1, none⟩) (by first | omega | (simp; omega) | simp)).trans (by first | assumption | (simp [go_sem]; done)); have m2 : w2.cell? ⟨w.heap.size, 2, none⟩ = some (.int .i64 z) := (hb_w2.cell (p := ⟨w.heap.size, 2, none⟩) (by first | omega | (simp; omega) | simp)).trans (by first | assumption | (simp [go_sem]; done)); have m3 : w2.cell? ⟨w.heap.size, 3, none⟩ = some (.int .i64 an) := (hb_w2.cell (p := ⟨w.heap.size, 3, none⟩) (by first | omega | (simp; omega) | simp)).trans (by first | assumption | (simp [go_sem]; done)); have m4 : w2.cell? ⟨w.heap.size, 4, none⟩ = some (.slice A aw.length ca) := (hb_w2.cell (p := ⟨w.heap.size, 4, none⟩) (by first | omega | (simp; omega) | simp)).trans (by first | assumption | (simp [go_sem]; done)); have m5 : w2.cell? ⟨w.heap.size, 5, none⟩ = some (.int .i64 mn) := (hb_w2.cell (p := ⟨w.heap.size, 5, none⟩) (by first | omega | (simp; omega) | simp)).trans (by first | assumption | (simp [go_sem]; done)); have m6 : w2.cell? ⟨w.heap.size, 6, none⟩ = some (.slice M mw.length cm) := (hb_w2.cell (p := ⟨w.heap.size, 6, none⟩) (by first | omega | (simp; omega) | simp)).trans (by first | assumption | (simp [go_sem]; done)); have m7 : w2.cell? ⟨w.heap.size, 7, none⟩ = some (.bool s) := (hb_w2.cell (p := ⟨w.heap.size, 7, none⟩) (by first | omega | (simp; omega) | simp)).trans (by first | assumption | (simp [go_sem]; done)))))
    all_goals
      go_wp2
      go_ret
      exact ⟨rfl, (by repeat (first | exact Below.refl _ _ | assumption | (refine below_drewN ?_ _) | (refine Below.drew ?_) | (refine Below.alloc ?_ (by first | omega | (simp; omega) | simp) _) | (refine Below.setCell ?_ (by first | omega | (simp; omega) | simp) _) | (refine below_trans ?_ (by assumption) (by first | omega | (simp; omega) | simp))))⟩
  · have d1 : decide (f * 16 ≤ (a : Int)) = false := decide_eq_false h1
    rw [show decide (f * 16 ≤ (a : Int) ∧ (a : Int) < (f + p) * 16) = false from decide_eq_false fun h => h1 h.1]
    go_enter Tryd.func23, Tryd.ntmps23
    go_wp2_with fail
    go_region_with (go_at_call 24; refine (spage_any f (by omega) (by omega)).mono ?_; rintro e w1 ⟨rfl, rfl⟩)
    all_goals
      go_wp2
      go_ret
      exact ⟨rfl, (by repeat (first | exact Below.refl _ _ | assumption | (refine below_drewN ?_ _) | (refine Below.drew ?_) | (refine Below.alloc ?_ (by first | omega | (simp; omega) | simp) _) | (refine Below.setCell ?_ (by first | omega | (simp; omega) | simp) _) | (refine below_trans ?_ (by assumption) (by first | omega | (simp; omega) | simp))))⟩
end
end Go.Proofs.YtbefjhgegoginaaDoor
