/- The walk of the law SpecialOwn. -/
import Derived.Test.YtamnfgpoelbgcaaV20
namespace Go.Proofs.Ytamnfgpoelbgcaa
open Go.RowKit
set_option linter.unusedVariables false
set_option linter.unusedSimpArgs false

/-- the tags of n specials at A can be written, in a block from B on, ahead of E -/
def TagRow (w : World) (B E : Nat) (A : Option Addr) (n : Nat) : Prop := ∀ i, i < n → ∃ g t, A = some ⟨g, 0, none⟩ ∧ B ≤ g ∧ g < E ∧ w.cell? ⟨g, i * 3 + 2, none⟩ = some (.int .u64 t) ∧ ∀ j, w.frozen? ⟨g, j, none⟩ = false
theorem TagRow.of_owns {w : World} {B cap : Nat} {A : Option Addr} {l : List Sc} (h : OwnsC w B (.slice A l.length cap) l) : TagRow w B w.heap.size A l.length := by
  intro i hi
  obtain ⟨g, e, _, hB, hlt⟩ := some_of_owns h (by omega)
  subst e
  have q := (CRow.of_owns h).at_ (by omega)
  obtain ⟨b, off, e, _, hc⟩ := q
  injection e with e
  injection e with e1 e2
  subst e1 e2
  have c := (hc i hi).c2
  rw [Nat.zero_add] at c
  obtain ⟨_, ⟨h1, h2⟩ | ⟨g', cap', cur, e, _, hg, _⟩⟩ := h
  · omega
  · injection e with e
    injection e with e
    injection e with e
    subst e
    exact ⟨_, _, rfl, hB, hlt, c, fun j => by simp [World.frozen?, hg]⟩
theorem TagRow.later {w w' : World} {B E n : Nat} {A : Option Addr} (h : TagRow w B E A n) (hb : Below w.heap.size w w') : TagRow w' B E A n := fun i hi => by
  obtain ⟨g, t, e, hB, hE, c, f⟩ := h i hi
  have hlt : g < w.heap.size := World.block_lt_of_cell? w _ c
  exact ⟨g, t, e, hB, hE, ((bcell hb).1 _ _ hlt).trans c, fun j => ((bcell hb).2 _ _ hlt).trans (f j)⟩
theorem TagRow.wide {w : World} {B B' E E' n : Nat} {A : Option Addr} (h : TagRow w B E A n) (hB : B' ≤ B) (hE : E ≤ E') : TagRow w B' E' A n := fun i hi => by
  obtain ⟨g, t, e, h1, h2, c, f⟩ := h i hi
  exact ⟨g, t, e, by omega, by omega, c, f⟩
theorem TagRow.set {w : World} {B E n : Nat} {A : Option Addr} (h : TagRow w B E A n) (p : Addr) (u : Int) : TagRow (w.setCell p (.int .u64 u)) B E A n := fun i hi => by
  obtain ⟨g, t, e, h1, h2, c, f⟩ := h i hi
  by_cases hp : p = ⟨g, i * 3 + 2, none⟩
  · subst hp
    exact ⟨g, u, e, h1, h2, World.cell?_setCell_same _ _ _ c, fun j => by rw [World.frozen?_setCell]; exact f j⟩
  · exact ⟨g, t, e, h1, h2, (World.cell?_setCell_other _ _ _ _ hp).trans c, fun j => by rw [World.frozen?_setCell]; exact f j⟩
/-- four slices of specials stand in block G -/
def Rows4 (w : World) (B G : Nat) : Prop := ∀ k, k < 4 → ∃ A n cap, w.cell? ⟨G, k, none⟩ = some (.slice A n cap) ∧ n ≤ 5864062014806 ∧ TagRow w B G A n
theorem Rows4.set {w : World} {B G g o : Nat} (h : Rows4 w B G) (hg : g < G) (u : Int) : Rows4 (w.setCell ⟨g, o, none⟩ (.int .u64 u)) B G := fun k hk => by
  obtain ⟨A, n, cap, c, hn, ht⟩ := h k hk
  exact ⟨A, n, cap, (World.cell?_setCell_other _ _ _ _ (by intro e; injection e; omega)).trans c, hn, ht.set _ _⟩
theorem Rows4.new {w : World} {B : Nat} {A0 A1 A2 A3 : Option Addr} {n0 n1 n2 n3 c0 c1 c2 c3 : Nat} (t : TypeId) (h0 : TagRow w B w.heap.size A0 n0) (h1 : TagRow w B w.heap.size A1 n1) (h2 : TagRow w B w.heap.size A2 n2) (h3 : TagRow w B w.heap.size A3 n3) (l0 : n0 ≤ 5864062014806) (l1 : n1 ≤ 5864062014806) (l2 : n2 ≤ 5864062014806) (l3 : n3 ≤ 5864062014806) :
    Rows4 (w.alloc (.cells #[.slice A0 n0 c0, .slice A1 n1 c1, .slice A2 n2 c2, .slice A3 n3 c3] t)) B w.heap.size := fun k hk => by
  have hb : Below w.heap.size w (w.alloc (.cells #[.slice A0 n0 c0, .slice A1 n1 c1, .slice A2 n2 c2, .slice A3 n3 c3] t)) := (Below.refl _ _).alloc (Nat.le_refl _) _
  obtain rfl | rfl | rfl | rfl : k = 0 ∨ k = 1 ∨ k = 2 ∨ k = 3 := by omega
  · exact ⟨A0, n0, c0, by simp [go_sem], l0, h0.later hb⟩
  · exact ⟨A1, n1, c1, by simp [go_sem], l1, h1.later hb⟩
  · exact ⟨A2, n2, c2, by simp [go_sem], l2, h2.later hb⟩
  · exact ⟨A3, n3, c3, by simp [go_sem], l3, h3.later hb⟩
end Go.Proofs.Ytamnfgpoelbgcaa
