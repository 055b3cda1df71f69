/- Contracts of package pace: a collection ends. -/
import Derived.Test.YtkdbcoibapcmjaaN8
import Derived.Deep.RegionWith
namespace Go.Proofs.Ytkdbcoibapcmjaa
open Go.RowKit
set_option linter.unusedVariables false
set_option linter.unusedSimpArgs false
set_option maxRecDepth 100000

theorem Off.ten (b g : Nat) (w : World) (u0 u1 u2 u3 u4 u5 u6 u7 u8 u9 : Value) : Off b g w ((((((((((w.setCell ⟨b, 0, none⟩ u0).setCell ⟨b, 1, none⟩ u1).setCell ⟨b, 2, none⟩ u2).setCell ⟨b, 3, none⟩ u3).setCell ⟨b, 4, none⟩ u4).setCell ⟨b, 5, none⟩ u5).setCell ⟨b, 6, none⟩ u6).setCell ⟨b, 7, none⟩ u7).setCell ⟨b, 8, none⟩ u8).setCell ⟨b, 9, none⟩ u9) := ((((((((((Off.set ⟨b, 0, none⟩ (.inl rfl) u0).trans (Off.set ⟨b, 1, none⟩ (.inl rfl) u1)).trans (Off.set ⟨b, 2, none⟩ (.inl rfl) u2)).trans (Off.set ⟨b, 3, none⟩ (.inl rfl) u3)).trans (Off.set ⟨b, 4, none⟩ (.inl rfl) u4)).trans (Off.set ⟨b, 5, none⟩ (.inl rfl) u5)).trans (Off.set ⟨b, 6, none⟩ (.inl rfl) u6)).trans (Off.set ⟨b, 7, none⟩ (.inl rfl) u7)).trans (Off.set ⟨b, 8, none⟩ (.inl rfl) u8)).trans (Off.set ⟨b, 9, none⟩ (.inl rfl) u9))
theorem size_ten (b : Nat) (w : World) (u0 u1 u2 u3 u4 u5 u6 u7 u8 u9 : Value) : ((((((((((w.setCell ⟨b, 0, none⟩ u0).setCell ⟨b, 1, none⟩ u1).setCell ⟨b, 2, none⟩ u2).setCell ⟨b, 3, none⟩ u3).setCell ⟨b, 4, none⟩ u4).setCell ⟨b, 5, none⟩ u5).setCell ⟨b, 6, none⟩ u6).setCell ⟨b, 7, none⟩ u7).setCell ⟨b, 8, none⟩ u8).setCell ⟨b, 9, none⟩ u9).heap.size = w.heap.size := by simp only [World.size_setCell]
theorem Own.news {w : World} {l : List Nat} {t : TypeId} {g B : Nat} (hw : Words l) (hg : g = w.heap.size) (hB : B ≤ g) : Own (w.alloc (.cells (vals l).toArray t)) B (some ⟨g, 0, none⟩) l :=
  ⟨hw, fun hl => ⟨g, rfl, hB, by subst hg; simp, fun i hi => by
    subst hg
    have := vals_at l i hi
    constructor
    · simp [go_sem, this]
    · simp [go_sem]⟩⟩
theorem words_zeros (n : Nat) : Words (List.replicate n 0) := fun x hx => by
  rw [(List.mem_replicate.1 hx).2]; decide
theorem below_fresh (w : World) (o : Obj) : Below w.heap.size w (w.alloc o).drew := ((Below.refl _ _).alloc (Nat.le_refl _) o).drew
section
variable {w : World} {p : Pc} {A : Option Addr} {b : Nat} (c : Nat)
set_option maxHeartbeats 2000000 in
theorem pend_any (hk : OkP p) (hb : PBox w b p A c) (live : Nat) :
    Calls Try.prog 35 #[.pointer (some ⟨b, 0, none⟩), .int .u64 (live : Nat)] w fun e w' => e = .returned (.tuple #[]) ∧ ∃ A' c', PBox w' b (endP p live) A' c' ∧ Off b b w w' ∧ OwnD w' w.heap.size A' c' (endP p live).ds := by
  have h3 := hk.len2; have h4 := hk.len1
  have hmk := run_make_words p.ds.length (by omega)
  unfold PBox at *
  unfold endP
  clear hk
  obtain ⟨pct, least, lv, on, est, room, credit, done, made, ds⟩ := p
  simp only at *
  have hlt := hb.lt
  obtain ⟨n0, n1, n2, n3, n4, n5, n6, n7, n8, n9, nf⟩ := id hb
  go_enter Try.func35, Try.ntmps35
  go_wp2_with fail
  go_region_with fail
  all_goals
    go_end0
    refine ⟨rfl, some ⟨w.heap.size, 0, none⟩, ds.length, ?_, ?_, ?_⟩
    · rw [List.length_replicate]
      exact ((hb.all _ _ _ _ _ _ _ _ _ _).later (below_fresh _ _))
    · exact (Off.ten b b w _ _ _ _ _ _ _ _ _ _).trans (Off.of (below_fresh _ _))
    · have hO := Own.news (w := ((((((((((w.setCell ⟨b, 0, none⟩ (.int .i64 pct)).setCell ⟨b, 1, none⟩ (.int .u64 (least : Nat))).setCell ⟨b, 2, none⟩ (.int .u64 (live : Nat))).setCell ⟨b, 3, none⟩ (.bool false)).setCell ⟨b, 4, none⟩ (.int .u64 0)).setCell ⟨b, 5, none⟩ (.int .u64 0)).setCell ⟨b, 6, none⟩ (.int .u64 0)).setCell ⟨b, 7, none⟩ (.int .u64 0)).setCell ⟨b, 8, none⟩ (.int .u64 0)).setCell ⟨b, 9, none⟩ (.slice (some ⟨w.heap.size, 0, none⟩) ds.length ds.length))) (l := List.replicate ds.length 0) (t := 22) (g := w.heap.size) (B := w.heap.size) (words_zeros _) (size_ten _ _ _ _ _ _ _ _ _ _ _ _).symm (Nat.le_refl _)
      exact ⟨hO.later ((Below.refl _ _).drew), by simp, fun e => (by cases e)⟩
end
end Go.Proofs.Ytkdbcoibapcmjaa
