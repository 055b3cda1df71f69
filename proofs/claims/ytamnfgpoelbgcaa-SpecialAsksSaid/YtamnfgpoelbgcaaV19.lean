/- Plain facts of specials of an address: how many there are, and what is left. -/
import Derived.Test.YtamnfgpoelbgcaaV16
namespace Go.Proofs.Ytamnfgpoelbgcaa
open Go.RowKit
set_option linter.unusedVariables false
set_option linter.unusedSimpArgs false

theorem OkC.filter {l : List Sc} (h : OkC l) (p : Sc → Bool) : OkC (l.filter p) :=
  ⟨Nat.le_trans (List.length_filter_le _ _) h.1, fun s hs => h.2.ok s (List.mem_filter.1 hs).1, h.2.pw.sublist List.filter_sublist⟩
theorem okc_kind {s : Sc} (h : okc s = true) : s.k = 1 ∨ s.k = 2 := by
  unfold okc at h
  simp only [Bool.and_eq_true, Bool.or_eq_true, beq_iff_eq] at h
  exact h.2
theorem parts_count (x : Int) (l : List Sc) (h : ∀ s ∈ l, okc s = true) :
    (l.filter (takeP x 1)).length + ((l.filter (leftP x 1)).filter (takeP x 2)).length = (l.filter (ofP x)).length ∧
    ((l.filter (leftP x 1)).filter (leftP x 2)).length + (l.filter (ofP x)).length = l.length ∧
    ((l.filter (leftP x 1)).filter (leftP x 2)).filter (ofP x) = [] := by
  induction l with
  | nil => exact ⟨rfl, rfl, rfl⟩
  | cons s l ih =>
    obtain ⟨i1, i2, i3⟩ := ih (fun t ht => h t (List.mem_cons_of_mem _ ht))
    have hk := okc_kind (h s (List.mem_cons_self ..))
    by_cases ha : s.a = x
    · rcases hk with hk | hk
      · have e1 : takeP x 1 s = true := by unfold takeP; simp [ha, hk]
        have e2 : leftP x 1 s = false := by unfold leftP; simp [ha, hk]
        have e3 : ofP x s = true := by unfold ofP; simp [ha]
        simp only [List.filter_cons, e1, e2, e3, if_true, Bool.false_eq_true, if_false, List.length_cons]
        exact ⟨by omega, by omega, i3⟩
      · have e1 : takeP x 1 s = false := by unfold takeP; simp [ha, hk]
        have e2 : leftP x 1 s = true := by unfold leftP; simp [ha, hk]
        have e3 : ofP x s = true := by unfold ofP; simp [ha]
        have e4 : takeP x 2 s = true := by unfold takeP; simp [ha, hk]
        have e5 : leftP x 2 s = false := by unfold leftP; simp [ha, hk]
        simp only [List.filter_cons, e1, e2, e3, e4, e5, if_true, Bool.false_eq_true, if_false, List.length_cons]
        exact ⟨by omega, by omega, i3⟩
    · have e0 : (s.a == x) = false := by simpa using ha
      have e1 : takeP x 1 s = false := by unfold takeP; simp [e0]
      have e2 : leftP x 1 s = true := by unfold leftP; simp [e0]
      have e3 : ofP x s = false := by unfold ofP; exact e0
      have e4 : takeP x 2 s = false := by unfold takeP; simp [e0]
      have e5 : leftP x 2 s = true := by unfold leftP; simp [e0]
      simp only [List.filter_cons, e1, e2, e3, e4, e5, if_true, Bool.false_eq_true, if_false, List.length_cons]
      exact ⟨i1, by omega, i3⟩
theorem finals_one {l : List Sc} (h : Good l) (x : Int) : (l.filter (takeP x 1)).length ≤ 1 := by
  have hp := h.pw.sublist (List.filter_sublist (p := takeP x 1))
  have hm : ∀ s ∈ l.filter (takeP x 1), s.k = 1 ∧ s.a = x := fun s hs => by
    have := (List.mem_filter.1 hs).2
    unfold takeP at this
    simp only [Bool.and_eq_true, beq_iff_eq] at this
    exact ⟨this.2, this.1⟩
  generalize l.filter (takeP x 1) = m at hp hm
  match m, hp, hm with
  | [], _, _ => simp
  | [_], _, _ => simp
  | s :: t :: r, hp, hm =>
    rw [List.pairwise_cons] at hp
    have h1 := hp.1 t (by simp)
    obtain ⟨a1, a2⟩ := hm s (by simp)
    obtain ⟨b1, b2⟩ := hm t (by simp)
    exact absurd ⟨a1, b1, by rw [a2, b2]⟩ h1.2
end Go.Proofs.Ytamnfgpoelbgcaa
