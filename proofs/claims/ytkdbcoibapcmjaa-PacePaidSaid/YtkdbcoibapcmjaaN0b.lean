/- Pacers: plain facts of what is paid. -/
import Derived.Test.YtkdbcoibapcmjaaN0
namespace Go.Proofs.Ytkdbcoibapcmjaa
open Go.RowKit
set_option linter.unusedVariables false
set_option linter.unusedSimpArgs false

/-- what holds of a pacer of which nobody owes anything: S steps were paid for -/
structure Paid (p : Pc) (S : Nat) : Prop where
  ok : OkP p
  on : p.on = true
  ds : p.ds = [0, 0, 0]
  done : 1099511627776 ≤ p.done ∨ p.credit + S ≤ p.done
  made : p.made * p.est ≤ S * p.room
theorem Paid.at_ {p : Pc} {S : Nat} (h : Paid p S) (k : Nat) : p.ds.getD k 0 = 0 := by
  rw [h.ds]
  match k with
  | 0 => rfl
  | 1 => rfl
  | 2 => rfl
  | k + 3 => rfl
theorem Paid.enough {p : Pc} {S : Nat} (h : Paid p S) (hm : p.room ≤ p.made) (hd : p.done < p.est) : 1099511627776 ≤ p.done := by
  rcases h.done with h1 | h1
  · exact h1
  · exfalso
    have hr := (h.ok.on1 h.on).2
    have h2 : p.room * p.est ≤ S * p.room := Nat.le_trans (Nat.mul_le_mul_right _ hm) h.made
    have h3 : p.est ≤ S := by
      rw [Nat.mul_comm S] at h2
      exact Nat.le_of_mul_le_mul_left h2 (by omega)
    omega
theorem owes_ge {p : Pc} (h : 1 ≤ p.room) (words : Nat) : words * p.est ≤ owesP p words * p.room := by
  rw [owes_ref h]
  generalize words * p.est = x
  generalize p.room = r at h
  have e := Nat.div_add_mod x r
  have hm := Nat.mod_lt x (show 0 < r by omega)
  rw [Nat.add_mul, Nat.mul_comm (x / r) r]
  generalize r * (x / r) = d at *
  generalize x % r = m at *
  split
  · omega
  · omega
/-- one round: steps of nobody, words of the k-th, and its steps -/
theorem Paid.next {p : Pc} {S : Nat} (h : Paid p S) (n k words : Nat) (hk : k < 3) (o : Nat) (ho : o = debtP (wrkN p n) k words - min (debtP (wrkN p n) k words) (wrkN p n).credit) :
    o ≤ 1099511627776 ∧ (wrkK (allP (wrkN p n) k words) k o).ds.getD k 0 = 0 ∧ ∃ S', Paid (wrkK (allP (wrkN p n) k words) k o) S' := by
  have hr := h.ok.on1 h.on
  have o1 : OkP (wrkN p n) ∧ (wrkN p n).on = true ∧ (wrkN p n).ds.length = p.ds.length := by
    have := wrk1_ok h.ok h.on (-1) n
    simpa [wrk1] using this
  have o2 := allP_ok o1.1 o1.2.1 k words
  have o3 : OkP (wrkK (allP (wrkN p n) k words) k o) := by
    have := (wrk1_ok o2 o1.2.1 (k : Int) o).1
    unfold wrk1 at this
    rw [if_neg (by omega)] at this
    simpa using this
  have hdl : debtP (wrkN p n) k words = cp (owesP p words) := by
    unfold debtP
    rw [show (wrkN p n).ds = p.ds from rfl, h.at_ k, Nat.zero_add]
    rfl
  have hc : (wrkN p n).credit = cp (p.credit + n) := rfl
  have hd : (wrkN p n).done = cp (p.done + n) := rfl
  have hlen : p.ds.length = 3 := by rw [h.ds]; rfl
  have h0 : p.ds = [0, 0, 0] := h.ds
  have hge := owes_ge hr.2 words
  have ho2 : o ≤ 1099511627776 := by
    rw [ho, hdl]
    have := cp_le (owesP p words)
    omega
  have hat : (allP (wrkN p n) k words).ds.getD k 0 = o := by
    show (p.ds.set k _).getD k 0 = o
    rw [getD_setN _ _ _ _ (by omega), if_pos rfl, ho]
  have hds : (wrkK (allP (wrkN p n) k words) k o).ds = [0, 0, 0] := by
    show ((p.ds.set k _).set k ((allP (wrkN p n) k words).ds.getD k 0 - min o ((allP (wrkN p n) k words).ds.getD k 0))) = _
    rw [hat, Nat.min_self, Nat.sub_self, List.set_set, h0]
    match k, hk with
    | 0, _ => rfl
    | 1, _ => rfl
    | 2, _ => rfl
  refine ⟨ho2, ?_, S + owesP p words, o3, o1.2.1, hds, ?_, ?_⟩
  · rw [hds]
    match k, hk with
    | 0, _ => rfl
    | 1, _ => rfl
    | 2, _ => rfl
  · show 1099511627776 ≤ cp (cp (p.done + n) + o) ∨ cp ((cp (p.credit + n) - min (debtP (wrkN p n) k words) (cp (p.credit + n))) + (o - min o ((allP (wrkN p n) k words).ds.getD k 0))) + (S + owesP p words) ≤ cp (cp (p.done + n) + o)
    rw [hat, Nat.min_self, Nat.sub_self, Nat.add_zero]
    rw [hdl, hc] at ho
    rw [hdl]
    have hdone := h.done
    have hcr := h.ok.credit
    generalize owesP p words = x at *
    unfold cp at *
    omega
  · show cp (p.made + words) * p.est ≤ (S + owesP p words) * p.room
    have h1 : cp (p.made + words) ≤ p.made + words := Nat.min_le_left _ _
    have h2 := Nat.mul_le_mul_right p.est h1
    rw [Nat.add_mul] at h2
    rw [Nat.add_mul]
    have := h.made
    omega
/-- begun, nobody owes anything -/
theorem Paid.begun {pct : Int} {live heap : Nat} (h : OkP (newP pct 1 3)) (hl : live ≤ 1099511627776) (q : Pc) (hq : q = begP { newP pct 1 3 with live := live } heap) : Paid q 0 := by
  have h1 : OkP { newP pct 1 3 with live := live } := ⟨h.pct1, h.pct2, h.least1, h.least2, hl, h.len1, h.len2, h.est, h.room, h.credit, h.done, h.made, h.ds, fun e => by simp [newP] at e, fun _ => ⟨rfl, rfl, rfl, rfl, rfl, fun d hd => by simp [newP] at hd; exact hd⟩⟩
  subst hq
  exact ⟨begP_ok h1 rfl heap, rfl, rfl, .inr (by simp [begP, newP]), by simp [begP, newP]⟩
end Go.Proofs.Ytkdbcoibapcmjaa
