/- Contracts: the library's at script: whether an event is among some; a builder is written to. -/
import Derived.Test.YtklbamkafldagaaDoorSeL
import Derived.Test.YtklbamkafldagaaDoorSe4
import Derived.Laws.StructEq
namespace Go.Proofs.YtklbamkafldagaaDoor
open Go.RowKit Go.Lib
set_option linter.unusedVariables false
set_option linter.unusedSimpArgs false

theorem eqTask (d : Nat) (w : World) (a b a' b' : Int) : (Op.equalIn (d + 2) 39 (.agg #[.int .u8 a, .int .i64 b]) (.agg #[.int .u8 a', .int .i64 b'])).run Tryd.prog w = .ok (decide (a = a' ∧ b = b')) w := by
  have hS2 : Tryd.prog.underlying 39 = some (.struct (Tryd.prog.fieldsOf 39)) := by kernel_rfl
  have hp2 : Tryd.prog.stoodInHeld 39 = false := by kernel_rfl
  have uk := Tryd.underlying37
  have ui := Tryd.underlying3
  have ak := Tryd.isAgg37
  have ai := Tryd.isAgg3
  have zk := Tryd.sizeOf37
  have zi := Tryd.sizeOf3
  rw [run_equalIn_agg w (d + 1) 39 _ _ hS2 hp2]
  simp only [Program.fieldsOf, Tryd.underlying39]
  go_simp
  by_cases h1 : a = a' <;> by_cases h2 : b = b' <;> simp [h1, h2]
theorem eqlE : EqlAt Tryd.prog 41 (fun x : Ev => .agg (evc x).toArray) (fun x y => decide (x = y)) := by
  refine ⟨fun x y w => ?_, GuardAt.agg _ (by kernel_rfl)⟩
  have hS : Tryd.prog.underlying 41 = some (.struct (Tryd.prog.fieldsOf 41)) := by kernel_rfl
  have hp : Tryd.prog.stoodInHeld 41 = false := by kernel_rfl
  have ub := Tryd.underlying4
  have ui := Tryd.underlying3
  have ab := Tryd.isAgg4
  have ai := Tryd.isAgg3
  have at9 := Tryd.isAgg39
  have zb := Tryd.sizeOf4
  have zi := Tryd.sizeOf3
  have zt := Tryd.sizeOf39
  obtain ⟨a, b, c, d, e⟩ := x
  obtain ⟨a', b', c', d', e'⟩ := y
  simp only [evc]
  rw [run_eql_struct]
  obtain ⟨D, hD⟩ : ∃ D : Nat, (10000 : Nat) = D + 3 := ⟨9997, rfl⟩
  rw [hD]
  clear hD
  have hT := eqTask D
  rw [run_equalIn_agg w (D + 2) 41 _ _ hS hp]
  simp only [Program.fieldsOf, Tryd.underlying41]
  go_simp
  by_cases h1 : a = a' <;> by_cases h2 : b = b' <;> by_cases h3 : c = c' <;> by_cases h4 : d = d' <;> by_cases h5 : e = e' <;> simp [h1, h2, h3, h4, h5]
section
variable {w : World}
theorem contains_any {A : Option Addr} {l : List Ev} (cap : Nat) (hr : ERow w w.heap.size A l) (h0 : 0 < l.length) (hl : l.length ≤ 17592186044416) (x : Ev) :
    Calls Tryd.prog 34 #[.slice A l.length cap, evv x] w fun e w' => e = .returned (.bool (l.contains x)) ∧ Below w.heap.size w w' := by
  obtain ⟨b, off, rfl, hb, hc⟩ := hr.at_ h0
  have key := @AnyQ.slices_Contains Tryd.prog L_containsE_ren Ev _ L_containsE 5 Tryd.isAgg41 Tryd.sizeOf41 evc (fun _ => rfl) _ eqlE b off l.length cap l x w (Nat.le_refl _) (by omega) (fun j hj i v hv => by
    have h5 := hc j hj
    rw [nthE_get l j hj] at h5
    rw [getElem!_pos l j hj] at hv
    obtain ⟨h0, h1, h2, h3, h4⟩ := h5
    match i, hv with
    | 0, hv => simp [evc] at hv; subst hv; exact h0
    | 1, hv => simp [evc] at hv; subst hv; exact h1
    | 2, hv => simp [evc] at hv; subst hv; exact h2
    | 3, hv => simp [evc] at hv; subst hv; exact h3
    | 4, hv => simp [evc] at hv; subst hv; exact h4
    | i + 5, hv => simp [evc] at hv)
  refine Calls.mono key ?_
  rintro e w' ⟨rfl, hb'⟩
  refine ⟨?_, hb'⟩
  have e : ((l.take l.length).any fun y => decide (x = y)) = l.contains x := by
    rw [List.take_length, Bool.eq_iff_iff, List.any_eq_true, List.contains_iff_mem]
    constructor
    · rintro ⟨y, hy, e⟩
      rw [decide_eq_true_eq] at e
      subst e
      exact hy
    · intro h
      exact ⟨x, h, by simp⟩
  rw [e]
end
end Go.Proofs.YtklbamkafldagaaDoor
