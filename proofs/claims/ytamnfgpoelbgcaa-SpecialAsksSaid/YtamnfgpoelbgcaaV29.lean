/- Plain facts: neighbours that are alike are one. -/
import Derived.Test.YtamnfgpoelbgcaaV28
namespace Go.Proofs.Ytamnfgpoelbgcaa
open Go.RowKit
set_option linter.unusedVariables false
set_option linter.unusedSimpArgs false

def cmpI (xs : List Int) : List Int := xs.foldl pushA []
theorem adsI_cmp (l : List Sc) (kd : Int) : adsI l kd = cmpI ((l.filter fun s => s.k == kd).map fun s => s.a) := rfl
theorem cmp_snoc (xs : List Int) (x : Int) : cmpI (xs ++ [x]) = pushA (cmpI xs) x := by
  unfold cmpI
  rw [List.foldl_append]
  rfl
theorem cmp_last (xs : List Int) (x : Int) : (cmpI (xs ++ [x])).getLast? = some x := by
  rw [cmp_snoc]
  unfold pushA
  split
  · assumption
  · simp
theorem take_snoc (xs : List Int) (i : Nat) (hi : i < xs.length) : xs.take (i + 1) = xs.take i ++ [xs.getD i 0] := by
  rw [List.take_add_one, List.getD_eq_getElem?_getD, List.getElem?_eq_getElem hi]
  rfl
theorem cmp_next (xs : List Int) (i : Nat) (hi : i + 1 < xs.length) : cmpI (xs.take (i + 2)) = if xs.getD i 0 = xs.getD (i + 1) 0 then cmpI (xs.take (i + 1)) else cmpI (xs.take (i + 1)) ++ [xs.getD (i + 1) 0] := by
  rw [take_snoc xs (i + 1) hi, cmp_snoc, take_snoc xs i (by omega)]
  have h := cmp_last (xs.take i) (xs.getD i 0)
  generalize cmpI (xs.take i ++ [xs.getD i 0]) = z at *
  unfold pushA
  rw [h]
  simp only [Option.some.injEq]
theorem push_len (ys : List Int) (x : Int) : (pushA ys x).length ≤ ys.length + 1 := by
  unfold pushA
  split
  · omega
  · simp
theorem cmp_len (xs : List Int) : ∀ i, i ≤ xs.length → (cmpI (xs.take i)).length ≤ i := by
  intro i
  induction i with
  | zero => intro _; simp [cmpI]
  | succ i ih =>
    intro hi
    rw [take_snoc xs i (by omega), cmp_snoc]
    have := push_len (cmpI (xs.take i)) (xs.getD i 0)
    have := ih (by omega)
    omega
/-- as long as no two neighbours are alike, all stay -/
theorem cmp_same (xs : List Int) : ∀ i, i ≤ xs.length → (∀ j, j + 1 < i → xs.getD j 0 ≠ xs.getD (j + 1) 0) → cmpI (xs.take i) = xs.take i := by
  intro i
  induction i with
  | zero => intro _ _; rfl
  | succ i ih =>
    intro hi hn
    have h := ih (by omega) (fun j hj => hn j (by omega))
    cases i with
    | zero => rw [take_snoc xs 0 (by omega), cmp_snoc, h]; rfl
    | succ i =>
      rw [cmp_next xs i (by omega), if_neg (hn i (by omega)), h]
      exact (take_snoc xs (i + 1) (by omega)).symm
end Go.Proofs.Ytamnfgpoelbgcaa
