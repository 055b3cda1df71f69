/- The walk of the law PagesApart. -/
import Derived.Test.YthikpamjeckfcaaDoorQ2
import Derived.Test.YthikpamjeckfcaaDoorInts
namespace Go.Proofs.YthikpamjeckfcaaDoor
open Go.RowKit
set_option linter.unusedVariables false
set_option linter.unusedSimpArgs false

/-- whose pages are free is nobody's -/
def Nobody (n : Nat) (us : List Nat) (ys : List Int) : Prop := ∀ j, j < n → tb us j = false → ys.getD j 0 = 0

theorem and_one (x k : Nat) (hx : x < W64) : (bits .and .u64 ((x : Int) / 2 ^ k) 1 == 1) = x.testBit k := by
  have e : (x : Int) / 2 ^ k = ((x / 2 ^ k : Nat) : Int) := by simp
  have hlt : x / 2 ^ k < 2 ^ 64 := Nat.lt_of_le_of_lt (Nat.div_le_self _ _) (by unfold W64 at hx; omega)
  have h := u64_and_nat (x / 2 ^ k) 1 hlt (by decide)
  rw [e, show bits .and .u64 ((x / 2 ^ k : Nat) : Int) 1 = ((x / 2 ^ k &&& 1 : Nat) : Int) from h, Nat.and_one_is_mod, Nat.testBit_eq_decide_div_mod_eq]
  generalize x / 2 ^ k % 2 = y
  rw [Bool.eq_iff_iff]
  simp only [beq_iff_eq, decide_eq_true_eq]
  omega
theorem Two.off {w : World} {g : Nat} {u0 u1 : Value} (h : Two w g u0 u1) {p : Addr} (hp : p.block ≠ g) (v : Value) : Two (w.setCell p v) g u0 u1 :=
  ⟨(World.cell?_setCell_other _ _ _ _ (by rintro rfl; exact hp rfl)).trans h.c0, (World.cell?_setCell_other _ _ _ _ (by rintro rfl; exact hp rfl)).trans h.c1, fun i => by rw [World.frozen?_setCell]; exact h.fr i⟩
/-- pages of a call's own, of so many words -/
def FreshTL (w : World) (L : Nat) (n : Int) (ws : List Nat) (i why : Int) (e : Ending) (w' : World) : Prop :=
  ∃ A cap, e = .returned (.tuple #[.agg #[.int .i64 n, .slice A L cap], .int .i64 i, .int .i64 why]) ∧ Own w' w.heap.size A ws ∧ Below w.heap.size w w'
theorem FreshT.len {w : World} {n : Int} {ws : List Nat} {i why : Int} {e : Ending} {w' : World} (h : FreshT w n ws i why e w') {L : Nat} (hL : ws.length = L) : FreshTL w L n ws i why e w' := by
  subst hL
  exact h
/-- a run is taken, or not -/
theorem ptake_next (n : Nat) (x : Int) (us : List Nat) (L : Nat) (hL : us.length = L) (h : Right (n : Nat) us) (h63 : x ≤ 9223372036854775807) :
    (∃ why : Int, (why != 0) = true ∧ ∃ (N : Int) (vs : List Nat), ∀ (w : World) (A : Option Addr) (cap : Nat), Row w w.heap.size A us → Calls Tryd.prog 8 #[.agg #[.int .i64 (n : Nat), .slice A L cap], .int .i64 x] w fun e w' => FreshT w N vs 0 why e w') ∨
    (∃ (a c : Nat) (vs : List Nat), x = (c : Nat) ∧ 1 ≤ c ∧ a + c ≤ n ∧ vs.length = L ∧ Right (n : Nat) vs ∧ FitAt us a c ∧ (∀ j, tb vs j = if a ≤ j ∧ j < a + c then true else tb us j) ∧ countTo vs n = countTo us n + c ∧
      ∀ (w : World) (A : Option Addr) (cap : Nat), Row w w.heap.size A us → Calls Tryd.prog 8 #[.agg #[.int .i64 (n : Nat), .slice A L cap], .int .i64 x] w fun e w' => FreshTL w L (n : Nat) vs (a : Nat) 0 e w') := by
  subst hL
  rcases ptake_any (n : Nat) x us h63 with ⟨why, hy, _, _, N', us', T⟩ | ⟨i, _, h1, hf, _, T⟩
  · exact .inl ⟨why, by simpa using hy, N', us', T⟩
  · obtain ⟨f0, f1⟩ := hf.zero
    have hfit : FitAt us i.toNat x.toNat := by
      rcases hf with ⟨_, _, _, h3, _⟩ | ⟨h3, _⟩
      · exact h3
      · cases h3
    have hl := h.long
    refine .inr ⟨i.toNat, x.toNat, fillW us i.toNat x.toNat true, by omega, by omega, by omega, length_fillW _ _ _ _, right_fillW h _ _ _ (by omega), hfit, fun j => tb_fillW _ _ _ _ _ (by omega), countTo_fill _ _ _ _ (by omega) (by omega) hfit, fun w A cap hr => (T w A cap hr).mono fun e w' hh => ?_⟩
    rw [show ((i.toNat : Nat) : Int) = i by omega]
    exact hh.len (length_fillW _ _ _ _)

end Go.Proofs.YthikpamjeckfcaaDoor
