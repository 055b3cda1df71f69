/- Plain facts of shapes and of their words; contracts of package head's leaves and of the document's own. -/
import Derived.Test.YtndaccekemjdmaaGreatDoorIRow
namespace Go.Proofs.YtndaccekemjdmaaGreatDoor
open Go.RowKit
set_option linter.unusedVariables false
set_option linter.unusedSimpArgs false

/-- when a shape is right -/
def Sh (n : Int) (m : Nat) : Prop := 0 ≤ n ∧ n ≤ 48 ∧ m / 2 ^ n.toNat = 0
instance (n : Int) (m : Nat) : Decidable (Sh n m) := inferInstanceAs (Decidable (_ ∧ _))
/-- its word -/
def pk (n : Int) (m : Nat) : Nat := 165 * 72057594037927936 + m * 256 + n.toNat
theorem Sh.lt {n : Int} {m : Nat} (h : Sh n m) : m < 281474976710656 := by
  obtain ⟨h0, h1, h2⟩ := h
  have hp : m < 2 ^ n.toNat := by
    have := Nat.div_eq_zero_iff.1 h2
    rcases this with h | h
    · exact absurd h (Nat.pos_iff_ne_zero.1 (Nat.two_pow_pos _))
    · exact h
  exact Nat.lt_of_lt_of_le hp (show 2 ^ n.toNat ≤ 2 ^ 48 from Nat.pow_le_pow_right (by omega) (by omega))
theorem Sh.bit {n : Int} {m : Nat} (h : Sh n m) (i : Nat) (hi : n.toNat ≤ i) : m.testBit i = false := by
  obtain ⟨h0, h1, h2⟩ := h
  have e : i = n.toNat + (i - n.toNat) := by omega
  rw [e, ← Nat.testBit_shiftRight, Nat.shiftRight_eq_div_pow, h2, Nat.zero_testBit]
theorem sh_of_bits {n : Int} {m : Nat} (hm : m < W64) (h0 : 0 ≤ n) (h1 : n ≤ 48) (h : ∀ i, n.toNat ≤ i → i < 64 → m.testBit i = false) : Sh n m := by
  refine ⟨h0, h1, ?_⟩
  rw [← Nat.shiftRight_eq_div_pow]
  apply Nat.eq_of_testBit_eq
  intro j
  rw [Nat.testBit_shiftRight, Nat.zero_testBit]
  by_cases hj : n.toNat + j < 64
  · exact h _ (by omega) hj
  · exact Nat.testBit_lt_two_pow (Nat.lt_of_lt_of_le hm (by rw [W64_eq]; exact Nat.pow_le_pow_right (by omega) (by omega)))
theorem Sh.more {n : Int} {m : Nat} (h : Sh n m) (h1 : n + 1 ≤ 48) : Sh (n + 1) m :=
  sh_of_bits (Nat.lt_of_lt_of_le h.lt (by decide)) (by have := h.1; omega) h1 fun i hi _ => h.bit i (by omega)
theorem or_apart (a b k : Nat) (h : b < 2 ^ k) : (a * 2 ^ k) ||| b = a * 2 ^ k + b := by
  rw [Nat.mul_comm, ← Nat.two_pow_add_eq_or_of_lt h]
theorem pk_or (n : Int) (m : Nat) (h : Sh n m) : (11889503016258109440 ||| m * 256) ||| n.toNat = pk n m := by
  have hm := h.lt
  have h1 := h.2.1
  have e1 : 11889503016258109440 ||| m * 256 = 11889503016258109440 + m * 256 := or_apart 165 (m * 256) 56 (by omega)
  have e2 : 11889503016258109440 + m * 256 = (165 * 281474976710656 + m) * 2 ^ 8 := by omega
  have h8 : n.toNat < 2 ^ 8 := by omega
  rw [e1, e2, or_apart _ _ 8 h8]
  unfold pk
  omega
theorem pk_lt (n : Int) (m : Nat) (h : Sh n m) : pk n m < W64 := by
  have hm := h.lt
  have h1 := h.2.1
  unfold pk W64
  omega
theorem pk_inj {n n' : Int} {m m' : Nat} (h : Sh n m) (h' : Sh n' m') (he : pk n m = pk n' m') : n = n' ∧ m = m' := by
  have a := h.1; have b := h.2.1; have a' := h'.1; have b' := h'.2.1
  unfold pk at he
  omega
theorem pk_form {n : Int} {m : Nat} (h : Sh n m) : Go.bits .or .u64 (Go.bits .or .u64 11889503016258109440 ((m : Int) * 256)) n = ((pk n m : Nat) : Int) := by
  have hm := h.lt
  have h0 := h.1
  have h1 := h.2.1
  obtain ⟨k, rfl⟩ : ∃ k : Nat, n = k := ⟨n.toNat, by omega⟩
  have e1 : (11889503016258109440 : Int) = ((11889503016258109440 : Nat) : Int) := rfl
  have e2 : (m : Int) * 256 = ((m * 256 : Nat) : Int) := by omega
  have e := pk_or _ m h
  rw [Int.toNat_natCast] at e
  rw [e1, e2, u64_or_nat _ _ (by decide) (by omega), u64_or_nat _ _ (Nat.or_lt_two_pow (n := 64) (by decide) (by omega)) (by omega), e]
theorem holds_form (m k : Nat) (hm : m < W64) : (Go.bits .and .u64 ((m : Int) / 2 ^ k) 1 != 0) = m.testBit k := by
  have e : (m : Int) / 2 ^ k = ((m / 2 ^ k : Nat) : Int) := by simp
  have e1 : (1 : Int) = ((1 : Nat) : Int) := rfl
  have hl : m / 2 ^ k < 18446744073709551616 := Nat.lt_of_le_of_lt (Nat.div_le_self _ _) hm
  rw [e, e1, u64_and_nat _ _ hl (by decide), Nat.and_one_is_mod, Nat.testBit_eq_decide_div_mod_eq]
  generalize m / 2 ^ k = y
  rw [Bool.eq_iff_iff]
  simp only [bne_iff_ne, decide_eq_true_eq]
  omega
/-- what a word is taken as -/
def uN (w : Nat) : Int := ((w % 256 : Nat) : Int)
def uM (w : Nat) : Nat := w / 256 % 281474976710656
def Un (w : Nat) : Prop := w / 72057594037927936 = 165 ∧ Sh (uN w) (uM w)
instance (w : Nat) : Decidable (Un w) := inferInstanceAs (Decidable (_ ∧ _))
theorem un_pk {n : Int} {m : Nat} (h : Sh n m) : uN (pk n m) = n ∧ uM (pk n m) = m ∧ Un (pk n m) := by
  have hm := h.lt
  have a := h.1; have b := h.2.1
  have e1 : uN (pk n m) = n := by unfold uN pk; omega
  have e2 : uM (pk n m) = m := by unfold uM pk; omega
  refine ⟨e1, e2, ?_, ?_⟩
  · unfold pk; omega
  · rw [e1, e2]; exact h
theorem pk_un {w : Nat} (hw : w < W64) (h : Un w) : pk (uN w) (uM w) = w := by
  obtain ⟨h1, _⟩ := h
  unfold W64 at hw
  unfold pk uN uM
  omega
theorem un_iff {w : Nat} (hw : w < W64) : Un w ↔ (Sh (uN w) (uM w) ∧ pk (uN w) (uM w) = w) := by
  constructor
  · intro h; exact ⟨h.2, pk_un hw h⟩
  · rintro ⟨h, he⟩
    have := (un_pk h).2.2
    rwa [he] at this
/-- a shape that lies in block g -/
structure Sp (w : World) (g : Nat) (n : Int) (m : Nat) : Prop where
  c0 : w.cell? ⟨g, 0, none⟩ = some (.int .i64 n)
  c1 : w.cell? ⟨g, 1, none⟩ = some (.int .u64 (m : Nat))
theorem Sp.lt {w : World} {g : Nat} {n : Int} {m : Nat} (h : Sp w g n m) : g < w.heap.size := World.block_lt_of_cell? w _ h.c0
theorem Sp.below {w w' : World} {B g : Nat} {n : Int} {m : Nat} (h : Sp w g n m) (hb : Below B w w') (hg : g < B) : Sp w' g n m :=
  ⟨((bcell hb).1 _ _ hg).trans h.c0, ((bcell hb).1 _ _ hg).trans h.c1⟩
theorem Sp.later {w w' : World} {g : Nat} {n : Int} {m : Nat} (h : Sp w g n m) (hb : Below w.heap.size w w') : Sp w' g n m := h.below hb h.lt
theorem Sp.new (w : World) (n : Int) (m : Nat) (t : TypeId) : Sp (w.alloc (.cells #[.int .i64 n, .int .u64 (m : Nat)] t)) w.heap.size n m := by
  constructor <;> simp [go_sem]
/-- which fields of some are there; how many of the first k hold a reference -/
def AllF (n : Int) (xs : List Int) (k : Nat) : Prop := ∀ j, j < k → 0 ≤ xs.getD j 0 ∧ xs.getD j 0 < n
def cnt (m : Nat) (xs : List Int) : Nat → Nat
  | 0 => 0
  | k + 1 => cnt m xs k + if m.testBit (xs.getD k 0).toNat then 1 else 0
theorem cnt_le (m : Nat) (xs : List Int) (k : Nat) : cnt m xs k ≤ k := by
  induction k with
  | zero => exact Nat.le_refl _
  | succ k ih => rw [cnt]; split <;> omega
/-- the first field from 'a' on that holds a reference -/
def nx (m : Nat) (a : Nat) : Nat → Option Nat
  | 0 => none
  | k + 1 => if m.testBit a then some a else nx m (a + 1) k
end Go.Proofs.YtndaccekemjdmaaGreatDoor
