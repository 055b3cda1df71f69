/- MA, in one text: Base, Leaf, Check, Ref, View, Own, Make, Get, Copy, Fill, RFill, Spec, Loops, Run, Both, RBoth, Puts, Agree, IRow. -/
import Derived.Laws.BitsAllLaws
import Derived.Below
import Derived.WalkArith
import Derived.Test.YtggaijdbaplfiaaGreatDoorProg
import Derived.WalkKit
import Derived.BigQuiet
import Derived.Deep.QuietTactic
import Derived.WalkLawsBesides
import Derived.WalkSpells
import Derived.Lib.Hide
import Derived.Outline
import Derived.Laws.OwnMore
import Derived.Laws.Rows
import Derived.Deep.Draws
import Derived.LoopTactic
import Derived.Laws.ResultCell
import Derived.Laws.MakeOwn
import Derived.Laws.CopyOwn
import Derived.Deep.RegionLaw
import Derived.Deep.AppendLies
/- Plain facts of words and bits: no program is named here. -/
namespace Go.Proofs.YtggaijdbaplfiaaGreatDoor
open Go

/-- the powers of two, under a name that stays shut -/
def p2 (k : Nat) : Nat := 2 ^ k
def W64 : Nat := 18446744073709551616
theorem W64_eq : W64 = 2 ^ 64 := rfl

theorem wrap_pow (k : Nat) (h : k < 64) : IntKind.u64.wrap ((2 : Int) ^ k) = ((p2 k : Nat) : Int) := by
  have h2 : (2 : Nat) ^ k < 2 ^ 64 := Nat.pow_lt_pow_right (by omega) h
  have e : ((2 : Int) ^ k) = ((2 ^ k : Nat) : Int) := by simp
  rw [e, IntKind.wrap_u64]
  unfold p2
  generalize (2 : Nat) ^ k = p at h2
  omega

/-- bit k of a word, as the code asks for it -/
theorem and_pow (x k : Nat) (hx : x < W64) (hk : k < 64) : (bits .and .u64 (x : Int) ((p2 k : Nat) : Int) != 0) = x.testBit k := by
  have h2 : (2 : Nat) ^ k < 2 ^ 64 := Nat.pow_lt_pow_right (by omega) hk
  unfold W64 at hx
  unfold p2
  rw [u64_and_nat x (2 ^ k) hx (by omega), nat_bit, Nat.testBit_eq_decide_div_mod_eq]
  have hp : 0 < 2 ^ k := Nat.two_pow_pos k
  rcases Nat.mod_two_eq_zero_or_one (x / 2 ^ k) with h | h
  · rw [h]; simp
  · rw [h]
    have : ((1 * 2 ^ k : Nat) : Int) ≠ 0 := by omega
    simp only [decide_true, bne_iff_ne]
    exact this

def setBit (x k : Nat) (v : Bool) : Nat := if v then x ||| 2 ^ k else x &&& (18446744073709551615 - 2 ^ k)

theorem or_pow (x k : Nat) (hx : x < W64) (hk : k < 64) : bits .or .u64 (x : Int) ((p2 k : Nat) : Int) = ((setBit x k true : Nat) : Int) := by
  have h2 : (2 : Nat) ^ k < 2 ^ 64 := Nat.pow_lt_pow_right (by omega) hk
  unfold W64 at hx
  exact u64_or_nat x (2 ^ k) hx (by omega)

theorem andNot_pow (x k : Nat) (hx : x < W64) (hk : k < 64) : bits .andNot .u64 (x : Int) ((p2 k : Nat) : Int) = ((setBit x k false : Nat) : Int) := by
  have h2 : (2 : Nat) ^ k < 2 ^ 64 := Nat.pow_lt_pow_right (by omega) hk
  unfold W64 at hx
  exact u64_andNot_nat x (2 ^ k) hx (by omega)

theorem testBit_mask (k j : Nat) (hk : k < 64) (hj : j < 64) : (18446744073709551615 - 2 ^ k : Nat).testBit j = (decide (j ≠ k)) := by
  have h2 : (2 : Nat) ^ k < 2 ^ 64 := Nat.pow_lt_pow_right (by omega) hk
  have e : (18446744073709551615 - 2 ^ k : Nat) = 2 ^ 64 - (2 ^ k + 1) := by omega
  rw [e, Nat.testBit_two_pow_sub_succ h2, Nat.testBit_two_pow]
  simp [hj, eq_comm]

theorem testBit_setBit (x k j : Nat) (v : Bool) (hk : k < 64) (hj : j < 64) : (setBit x k v).testBit j = if j = k then v else x.testBit j := by
  unfold setBit
  cases v
  · simp only [Bool.false_eq_true, if_false, Nat.testBit_and, testBit_mask k j hk hj]
    by_cases h : j = k <;> simp [h]
  · simp only [if_true, Nat.testBit_or, Nat.testBit_two_pow]
    by_cases h : j = k
    · simp [h]
    · simp [h, Ne.symm h]

theorem setBit_lt (x k : Nat) (v : Bool) (hx : x < W64) (hk : k < 64) : setBit x k v < W64 := by
  have h2 : (2 : Nat) ^ k < 2 ^ 64 := Nat.pow_lt_pow_right (by omega) hk
  unfold setBit
  rw [W64_eq] at *
  cases v
  · simp only [Bool.false_eq_true, if_false]
    exact Nat.lt_of_le_of_lt Nat.and_le_left hx
  · simp only [if_true]
    exact Nat.or_lt_two_pow hx h2

theorem word_ext (x y : Nat) (hx : x < W64) (hy : y < W64) (h : ∀ j, j < 64 → x.testBit j = y.testBit j) : x = y := by
  apply Nat.eq_of_testBit_eq
  intro j
  by_cases hj : j < 64
  · exact h j hj
  · rw [Nat.testBit_lt_two_pow, Nat.testBit_lt_two_pow]
    · exact Nat.lt_of_lt_of_le hy (by rw [W64_eq]; exact Nat.pow_le_pow_right (by omega) (by omega))
    · exact Nat.lt_of_lt_of_le hx (by rw [W64_eq]; exact Nat.pow_le_pow_right (by omega) (by omega))

theorem xor_pow (x k : Nat) (v : Bool) (hx : x < W64) (hk : k < 64) (h : (x.testBit k != v) = true) : x ^^^ 2 ^ k = setBit x k v := by
  have h2 : (2 : Nat) ^ k < 2 ^ 64 := Nat.pow_lt_pow_right (by omega) hk
  apply word_ext _ _ _ (setBit_lt x k v hx hk)
  · intro j hj
    rw [testBit_setBit x k j v hk hj, Nat.testBit_xor, Nat.testBit_two_pow]
    by_cases e : j = k
    · subst e
      simp only [decide_true, Bool.xor_true, if_true]
      cases hv : x.testBit j <;> cases v <;> simp_all
    · simp [e, Ne.symm e]
  · rw [W64_eq] at *; exact Nat.xor_lt_two_pow hx h2

theorem xor_form (x k : Nat) (v : Bool) (hx : x < W64) (hk : k < 64) (h : (!(x.testBit k == v)) = true) : bits .xor .u64 (x : Int) ((p2 k : Nat) : Int) = ((setBit x k v : Nat) : Int) := by
  have h2 : (2 : Nat) ^ k < 2 ^ 64 := Nat.pow_lt_pow_right (by omega) hk
  have hx' := hx
  unfold W64 at hx'
  unfold p2
  rw [u64_xor_nat x (2 ^ k) hx' (by omega), xor_pow x k v hx hk h]
theorem setBit_same (x k : Nat) (v : Bool) (hx : x < W64) (hk : k < 64) (h : (x.testBit k != v) = false) : x = setBit x k v := by
  apply word_ext _ _ hx (setBit_lt x k v hx hk)
  intro j hj
  rw [testBit_setBit x k j v hk hj]
  by_cases e : j = k
  · subst e
    simpa using h
  · simp [e]

/-- bit i of some words -/
def tb (ws : List Nat) (i : Nat) : Bool := (ws.getD (i / 64) 0).testBit (i % 64)
/-- words of which bit i is v -/
def putW (ws : List Nat) (i : Nat) (v : Bool) : List Nat := ws.set (i / 64) (setBit (ws.getD (i / 64) 0) (i % 64) v)
def fillW (ws : List Nat) (a : Nat) : Nat → Bool → List Nat
  | 0, _ => ws
  | n + 1, v => putW (fillW ws a n v) (a + n) v

def Words (ws : List Nat) : Prop := ∀ x ∈ ws, x < W64

theorem Words.at_ {ws : List Nat} (h : Words ws) (i : Nat) : ws.getD i 0 < W64 := by
  by_cases hi : i < ws.length
  · rw [List.getD_eq_getElem?_getD, List.getElem?_eq_getElem hi]
    exact h _ (List.getElem_mem hi)
  · rw [List.getD_eq_getElem?_getD, List.getElem?_eq_none (by omega)]
    simp [W64]

theorem length_putW (ws : List Nat) (i : Nat) (v : Bool) : (putW ws i v).length = ws.length := by simp [putW]
theorem words_putW {ws : List Nat} (h : Words ws) (i : Nat) (v : Bool) : Words (putW ws i v) := by
  intro x hx
  rcases List.mem_or_eq_of_mem_set hx with hx | rfl
  · exact h x hx
  · exact setBit_lt _ _ _ (h.at_ _) (Nat.mod_lt _ (by omega))
theorem length_fillW (ws : List Nat) (a n : Nat) (v : Bool) : (fillW ws a n v).length = ws.length := by
  induction n with
  | zero => rfl
  | succ n ih => rw [fillW, length_putW, ih]
theorem words_fillW {ws : List Nat} (h : Words ws) (a n : Nat) (v : Bool) : Words (fillW ws a n v) := by
  induction n with
  | zero => exact h
  | succ n ih => exact words_putW ih _ _
theorem tb_putW (ws : List Nat) (i j : Nat) (v : Bool) (hi : i < 64 * ws.length) : tb (putW ws i v) j = if j = i then v else tb ws j := by
  have hk : i % 64 < 64 := Nat.mod_lt _ (by omega)
  have hj : j % 64 < 64 := Nat.mod_lt _ (by omega)
  unfold tb putW
  by_cases h : j / 64 = i / 64
  · have hl : i / 64 < ws.length := by omega
    rw [h, List.getD_eq_getElem?_getD, List.getElem?_set_self hl, Option.getD_some, testBit_setBit _ _ _ _ hk hj]
    by_cases e : j % 64 = i % 64
    · have : j = i := by omega
      subst this; simp
    · have : j ≠ i := by rintro rfl; exact e rfl
      simp [e, this]
  · have : j ≠ i := by rintro rfl; exact h rfl
    rw [List.getD_eq_getElem?_getD, List.getElem?_set_ne (Ne.symm h), if_neg this, List.getD_eq_getElem?_getD]
theorem tb_fillW (ws : List Nat) (a n j : Nat) (v : Bool) (hi : a + n ≤ 64 * ws.length) : tb (fillW ws a n v) j = if a ≤ j ∧ j < a + n then v else tb ws j := by
  induction n with
  | zero => rw [fillW, if_neg (by omega)]
  | succ n ih =>
    rw [fillW, tb_putW _ _ _ _ (by rw [length_fillW]; omega), ih (by omega)]
    by_cases e : j = a + n
    · subst e; rw [if_pos rfl, if_pos (by omega)]
    · rw [if_neg e]
      by_cases h : a ≤ j ∧ j < a + n
      · rw [if_pos h, if_pos (by omega)]
      · rw [if_neg h, if_neg (by omega)]

/-- when bits are right -/
def Right (n : Int) (ws : List Nat) : Prop := 0 ≤ n ∧ n ≤ 4096 ∧ ws.length = (n.toNat + 63) / 64 ∧ ∀ i, n.toNat ≤ i → i < 64 * ws.length → tb ws i = false
theorem Right.long {n : Int} {ws : List Nat} (h : Right n ws) : n ≤ 64 * ws.length := by
  obtain ⟨h0, _, h2, _⟩ := h; omega

theorem words_ext {a b : List Nat} (ha : Words a) (hb : Words b) (hl : a.length = b.length) (h : ∀ i, i < 64 * a.length → tb a i = tb b i) : a = b := by
  apply List.ext_getElem hl
  intro k h1 h2
  apply word_ext _ _ (ha _ (List.getElem_mem h1)) (hb _ (List.getElem_mem h2))
  intro j hj
  have := h (64 * k + j) (by omega)
  unfold tb at this
  rw [show (64 * k + j) / 64 = k by omega, show (64 * k + j) % 64 = j by omega] at this
  simpa [List.getD_eq_getElem?_getD, h1, h2] using this

theorem right_putW {n : Int} {ws : List Nat} (h : Right n ws) (i : Nat) (v : Bool) (hi : (i : Int) < n) : Right n (putW ws i v) := by
  have hl := h.long
  obtain ⟨h0, h1, h2, h3⟩ := h
  refine ⟨h0, h1, by rw [length_putW]; exact h2, fun j hj hj2 => ?_⟩
  rw [length_putW] at hj2
  rw [tb_putW _ _ _ _ (by omega), if_neg (by omega)]
  exact h3 j hj hj2
theorem right_fillW {n : Int} {ws : List Nat} (h : Right n ws) (a k : Nat) (v : Bool) (hi : ((a + k : Nat) : Int) ≤ n) : Right n (fillW ws a k v) := by
  induction k with
  | zero => exact h
  | succ k ih => exact right_putW (ih (by omega)) _ _ (by omega)

/-- the last word has no bit behind the last one -/
theorem tail_right (n : Nat) (ws : List Nat) (hw : Words ws) (hl : ws.length = (n + 63) / 64) (hn : n % 64 ≠ 0) :
    (ws.getD (ws.length - 1) 0 >>> (n % 64) = 0) ↔ ∀ i, n ≤ i → i < 64 * ws.length → tb ws i = false := by
  have hlast : ws.length - 1 = n / 64 := by omega
  rw [hlast]
  constructor
  · intro h i h1 h2
    unfold tb
    have e : i / 64 = n / 64 := by omega
    rw [e]
    have : i % 64 = n % 64 + (i % 64 - n % 64) := by omega
    rw [this, ← Nat.testBit_shiftRight, h, Nat.zero_testBit]
  · intro h
    apply Nat.eq_of_testBit_eq
    intro j
    rw [Nat.testBit_shiftRight, Nat.zero_testBit]
    by_cases hj : n % 64 + j < 64
    · have := h (64 * (n / 64) + (n % 64 + j)) (by omega) (by omega)
      unfold tb at this
      rwa [show (64 * (n / 64) + (n % 64 + j)) / 64 = n / 64 by omega, show (64 * (n / 64) + (n % 64 + j)) % 64 = n % 64 + j by omega] at this
    · apply Nat.testBit_lt_two_pow
      exact Nat.lt_of_lt_of_le (hw.at_ _) (by rw [W64_eq]; exact Nat.pow_le_pow_right (by omega) (by omega))
theorem is_form (x k : Nat) : (((x : Int) / 2 ^ k).tmod 2 == 1) = x.testBit k := by
  have e : (x : Int) / 2 ^ k = ((x / 2 ^ k : Nat) : Int) := by simp
  rw [e, Nat.testBit_eq_decide_div_mod_eq]
  generalize x / 2 ^ k = y
  rw [Bool.eq_iff_iff, Int.tmod_eq_emod_of_nonneg (by omega)]
  simp only [beq_iff_eq, decide_eq_true_eq]
  omega
theorem shr_form (x k : Nat) : ((x : Int) / 2 ^ k != 0) = (x >>> k != 0) := by
  have e : (x : Int) / 2 ^ k = ((x >>> k : Nat) : Int) := by rw [Nat.shiftRight_eq_div_pow]; simp
  rw [e]
  generalize x >>> k = y
  rw [Bool.eq_iff_iff]
  simp only [bne_iff_ne]
  omega
end Go.Proofs.YtggaijdbaplfiaaGreatDoor

/- Contracts of the smallest functions of package bits: words for n bits, the place of a bit, whether there is a bit, which it is, and its change. -/
namespace Go.Proofs.YtggaijdbaplfiaaGreatDoor
open Go.RowKit

theorem ret_bool {a b : Bool} (h : a = b) : Ending.returned (.bool a) = .returned (.bool b) := by rw [h]
theorem ret_int {k : IntKind} {a b : Int} (h : a = b) : Ending.returned (.int k a) = .returned (.int k b) := by rw [h]
theorem q_left {P : Program} {f : FuncId} {args : Array Value} {w : World} {n : Nat} {v : Value} (h : Calls P f args (w.drewN n) fun e w' => e = .returned v ∧ w.drewN n = w') :
    Calls P f args (w.drewN n) fun e w'' => e = .returned v ∧ ∃ m, w'' = w.drewN m := h.mono fun _ _ ⟨he, hm⟩ => ⟨he, n, hm.symm⟩
theorem q_some {P : Program} {f : FuncId} {args : Array Value} {w : World} {n : Nat} {v : Value} (h : Calls P f args (w.drewN n) fun e w' => e = .returned v ∧ ∃ m, w' = (w.drewN n).drewN m) :
    Calls P f args (w.drewN n) fun e w'' => e = .returned v ∧ ∃ m, w'' = w.drewN m := h.mono fun _ _ ⟨he, m, hm⟩ => ⟨he, n + m, by rw [hm, World.drewN_drewN]⟩

end Go.Proofs.YtggaijdbaplfiaaGreatDoor

/- What a slice of words reads as; the check of bits. -/
namespace Go.Proofs.YtggaijdbaplfiaaGreatDoor
open Go.RowKit

/-- the slice at A of so many words reads as ws, below block B -/
structure Row (w : World) (B : Nat) (A : Option Addr) (ws : List Nat) : Prop where
  words : Words ws
  at_ : 0 < ws.length → ∃ b off, A = some ⟨b, off, none⟩ ∧ b < B ∧ ∀ i, i < ws.length → w.cell? ⟨b, off + i, none⟩ = some (.int .u64 (ws.getD i 0 : Nat))

theorem Row.keep {w w' : World} {B : Nat} {A : Option Addr} {ws : List Nat} (h : Row w B A ws) (hk : ∀ b o, b < B → w'.cell? ⟨b, o, none⟩ = w.cell? ⟨b, o, none⟩) : Row w' B A ws :=
  ⟨h.words, fun hl => by
    obtain ⟨b, off, e, hb, hc⟩ := h.at_ hl
    exact ⟨b, off, e, hb, fun i hi => (hk _ _ hb).trans (hc i hi)⟩⟩
theorem Row.more {w : World} {B B' : Nat} {A : Option Addr} {ws : List Nat} (h : Row w B A ws) (hB : B ≤ B') : Row w B' A ws :=
  ⟨h.words, fun hl => by
    obtain ⟨b, off, e, hb, hc⟩ := h.at_ hl
    exact ⟨b, off, e, by omega, hc⟩⟩
theorem Row.below {w w' : World} {B : Nat} {A : Option Addr} {ws : List Nat} (h : Row w B A ws) (hb : Below B w w') : Row w' B A ws :=
  h.keep fun b o hlt => hb.cell (p := ⟨b, o, none⟩) hlt
theorem Row.keep_ {w w' : World} {A : Option Addr} {ws : List Nat} (h : Row w w.heap.size A ws) (hb : Below w.heap.size w w') : Row w' w'.heap.size A ws := (h.below hb).more hb.size
theorem Row.later {w w' : World} {A : Option Addr} {ws : List Nat} (h : Row w w.heap.size A ws) (hb : Below w.heap.size w w') : Row w' w'.heap.size A ws :=
  (h.below hb).more hb.size
theorem below_drewN {B : Nat} {a w : World} (h : Below B a w) (n : Nat) : Below B a (w.drewN n) := ⟨h.os, h.tape, h.output, h.size, h.block⟩
theorem below_trans {B B' : Nat} {a b c : World} (h : Below B a b) (k : Below B' b c) (hB : B ≤ B') : Below B a c := h.trans (k.mono hB)

theorem bcell {B : Nat} {W w1 : World} (hb : Below B W w1) : (∀ b o, b < B → w1.cell? ⟨b, o, none⟩ = W.cell? ⟨b, o, none⟩) ∧ (∀ b o, b < B → w1.frozen? ⟨b, o, none⟩ = W.frozen? ⟨b, o, none⟩) :=
  ⟨fun b o h => hb.cell (p := ⟨b, o, none⟩) h, fun b o h => hb.frozen (p := ⟨b, o, none⟩) h⟩

section
variable (n : Int) (A : Option Addr) (len cap : Nat) (w : World)
end

end Go.Proofs.YtggaijdbaplfiaaGreatDoor

/- Contracts of the document's own answers for bits: one bit, the check, whether two are one. -/
namespace Go.Proofs.YtggaijdbaplfiaaGreatDoor
open Go.RowKit

section
variable (n : Int) (A : Option Addr) (len cap : Nat) (w : World)
end

/-- what a check answers -/
def RC (n : Int) (ws : List Nat) (e : Ending) : Prop := (Right n ws ∧ e = .returned (.int .i64 0)) ∨ (¬ Right n ws ∧ e = .returned (.int .i64 2))
def ZeroTo (n : Int) (ws : List Nat) (k : Nat) : Prop := ∀ j, n.toNat ≤ j → j < k → tb ws j = false

def SameTo (ws ws' : List Nat) (k : Nat) : Prop := ∀ j, j < k → ws.getD j 0 = ws'.getD j 0
/-- a word of a list, under a name of its own -/
theorem named (ws : List Nat) (k : Nat) : ∃ x, Hid (ws.getD k 0 = x) := ⟨_, rfl⟩

end Go.Proofs.YtggaijdbaplfiaaGreatDoor

/- Contracts of what makes bits: views, copies, new ones. -/
namespace Go.Proofs.YtggaijdbaplfiaaGreatDoor
open Go.RowKit
set_option linter.unusedVariables false
set_option linter.unusedSimpArgs false

theorem set_two {w : World} {g : Nat} {u0 u1 : Value} (v0 v1 : Value) (h0 : w.cell? ⟨g, 0, none⟩ = some u0) (h1 : w.cell? ⟨g, 1, none⟩ = some u1) :
    ((w.setCell ⟨g, 0, none⟩ v0).setCell ⟨g, 1, none⟩ v1).cell? ⟨g, 0, none⟩ = some v0 ∧ ((w.setCell ⟨g, 0, none⟩ v0).setCell ⟨g, 1, none⟩ v1).cell? ⟨g, 1, none⟩ = some v1 := by
  constructor <;> simp [go_sem, h0, h1]
theorem new_two {w : World} {v0 v1 : Value} {t : TypeId} : (w.alloc (.cells #[v0, v1] t)).cell? ⟨w.heap.size, 0, none⟩ = some v0 ∧ (w.alloc (.cells #[v0, v1] t)).cell? ⟨w.heap.size, 1, none⟩ = some v1 := by
  constructor <;> simp [go_sem]

end Go.Proofs.YtggaijdbaplfiaaGreatDoor

/- Words that a call has made for itself; what 'make' gives. -/
namespace Go.Proofs.YtggaijdbaplfiaaGreatDoor
open Go.RowKit
set_option linter.unusedVariables false
set_option linter.unusedSimpArgs false

def vals (ws : List Nat) : List Value := ws.map fun (x : Nat) => Value.int .u64 ((x : Nat) : Int)
theorem length_vals (ws : List Nat) : (vals ws).length = ws.length := by simp [vals]
theorem vals_at (ws : List Nat) (i : Nat) (h : i < ws.length) : (vals ws)[i]? = some (.int .u64 (ws.getD i 0 : Nat)) := by
  simp [vals, h]
theorem vals_one (ws : List Nat) : ∀ v ∈ vals ws, v.oneCell' = true := by
  intro v hv
  simp only [vals, List.mem_map] at hv
  obtain ⟨x, _, rfl⟩ := hv
  rfl

theorem Row.src {w : World} {B : Nat} {A : Option Addr} {ws : List Nat} (h : Row w B A ws) (hl : 0 < (vals ws).length) : ∃ ad, A = some ad ∧ ∀ (j : Nat) (v : Value), (vals ws)[j]? = some v → w.cell? (ad.add j) = some v := by
  rw [length_vals] at hl
  obtain ⟨b, off, e, _, hc⟩ := h.at_ hl
  refine ⟨_, e, fun j v hv => ?_⟩
  have hj : j < ws.length := by
    have := (List.getElem?_eq_some_iff.1 hv).1
    rwa [length_vals] at this
  rw [vals_at ws j hj] at hv
  injection hv with hv
  subst hv
  rw [← hc j hj]
  congr 1
  unfold Addr.add
  by_cases e0 : j = 0 <;> simp [e0]
theorem add_form (b off j : Nat) : (⟨b, off, none⟩ : Addr).add j = ⟨b, off + j, none⟩ := by
  unfold Addr.add
  by_cases e0 : j = 0 <;> simp [e0]
theorem Row.src2 {w w' : World} {b off : Nat} {ws : List Nat} (h : Row w w.heap.size (some ⟨b, off, none⟩) ws) (hb : Below w.heap.size w w') (j : Nat) (v : Value) (hv : (vals ws)[j]? = some v) : w'.cell? ((⟨b, off, none⟩ : Addr).add j) = some v := by
  have hj : j < ws.length := by
    have := (List.getElem?_eq_some_iff.1 hv).1
    rwa [length_vals] at this
  obtain ⟨b', off', e, _, hc⟩ := (h.later hb).at_ (by omega)
  injection e with e
  injection e with e1 e2
  subst e1 e2
  rw [vals_at ws j hj] at hv
  injection hv with hv
  subst hv
  rw [add_form]
  exact hc j hj
theorem splice_all {α : Type} (L cs : List α) (h : L.length = cs.length) : splice L 0 cs = cs := by
  simp [splice, h]
/-- the slice at A holds ws, in a block of its own from block B on, and may be written -/
structure Own (w : World) (B : Nat) (A : Option Addr) (ws : List Nat) : Prop where
  words : Words ws
  at_ : 0 < ws.length → ∃ g, A = some ⟨g, 0, none⟩ ∧ B ≤ g ∧ g < w.heap.size ∧ ∀ i, i < ws.length → w.cell? ⟨g, i, none⟩ = some (.int .u64 (ws.getD i 0 : Nat)) ∧ w.frozen? ⟨g, i, none⟩ = false

theorem Own.row {w : World} {B : Nat} {A : Option Addr} {ws : List Nat} (h : Own w B A ws) : Row w w.heap.size A ws :=
  ⟨h.words, fun hl => by
    obtain ⟨g, e, _, hg, hc⟩ := h.at_ hl
    exact ⟨g, 0, e, hg, fun i hi => by rw [Nat.zero_add]; exact (hc i hi).1⟩⟩
theorem Own.nil (w : World) (B : Nat) : Own w B none [] := ⟨fun x hx => by simp at hx, fun h => by simp at h⟩
theorem Own.later {w w' : World} {B : Nat} {A : Option Addr} {ws : List Nat} (h : Own w B A ws) (hb : Below w.heap.size w w') : Own w' B A ws :=
  ⟨h.words, fun hl => by
    obtain ⟨g, e, h1, hg, hc⟩ := h.at_ hl
    exact ⟨g, e, h1, Nat.lt_of_lt_of_le hg hb.size, fun i hi => ⟨((bcell hb).1 _ _ hg).trans (hc i hi).1, ((bcell hb).2 _ _ hg).trans (hc i hi).2⟩⟩⟩
theorem Own.mono {w : World} {B B' : Nat} {A : Option Addr} {ws : List Nat} (h : Own w B A ws) (hB : B' ≤ B) : Own w B' A ws :=
  ⟨h.words, fun hl => by
    obtain ⟨g, e, h1, hg, hc⟩ := h.at_ hl
    exact ⟨g, e, by omega, hg, hc⟩⟩
/-- a store elsewhere -/
theorem Own.far {w : World} {B : Nat} {A : Option Addr} {ws : List Nat} (h : Own w B A ws) {p : Addr} (hp : p.block < B ∨ w.heap.size ≤ p.block) (u : Value) : Own (w.setCell p u) B A ws :=
  ⟨h.words, fun hl => by
    obtain ⟨g, e, h1, hg, hc⟩ := h.at_ hl
    refine ⟨g, e, h1, by simpa using hg, fun i hi => ⟨?_, ?_⟩⟩
    · rw [World.cell?_setCell_other]
      · exact (hc i hi).1
      · rintro rfl
        have : (Addr.block ⟨g, i, none⟩) = g := rfl
        omega
    · rw [World.frozen?_setCell]
      exact (hc i hi).2⟩
theorem Own.off {w : World} {B g : Nat} {A : Option Addr} {ws : List Nat} (h : Own w B A ws) (hA : A = some ⟨g, 0, none⟩) {p : Addr} (hp : p.block ≠ g) (u : Value) : Own (w.setCell p u) B A ws :=
  ⟨h.words, fun hl => by
    obtain ⟨g', e, h1, hg, hc⟩ := h.at_ hl
    rw [hA] at e
    injection e with e
    injection e with e
    subst e
    refine ⟨g, hA, h1, by simpa using hg, fun i hi => ⟨?_, ?_⟩⟩
    · rw [World.cell?_setCell_other]
      · exact (hc i hi).1
      · rintro rfl
        exact hp rfl
    · rw [World.frozen?_setCell]
      exact (hc i hi).2⟩
theorem Own.set_ {w : World} {B : Nat} {A : Option Addr} {ws : List Nat} (h : Own w B A ws) {g i x : Nat} (hA : A = some ⟨g, 0, none⟩) (hi : i < ws.length) (hx : x < W64) : Own (w.setCell ⟨g, i, none⟩ (.int .u64 (x : Nat))) B A (ws.set i x) :=
  ⟨fun y hy => by
    rcases List.mem_or_eq_of_mem_set hy with hy | rfl
    · exact h.words y hy
    · exact hx, fun hl => by
    obtain ⟨g', e, h1, hg, hc⟩ := h.at_ (by omega)
    rw [hA] at e
    injection e with e
    injection e with e
    subst e
    refine ⟨g, hA, h1, by simpa using hg, fun j hj => ⟨?_, ?_⟩⟩
    · rw [List.length_set] at hj
      by_cases e : j = i
      · subst e
        rw [World.cell?_setCell_same _ _ _ (hc j hj).1]
        simp [hj]
      · rw [World.cell?_setCell_other _ _ _ _ (by intro he; injection he with _ he; exact e he.symm), (hc j hj).1]
        simp [Ne.symm e]
    · rw [World.frozen?_setCell]
      rw [List.length_set] at hj
      exact (hc j hj).2⟩
theorem heap_lt {w : World} {g : Nat} {o : Obj} (h : w.heap[g]? = some o) : g < w.heap.size := by
  rcases Nat.lt_or_ge g w.heap.size with hlt | hge
  · exact hlt
  · rw [Array.getElem?_eq_none hge] at h; cases h
theorem Own.of_block {w : World} {B g : Nat} {ws : List Nat} (h : w.heap[g]? = some (.cells (vals ws).toArray 31 (0, 0))) (hB : B ≤ g) (hw : Words ws) : Own w B (some ⟨g, 0, none⟩) ws :=
  ⟨hw, fun _ => ⟨g, rfl, hB, heap_lt h, fun i hi => ⟨by
      rw [cell_of_row w g i _ _ (0, 0) h, List.getElem?_toArray, vals_at ws i hi], by simp [World.frozen?, h]⟩⟩⟩

theorem info_u64 : (Tryz.prog.info? 31).map (fun i => (i.zero, i.size, i.bytes)) = some (some (.int .u64 0), 1, 8) := by kernel_rfl

theorem made_vals (n : Nat) : madeCells #[Value.int .u64 0] n = (vals (List.replicate n 0)).toArray := by
  apply Array.ext'
  rw [toList_madeCells_one]
  simp [vals]

theorem block2 (w : World) (o o' : Obj) : ((w.alloc o).alloc o').heap[w.heap.size + 1]? = some o' := by
  have h := heap_alloc_new (w.alloc o) o'
  rwa [World.size_alloc] at h
theorem block3 (w : World) (o o' o'' : Obj) : (((w.alloc o).alloc o').alloc o'').heap[w.heap.size + 2]? = some o'' := by
  have h := block2 (w.alloc o) o' o''
  rwa [World.size_alloc] at h
theorem own_empty (w w' : World) (o o' : Obj) (h : w'.heap = (((w.alloc o).alloc o').alloc (.cells #[] 31)).heap) : w'.ownsRow (w.heap.size + 2) 31 1 (.slice (some ⟨w.heap.size + 1 + 1, 0, none⟩) 0 0) 0 [] :=
  ⟨rfl, .inr ⟨w.heap.size + 1 + 1, 0, #[], rfl, Nat.le_refl _, by rw [h]; exact block3 _ _ _ _, Nat.le_refl _, Nat.zero_le _, rfl, rfl⟩⟩
theorem Own.of_owns {w : World} {B g cap : Nat} {ws : List Nat} (h : w.ownsRow B 31 1 (.slice (some ⟨g, 0, none⟩) ws.length cap) ws.length (vals ws)) (hw : Words ws) : Own w B (some ⟨g, 0, none⟩) ws :=
  ⟨hw, fun hl => ⟨g, rfl, (h.lt g rfl).1, (h.lt g rfl).2, fun i hi => ⟨by rw [h.cellAt i (by omega), vals_at ws i hi], h.frozenAt i⟩⟩⟩
/-- bits of a call's own, and an error's number -/
def Fresh (w : World) (n : Int) (ws : List Nat) (why : Int) (e : Ending) (w' : World) : Prop :=
  ∃ A cap, e = .returned (.tuple #[.agg #[.int .i64 n, .slice A ws.length cap], .int .i64 why]) ∧ Own w' w.heap.size A ws ∧ Below w.heap.size w w'
end Go.Proofs.YtggaijdbaplfiaaGreatDoor

/- Contracts: new bits, copies of bits. -/
namespace Go.Proofs.YtggaijdbaplfiaaGreatDoor
open Go.RowKit
set_option linter.unusedVariables false
set_option linter.unusedSimpArgs false

def wordsN (n : Int) : List Nat := List.replicate ((n + 63) / 64).toNat 0
theorem wordsN_words (n : Int) : Words (wordsN n) := fun x hx => by
  rw [List.eq_of_mem_replicate hx]; decide

end Go.Proofs.YtggaijdbaplfiaaGreatDoor

/- Contracts: one bit is asked for; one is changed. -/
namespace Go.Proofs.YtggaijdbaplfiaaGreatDoor
open Go.RowKit
set_option linter.unusedVariables false
set_option linter.unusedSimpArgs false

section
variable {n : Int} {A : Option Addr} {ws : List Nat} {w : World} (cap : Nat) (i : Int)
end
end Go.Proofs.YtggaijdbaplfiaaGreatDoor

/- Contracts: a copy of bits, as the document's own answers make it; one bit of them changed. -/
namespace Go.Proofs.YtggaijdbaplfiaaGreatDoor
open Go.RowKit
set_option linter.unusedVariables false
set_option linter.unusedSimpArgs false

/-- bits of a call's own -/
def Copied (w : World) (n : Int) (ws : List Nat) (e : Ending) (w' : World) : Prop :=
  ∃ A cap, e = .returned (.agg #[.int .i64 n, .slice A ws.length cap]) ∧ Own w' w.heap.size A ws ∧ Below w.heap.size w w'

theorem Own.put {w : World} {B g : Nat} {A : Option Addr} {ws : List Nat} (h : Own w B A ws) {i : Int} (v : Bool) (hA : A = some ⟨g, 0, none⟩) (h0 : 0 ≤ i) (hi : i < 64 * ws.length) {x : Nat} (hx : ws.getD (i / 64).toNat 0 = x) :
    Own (w.setCell ⟨g, (i / 64).toNat, none⟩ (.int .u64 (setBit x (i % 64).toNat v : Nat))) B A (putW ws i.toNat v) := by
  have := h.set_ hA (i := (i / 64).toNat) (x := setBit x (i % 64).toNat v) (by omega) (setBit_lt _ _ _ (by rw [← hx]; exact h.words.at_ _) (by omega))
  unfold putW
  rw [show i.toNat / 64 = (i / 64).toNat by omega, show i.toNat % 64 = (i % 64).toNat by omega, hx]
  exact this
theorem putW_same (ws : List Nat) (hw : Words ws) (i : Nat) (v : Bool) (hi : i < 64 * ws.length) (h : (!(tb ws i == v)) = false) : putW ws i v = ws := by
  unfold putW
  have := setBit_same (ws.getD (i / 64) 0) (i % 64) v (hw.at_ _) (Nat.mod_lt _ (by omega)) h
  rw [← this]
  apply List.ext_getElem (by simp)
  intro k h1 h2
  rw [List.getElem_set]
  split
  · rename_i e
    subst e
    rw [List.getD_eq_getElem?_getD, List.getElem?_eq_getElem h2]
    rfl
  · rfl

end Go.Proofs.YtggaijdbaplfiaaGreatDoor

/- Contracts: some bits are filled. -/
namespace Go.Proofs.YtggaijdbaplfiaaGreatDoor
open Go.RowKit
set_option linter.unusedVariables false
set_option linter.unusedSimpArgs false

theorem Own.two {w : World} {B g : Nat} {A : Option Addr} {ws : List Nat} {u v : Value} (h : Own w B A ws) (hg : g < B) : Own ((w.setCell ⟨g, 0, none⟩ u).setCell ⟨g, 1, none⟩ v) B A ws :=
  (h.far (p := ⟨g, 0, none⟩) (.inl hg) u).far (p := ⟨g, 1, none⟩) (.inl hg) v
theorem Own.drewN {w : World} {B : Nat} {A : Option Addr} {ws : List Nat} (h : Own w B A ws) (n : Nat) : Own (w.drewN n) B A ws := h.later (below_drewN (Below.refl _ _) n)

section
variable {N : Int} {A : Option Addr} {ws : List Nat} {w : World} (cap : Nat) (a c : Int) (v : Bool)
end
end Go.Proofs.YtggaijdbaplfiaaGreatDoor

/- Contracts: some bits are filled, as the document's own answers say. -/
namespace Go.Proofs.YtggaijdbaplfiaaGreatDoor
open Go.RowKit
set_option linter.unusedVariables false
set_option linter.unusedSimpArgs false

theorem right_len {N : Int} {ws : List Nat} (h : Right N ws) : ws.length ≤ 64 := by have := h.2.2.1; have := h.2.1; omega

/-- a block of two cells that may be written -/
structure Two (w : World) (g : Nat) (v0 v1 : Value) : Prop where
  c0 : w.cell? ⟨g, 0, none⟩ = some v0
  c1 : w.cell? ⟨g, 1, none⟩ = some v1
  fr : ∀ i, w.frozen? ⟨g, i, none⟩ = false
theorem Two.set_ {w : World} {g : Nat} {u0 u1 : Value} (h : Two w g u0 u1) (v0 v1 : Value) : Two ((w.setCell ⟨g, 0, none⟩ v0).setCell ⟨g, 1, none⟩ v1) g v0 v1 :=
  ⟨(set_two v0 v1 h.c0 h.c1).1, (set_two v0 v1 h.c0 h.c1).2, fun i => by rw [World.frozen?_setCell, World.frozen?_setCell]; exact h.fr i⟩
theorem Two.far {w : World} {g g' : Nat} {u0 u1 : Value} (h : Two w g u0 u1) (hne : g' ≠ g) (v0 v1 : Value) : Two ((w.setCell ⟨g', 0, none⟩ v0).setCell ⟨g', 1, none⟩ v1) g u0 u1 :=
  ⟨(World.cell?_setCell_other _ _ _ _ (by intro e; injection e; omega)).trans ((World.cell?_setCell_other _ _ _ _ (by intro e; injection e; omega)).trans h.c0),
   (World.cell?_setCell_other _ _ _ _ (by intro e; injection e; omega)).trans ((World.cell?_setCell_other _ _ _ _ (by intro e; injection e; omega)).trans h.c1), fun i => by rw [World.frozen?_setCell, World.frozen?_setCell]; exact h.fr i⟩
theorem Two.below {w w' : World} {g B : Nat} {u0 u1 : Value} (h : Two w g u0 u1) (hb : Below B w w') (hg : g < B) : Two w' g u0 u1 :=
  ⟨((bcell hb).1 _ _ hg).trans h.c0, ((bcell hb).1 _ _ hg).trans h.c1, fun i => ((bcell hb).2 _ _ hg).trans (h.fr i)⟩
theorem Two.old {w : World} {g : Nat} {u0 u1 : Value} (h : Two w g u0 u1) (hg : g < w.heap.size) (o : Obj) : Two (w.alloc o) g u0 u1 := h.below ((Below.refl w.heap.size w).alloc (Nat.le_refl _) o) hg
theorem Two.new (w : World) (v0 v1 : Value) (t : TypeId) : Two (w.alloc (.cells #[v0, v1] t)) w.heap.size v0 v1 :=
  ⟨new_two.1, new_two.2, fun i => by simp [go_sem]⟩

section
variable {N : Int} {A : Option Addr} {ws : List Nat} {w : World} (cap : Nat) (a c : Int) (v : Bool)
end
end Go.Proofs.YtggaijdbaplfiaaGreatDoor

/- What counting, searching and common bits come to: plain facts. -/
namespace Go.Proofs.YtggaijdbaplfiaaGreatDoor
open Go

def countTo (ws : List Nat) : Nat → Nat
  | 0 => 0
  | k + 1 => countTo ws k + if tb ws k then 1 else 0
theorem countTo_le (ws : List Nat) (k : Nat) : countTo ws k ≤ k := by
  induction k with
  | zero => exact Nat.le_refl _
  | succ k ih => unfold countTo; split <;> omega

/-- what First tells: the first bit from a on that is v, or that there is none -/
def FirstP (ws : List Nat) (v : Bool) (a n i why : Int) : Prop :=
  (why = 0 ∧ a ≤ i ∧ i < n ∧ tb ws i.toNat = v ∧ ∀ j : Nat, a ≤ j → (j : Int) < i → tb ws j ≠ v) ∨ (why = 3 ∧ i = 0 ∧ ∀ j : Nat, a ≤ j → (j : Int) < n → tb ws j ≠ v)
theorem FirstP.one {ws : List Nat} {v : Bool} {a n i why i' why' : Int} (h : FirstP ws v a n i why) (h' : FirstP ws v a n i' why') (ha : 0 ≤ a) : i = i' ∧ why = why' := by
  rcases h with ⟨rfl, h1, h2, h3, h4⟩ | ⟨rfl, rfl, h4⟩ <;> rcases h' with ⟨rfl, g1, g2, g3, g4⟩ | ⟨rfl, rfl, g4⟩
  · refine ⟨?_, rfl⟩
    by_cases e : i < i'
    · exact absurd h3 (g4 i.toNat (by omega) (by omega))
    · by_cases e' : i' < i
      · exact absurd g3 (h4 i'.toNat (by omega) (by omega))
      · omega
  · exact absurd h3 (g4 i.toNat (by omega) (by omega))
  · exact absurd g3 (h4 i'.toNat (by omega) (by omega))
  · exact ⟨rfl, rfl⟩

/-- how many bits that are 0 stand one behind the other just ahead of bit k -/
def zs (ws : List Nat) : Nat → Nat
  | 0 => 0
  | k + 1 => if tb ws k then 0 else zs ws k + 1
theorem zs_le (ws : List Nat) (k : Nat) : zs ws k ≤ k := by
  induction k with
  | zero => exact Nat.le_refl _
  | succ k ih => unfold zs; split <;> omega
theorem zs_zero (ws : List Nat) (k j : Nat) (h : k - zs ws k ≤ j) (hj : j < k) : tb ws j = false := by
  induction k with
  | zero => omega
  | succ k ih =>
    unfold zs at h
    cases hb : tb ws k
    · rw [hb] at h
      simp only [Bool.false_eq_true, if_false] at h
      by_cases e : j = k
      · rw [e]; exact hb
      · exact ih (by omega) (by omega)
    · rw [hb] at h
      simp only [if_true] at h
      omega
theorem zs_ahead (ws : List Nat) (k : Nat) (h : 0 < k - zs ws k) : tb ws (k - zs ws k - 1) = true := by
  induction k with
  | zero => omega
  | succ k ih =>
    unfold zs at h ⊢
    cases hb : tb ws k
    · rw [hb] at h
      simp only [Bool.false_eq_true, if_false] at h ⊢
      rw [show k + 1 - (zs ws k + 1) = k - zs ws k by omega] at h ⊢
      exact ih h
    · simp only [if_true]
      exact hb
/-- what Run tells -/
def RunP (ws : List Nat) (c n i why : Int) : Prop :=
  (why = 0 ∧ ∃ k : Nat, (k : Int) < n ∧ (zs ws (k + 1) : Int) = c ∧ (∀ j : Nat, j ≤ k → (zs ws j : Int) ≠ c) ∧ i = k - c + 1) ∨ (why = 3 ∧ i = 0 ∧ ∀ j : Nat, (j : Int) ≤ n → (zs ws j : Int) ≠ c)
theorem RunP.one {ws : List Nat} {c n i why i' why' : Int} (h : RunP ws c n i why) (h' : RunP ws c n i' why') : i = i' ∧ why = why' := by
  rcases h with ⟨rfl, k, h1, h2, h3, rfl⟩ | ⟨rfl, rfl, h4⟩ <;> rcases h' with ⟨rfl, k', g1, g2, g3, rfl⟩ | ⟨rfl, rfl, g4⟩
  · refine ⟨?_, rfl⟩
    by_cases e : k < k'
    · exact absurd h2 (g3 (k + 1) (by omega))
    · by_cases e' : k' < k
      · exact absurd g2 (h3 (k' + 1) (by omega))
      · omega
  · exact absurd h2 (g4 (k + 1) (by omega))
  · exact absurd g2 (h4 (k' + 1) (by omega))
  · exact ⟨rfl, rfl⟩

/-- what two have in common, in the first k words -/
def bothTo (a b : List Nat) : Nat → List Nat
  | 0 => a
  | k + 1 => (bothTo a b k).set k (a.getD k 0 &&& b.getD k 0)
theorem length_bothTo (a b : List Nat) (k : Nat) : (bothTo a b k).length = a.length := by
  induction k with
  | zero => rfl
  | succ k ih => rw [bothTo, List.length_set, ih]
theorem bothTo_at (a b : List Nat) (k j : Nat) : (bothTo a b k).getD j 0 = if j < k ∧ j < a.length then a.getD j 0 &&& b.getD j 0 else a.getD j 0 := by
  induction k with
  | zero => rw [if_neg (by omega)]; rfl
  | succ k ih =>
    rw [bothTo]
    by_cases e : j = k
    · subst e
      by_cases hj : j < a.length
      · rw [if_pos ⟨by omega, hj⟩, List.getD_eq_getElem?_getD, List.getElem?_set_self (by rw [length_bothTo]; exact hj)]
        rfl
      · rw [if_neg (by omega), List.getD_eq_getElem?_getD, List.getElem?_eq_none (by rw [List.length_set, length_bothTo]; omega), List.getD_eq_getElem?_getD, List.getElem?_eq_none (by omega)]
    · rw [List.getD_eq_getElem?_getD, List.getElem?_set_ne (Ne.symm e), ← List.getD_eq_getElem?_getD, ih]
      by_cases hj : j < k ∧ j < a.length
      · rw [if_pos hj, if_pos (by omega)]
      · rw [if_neg hj, if_neg (by omega)]
theorem words_bothTo {a b : List Nat} (ha : Words a) (k : Nat) : Words (bothTo a b k) := by
  induction k with
  | zero => exact ha
  | succ k ih =>
    intro x hx
    rcases List.mem_or_eq_of_mem_set hx with hx | rfl
    · exact ih x hx
    · exact Nat.lt_of_le_of_lt Nat.and_le_left (ha.at_ k)
theorem tb_both (a b : List Nat) (i : Nat) (hl : a.length = b.length) : tb (bothTo a b a.length) i = (tb a i && tb b i) := by
  unfold tb
  rw [bothTo_at]
  by_cases hj : i / 64 < a.length
  · rw [if_pos ⟨hj, hj⟩, Nat.testBit_and]
  · rw [if_neg (by omega), List.getD_eq_getElem?_getD, List.getElem?_eq_none (by omega)]
    simp
theorem and_form (x y : Nat) (hx : x < W64) (hy : y < W64) : bits .and .u64 (x : Int) (y : Int) = ((x &&& y : Nat) : Int) := by
  unfold W64 at hx hy
  exact u64_and_nat x y hx hy
end Go.Proofs.YtggaijdbaplfiaaGreatDoor

/- Contracts: bits are counted. -/
namespace Go.Proofs.YtggaijdbaplfiaaGreatDoor
open Go.RowKit
set_option linter.unusedVariables false
set_option linter.unusedSimpArgs false

section
variable {n : Int} {A : Option Addr} {ws : List Nat} {w : World} (cap : Nat)
/-- what First and Run answer: as P says -/
def Told (P : Int → Int → Prop) (e : Ending) : Prop := ∃ i why : Int, e = .returned (.tuple #[.int .i64 i, .int .i64 why]) ∧ P i why
def NoneTo (ws : List Nat) (v : Bool) (a k : Int) : Prop := ∀ j : Nat, a ≤ j → (j : Int) < k → tb ws j ≠ v
variable (a : Int) (v : Bool)
end
end Go.Proofs.YtggaijdbaplfiaaGreatDoor

/- Contracts: a run of bits that are 0 is searched. -/
namespace Go.Proofs.YtggaijdbaplfiaaGreatDoor
open Go.RowKit
set_option linter.unusedVariables false
set_option linter.unusedSimpArgs false

def NotTo (ws : List Nat) (c : Int) (k : Nat) : Prop := ∀ j : Nat, j ≤ k → (zs ws j : Int) ≠ c
theorem notTo_zero {ws : List Nat} {c : Int} (h : 1 ≤ c) : NotTo ws c 0 := fun j g => by
  obtain rfl : j = 0 := by omega
  show (0 : Int) ≠ c
  omega
section
variable {n : Int} {A : Option Addr} {ws : List Nat} {w : World} (cap : Nat) (c : Int)
end
end Go.Proofs.YtggaijdbaplfiaaGreatDoor

/- Contracts: what two have in common. -/
namespace Go.Proofs.YtggaijdbaplfiaaGreatDoor
open Go.RowKit
set_option linter.unusedVariables false
set_option linter.unusedSimpArgs false

theorem Two.new1 (w : World) (o : Obj) (v0 v1 : Value) (t : TypeId) : Two ((w.alloc o).alloc (.cells #[v0, v1] t)) (w.heap.size + 1) v0 v1 := by
  have h := Two.new (w.alloc o) v0 v1 t
  rwa [World.size_alloc] at h
theorem Two.new2 (w : World) (o o' : Obj) (v0 v1 : Value) (t : TypeId) : Two (((w.alloc o).alloc o').alloc (.cells #[v0, v1] t)) (w.heap.size + 2) v0 v1 := by
  have h := Two.new1 (w.alloc o) o' v0 v1 t
  rwa [World.size_alloc] at h

section
variable {n m : Int} {A C : Option Addr} {ws us : List Nat} {w : World} (cap cap' : Nat)
theorem right_same {n : Int} {ws us : List Nat} (h : Right n ws) (h' : Right n us) : ws.length = us.length := by rw [h.2.2.1, h'.2.2.1]
end
end Go.Proofs.YtggaijdbaplfiaaGreatDoor

/- Contracts: what two have in common, as the document's own answers say. -/
namespace Go.Proofs.YtggaijdbaplfiaaGreatDoor
open Go.RowKit
set_option linter.unusedVariables false
set_option linter.unusedSimpArgs false

section
variable {n m : Int} {A C : Option Addr} {ws us : List Nat} {w : World} (cap cap' : Nat)
end
end Go.Proofs.YtggaijdbaplfiaaGreatDoor

/- Contracts: the questions whose answers the document gives (puts). -/
namespace Go.Proofs.YtggaijdbaplfiaaGreatDoor
open Go.RowKit
set_option linter.unusedVariables false
set_option linter.unusedSimpArgs false

theorem tb_zeros (k i : Nat) : tb (List.replicate k 0) i = false := by
  unfold tb
  have : (List.replicate k 0).getD (i / 64) 0 = 0 := by
    rw [List.getD_eq_getElem?_getD, List.getElem?_replicate]
    split <;> rfl
  rw [this, Nat.zero_testBit]
theorem right_wordsN (n : Int) (h0 : 0 ≤ n) (h1 : n ≤ 4096) : Right n (wordsN n) :=
  ⟨h0, h1, by unfold wordsN; rw [List.length_replicate]; omega, fun i _ _ => tb_zeros _ _⟩

/-- bits that are named: some words, of which a fact is kept -/
def Got (w : World) (n : Int) (ws : List Nat) (why : Int) (e : Ending) (w' : World) : Prop :=
  ∃ us A cap, Hid (us = ws) ∧ e = .returned (.tuple #[.agg #[.int .i64 n, .slice A us.length cap], .int .i64 why]) ∧ Own w' w.heap.size A us ∧ Below w.heap.size w w'
theorem Fresh.got {w : World} {n : Int} {ws vs : List Nat} {why : Int} {e : Ending} {w' : World} (h : Fresh w n ws why e w') (hv : ws = vs) : Got w n vs why e w' := by
  obtain ⟨A, cap, h1, h2, h3⟩ := h
  exact ⟨ws, A, cap, hv, h1, h2, h3⟩

theorem right70 : Right 70 [0, 0] := right_wordsN 70 (by omega) (by omega)
theorem right70' : Right 70 [0, 32] := right_putW right70 69 true (by omega)
theorem right70'' : Right 70 [6, 32] := right_fillW right70' 1 2 true (by omega)
theorem length70 {us : List Nat} {a b : Nat} (h : us = [a, b]) : us.length = 2 := by rw [h]; rfl

end Go.Proofs.YtggaijdbaplfiaaGreatDoor

/- The program and the document's own answers agree, call by call. -/
namespace Go.Proofs.YtggaijdbaplfiaaGreatDoor
open Go.RowKit
set_option linter.unusedVariables false
set_option linter.unusedSimpArgs false

theorem first_ex (ws : List Nat) (v : Bool) (a : Nat) (m : Nat) : ∃ i why, FirstP ws v a (a + m) i why := by
  induction m with
  | zero => exact ⟨0, 3, .inr ⟨rfl, rfl, fun j g1 g2 => by omega⟩⟩
  | succ m ih =>
    obtain ⟨i, why, h⟩ := ih
    rcases h with ⟨rfl, h1, h2, h3, h4⟩ | ⟨rfl, rfl, h4⟩
    · exact ⟨i, 0, .inl ⟨rfl, h1, by omega, h3, h4⟩⟩
    · by_cases hb : tb ws (a + m) = v
      · exact ⟨(a + m : Nat), 0, .inl ⟨rfl, by omega, by omega, by rw [Int.toNat_natCast]; exact hb, fun j g1 g2 => h4 j g1 (by omega)⟩⟩
      · refine ⟨0, 3, .inr ⟨rfl, rfl, fun j g1 g2 => ?_⟩⟩
        by_cases e : j = a + m
        · rw [e]; exact hb
        · exact h4 j g1 (by omega)
theorem Told.is {P : Int → Int → Prop} {i why : Int} (hu : ∀ i' why', P i' why' → i' = i ∧ why' = why) {e : Ending} (h : Told P e) : e = .returned (.tuple #[.int .i64 i, .int .i64 why]) := by
  obtain ⟨i', why', he, hp⟩ := h
  obtain ⟨rfl, rfl⟩ := hu _ _ hp
  exact he
theorem run_ex (ws : List Nat) (c : Int) (h1 : 1 ≤ c) (m : Nat) : ∃ i why, RunP ws c m i why := by
  induction m with
  | zero => exact ⟨0, 3, .inr ⟨rfl, rfl, fun j g => by
      obtain rfl : j = 0 := by omega
      show (0 : Int) ≠ c
      omega⟩⟩
  | succ m ih =>
    obtain ⟨i, why, h⟩ := ih
    rcases h with ⟨rfl, k, g1, g2, g3, rfl⟩ | ⟨rfl, rfl, h4⟩
    · exact ⟨_, 0, .inl ⟨rfl, k, by omega, g2, g3, rfl⟩⟩
    · by_cases hb : (zs ws (m + 1) : Int) = c
      · exact ⟨_, 0, .inl ⟨rfl, m, by omega, hb, fun j g => h4 j (by omega), rfl⟩⟩
      · refine ⟨0, 3, .inr ⟨rfl, rfl, fun j g => ?_⟩⟩
        by_cases e : j = m + 1
        · rw [e]; exact hb
        · exact h4 j (by omega)
end Go.Proofs.YtggaijdbaplfiaaGreatDoor

/- Rows of integers that lie in memory, and rows of them that a call has made for itself. -/
namespace Go.Proofs.YtggaijdbaplfiaaGreatDoor
open Go.RowKit
set_option linter.unusedVariables false
set_option linter.unusedSimpArgs false

def I63 (x : Int) : Prop := -9223372036854775808 ≤ x ∧ x ≤ 9223372036854775807
/-- the slice at A holds the integers xs, in a block ahead of B -/
structure IRow (w : World) (B : Nat) (A : Option Addr) (xs : List Int) : Prop where
  in_ : ∀ x ∈ xs, I63 x
  at_ : 0 < xs.length → ∃ b off, A = some ⟨b, off, none⟩ ∧ b < B ∧ ∀ i, i < xs.length → w.cell? ⟨b, off + i, none⟩ = some (.int .i64 (xs.getD i 0))
theorem IRow.keep {w w' : World} {B : Nat} {A : Option Addr} {xs : List Int} (h : IRow w B A xs) (hk : ∀ b o, b < B → w'.cell? ⟨b, o, none⟩ = w.cell? ⟨b, o, none⟩) : IRow w' B A xs :=
  ⟨h.in_, fun hl => by
    obtain ⟨b, off, e, hb, hc⟩ := h.at_ hl
    exact ⟨b, off, e, hb, fun i hi => (hk _ _ hb).trans (hc i hi)⟩⟩
theorem IRow.more {w : World} {B B' : Nat} {A : Option Addr} {xs : List Int} (h : IRow w B A xs) (hB : B ≤ B') : IRow w B' A xs :=
  ⟨h.in_, fun hl => by
    obtain ⟨b, off, e, hb, hc⟩ := h.at_ hl
    exact ⟨b, off, e, by omega, hc⟩⟩
theorem IRow.later {w w' : World} {A : Option Addr} {xs : List Int} (h : IRow w w.heap.size A xs) (hb : Below w.heap.size w w') : IRow w' w'.heap.size A xs :=
  (h.keep fun b o hlt => hb.cell (p := ⟨b, o, none⟩) hlt).more hb.size
theorem IRow.nil (w : World) (B : Nat) (A : Option Addr) : IRow w B A [] := ⟨fun x hx => by simp at hx, fun h => by simp at h⟩
theorem IRow.get {w : World} {B : Nat} {A : Option Addr} {xs : List Int} (h : IRow w B A xs) (i : Nat) : I63 (xs.getD i 0) := by
  by_cases hi : i < xs.length
  · rw [List.getD_eq_getElem?_getD, List.getElem?_eq_getElem hi]
    exact h.in_ _ (List.getElem_mem hi)
  · rw [List.getD_eq_getElem?_getD, List.getElem?_eq_none (by omega)]
    unfold I63; simp
def ivals (xs : List Int) : List Value := xs.map fun (x : Int) => Value.int .i64 x
theorem length_ivals (xs : List Int) : (ivals xs).length = xs.length := by simp [ivals]
theorem ivals_at (xs : List Int) (i : Nat) (h : i < xs.length) : (ivals xs)[i]? = some (.int .i64 (xs.getD i 0)) := by
  simp [ivals, h]
theorem ivals_one (xs : List Int) : ∀ v ∈ ivals xs, v.oneCell' = true := by
  intro v hv
  simp only [ivals, List.mem_map] at hv
  obtain ⟨x, _, rfl⟩ := hv
  rfl
theorem IRow.src {w w' : World} {b off : Nat} {xs : List Int} (h : IRow w w.heap.size (some ⟨b, off, none⟩) xs) (hb : Below w.heap.size w w') (j : Nat) (v : Value) (hv : (ivals xs)[j]? = some v) : w'.cell? ((⟨b, off, none⟩ : Addr).add j) = some v := by
  have hj : j < xs.length := by
    have := (List.getElem?_eq_some_iff.1 hv).1
    rwa [length_ivals] at this
  obtain ⟨b', off', e, _, hc⟩ := (h.later hb).at_ (by omega)
  injection e with e
  injection e with e1 e2
  subst e1 e2
  rw [ivals_at xs j hj] at hv
  injection hv with hv
  subst hv
  rw [add_form]
  exact hc j hj
theorem info_int : (Tryz.prog.info? 3).map (fun i => (i.zero, i.size, i.bytes)) = some (some (.int .i64 0), 1, 8) := by kernel_rfl
/-- a row of a call's own -/
theorem IRow.of_owns {w : World} {B g cap : Nat} {xs : List Int} (h : w.ownsRow B 3 1 (.slice (some ⟨g, 0, none⟩) xs.length cap) xs.length (ivals xs)) (hw : ∀ x ∈ xs, I63 x) : IRow w w.heap.size (some ⟨g, 0, none⟩) xs :=
  ⟨hw, fun hl => ⟨g, 0, rfl, (h.lt g rfl).2, fun i hi => by rw [Nat.zero_add, h.cellAt i (by omega), ivals_at xs i hi]⟩⟩
theorem own_empty_int (w w' : World) (h : w'.heap = (w.alloc (.cells #[] 3)).heap) : w'.ownsRow w.heap.size 3 1 (.slice (some ⟨w.heap.size, 0, none⟩) 0 0) 0 [] :=
  ⟨rfl, .inr ⟨w.heap.size, 0, #[], rfl, Nat.le_refl _, by rw [h]; exact heap_alloc_new _ _, Nat.le_refl _, Nat.zero_le _, rfl, rfl⟩⟩
theorem ibase_of_owns {w : World} {B t s n cap g : Nat} {xs : List Value} (h : w.ownsRow B t s (.slice (some ⟨g, 0, none⟩) n cap) n xs) : B ≤ g := by
  obtain ⟨_, ⟨h1, h2⟩ | ⟨g', cap', cur, e, h2, _, h3, _⟩⟩ := h
  · injection h1 with h1; cases h1
  · injection e with e1 e2 e3
    injection e1 with e1
    injection e1 with e1
    omega
theorem icap_of_owns {w : World} {B t s n cap g : Nat} {xs : List Value} (h : w.ownsRow B t s (.slice (some ⟨g, 0, none⟩) n cap) n xs) : n ≤ cap := by
  obtain ⟨_, ⟨h1, h2⟩ | ⟨g', cap', cur, e, _, _, h3, _⟩⟩ := h
  · injection h1 with h1; cases h1
  · injection e with e1 e2 e3
    omega
end Go.Proofs.YtggaijdbaplfiaaGreatDoor
