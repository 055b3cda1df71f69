/- AM1, in one text: J1, J2, As1, As0, As2, As3, As4, As5. -/
import Derived.Test.YtggaijdbaplfiaaGreatDoorMA
import Derived.Lib.AtoiAll
import Derived.Lib.ItoaNum
import Derived.Lib.Split
import Derived.Lib.SplitLaws
import Derived.Lib.CutLaws
import Derived.Lib.ParseIntB
import Derived.Lib.Join
import Derived.Lib.SlicesCompact
import Derived.Deep.RegionLaw
import Derived.Deep.RegionHeld3
import Derived.Deep.AppendLies
import Derived.Deep.AppendSrc
import Derived.Lib.AppendZerosOnto
import Derived.LoopTactic
import Derived.Lib.AppendIntMem
import Derived.Lib.LaidTab
import Derived.Deep.MidRow
/- Plain facts of shapes and of their words; contracts of package head's leaves and of the document's own. -/
namespace Go.Proofs.YtggaijdbaplfiaaGreatDoor
open Go.RowKit
set_option linter.unusedVariables false
set_option linter.unusedSimpArgs false

/-- when a shape is right -/
def Sh (n : Int) (m : Nat) : Prop := 0 ≤ n ∧ n ≤ 48 ∧ m / 2 ^ n.toNat = 0
instance (n : Int) (m : Nat) : Decidable (Sh n m) := inferInstanceAs (Decidable (_ ∧ _))
/-- its word -/
def pk (n : Int) (m : Nat) : Nat := 165 * 72057594037927936 + m * 256 + n.toNat
theorem Sh.lt {n : Int} {m : Nat} (h : Sh n m) : m < 281474976710656 := by
  obtain ⟨h0, h1, h2⟩ := h
  have hp : m < 2 ^ n.toNat := by
    have := Nat.div_eq_zero_iff.1 h2
    rcases this with h | h
    · exact absurd h (Nat.pos_iff_ne_zero.1 (Nat.two_pow_pos _))
    · exact h
  exact Nat.lt_of_lt_of_le hp (show 2 ^ n.toNat ≤ 2 ^ 48 from Nat.pow_le_pow_right (by omega) (by omega))
theorem Sh.bit {n : Int} {m : Nat} (h : Sh n m) (i : Nat) (hi : n.toNat ≤ i) : m.testBit i = false := by
  obtain ⟨h0, h1, h2⟩ := h
  have e : i = n.toNat + (i - n.toNat) := by omega
  rw [e, ← Nat.testBit_shiftRight, Nat.shiftRight_eq_div_pow, h2, Nat.zero_testBit]
theorem sh_of_bits {n : Int} {m : Nat} (hm : m < W64) (h0 : 0 ≤ n) (h1 : n ≤ 48) (h : ∀ i, n.toNat ≤ i → i < 64 → m.testBit i = false) : Sh n m := by
  refine ⟨h0, h1, ?_⟩
  rw [← Nat.shiftRight_eq_div_pow]
  apply Nat.eq_of_testBit_eq
  intro j
  rw [Nat.testBit_shiftRight, Nat.zero_testBit]
  by_cases hj : n.toNat + j < 64
  · exact h _ (by omega) hj
  · exact Nat.testBit_lt_two_pow (Nat.lt_of_lt_of_le hm (by rw [W64_eq]; exact Nat.pow_le_pow_right (by omega) (by omega)))
theorem Sh.more {n : Int} {m : Nat} (h : Sh n m) (h1 : n + 1 ≤ 48) : Sh (n + 1) m :=
  sh_of_bits (Nat.lt_of_lt_of_le h.lt (by decide)) (by have := h.1; omega) h1 fun i hi _ => h.bit i (by omega)
theorem or_apart (a b k : Nat) (h : b < 2 ^ k) : (a * 2 ^ k) ||| b = a * 2 ^ k + b := by
  rw [Nat.mul_comm, ← Nat.two_pow_add_eq_or_of_lt h]
theorem pk_or (n : Int) (m : Nat) (h : Sh n m) : (11889503016258109440 ||| m * 256) ||| n.toNat = pk n m := by
  have hm := h.lt
  have h1 := h.2.1
  have e1 : 11889503016258109440 ||| m * 256 = 11889503016258109440 + m * 256 := or_apart 165 (m * 256) 56 (by omega)
  have e2 : 11889503016258109440 + m * 256 = (165 * 281474976710656 + m) * 2 ^ 8 := by omega
  have h8 : n.toNat < 2 ^ 8 := by omega
  rw [e1, e2, or_apart _ _ 8 h8]
  unfold pk
  omega
theorem pk_lt (n : Int) (m : Nat) (h : Sh n m) : pk n m < W64 := by
  have hm := h.lt
  have h1 := h.2.1
  unfold pk W64
  omega
theorem pk_inj {n n' : Int} {m m' : Nat} (h : Sh n m) (h' : Sh n' m') (he : pk n m = pk n' m') : n = n' ∧ m = m' := by
  have a := h.1; have b := h.2.1; have a' := h'.1; have b' := h'.2.1
  unfold pk at he
  omega
theorem pk_form {n : Int} {m : Nat} (h : Sh n m) : Go.bits .or .u64 (Go.bits .or .u64 11889503016258109440 ((m : Int) * 256)) n = ((pk n m : Nat) : Int) := by
  have hm := h.lt
  have h0 := h.1
  have h1 := h.2.1
  obtain ⟨k, rfl⟩ : ∃ k : Nat, n = k := ⟨n.toNat, by omega⟩
  have e1 : (11889503016258109440 : Int) = ((11889503016258109440 : Nat) : Int) := rfl
  have e2 : (m : Int) * 256 = ((m * 256 : Nat) : Int) := by omega
  have e := pk_or _ m h
  rw [Int.toNat_natCast] at e
  rw [e1, e2, u64_or_nat _ _ (by decide) (by omega), u64_or_nat _ _ (Nat.or_lt_two_pow (n := 64) (by decide) (by omega)) (by omega), e]
theorem holds_form (m k : Nat) (hm : m < W64) : (Go.bits .and .u64 ((m : Int) / 2 ^ k) 1 != 0) = m.testBit k := by
  have e : (m : Int) / 2 ^ k = ((m / 2 ^ k : Nat) : Int) := by simp
  have e1 : (1 : Int) = ((1 : Nat) : Int) := rfl
  have hl : m / 2 ^ k < 18446744073709551616 := Nat.lt_of_le_of_lt (Nat.div_le_self _ _) hm
  rw [e, e1, u64_and_nat _ _ hl (by decide), Nat.and_one_is_mod, Nat.testBit_eq_decide_div_mod_eq]
  generalize m / 2 ^ k = y
  rw [Bool.eq_iff_iff]
  simp only [bne_iff_ne, decide_eq_true_eq]
  omega
/-- what a word is taken as -/
def uN (w : Nat) : Int := ((w % 256 : Nat) : Int)
def uM (w : Nat) : Nat := w / 256 % 281474976710656
def Un (w : Nat) : Prop := w / 72057594037927936 = 165 ∧ Sh (uN w) (uM w)
instance (w : Nat) : Decidable (Un w) := inferInstanceAs (Decidable (_ ∧ _))
theorem un_pk {n : Int} {m : Nat} (h : Sh n m) : uN (pk n m) = n ∧ uM (pk n m) = m ∧ Un (pk n m) := by
  have hm := h.lt
  have a := h.1; have b := h.2.1
  have e1 : uN (pk n m) = n := by unfold uN pk; omega
  have e2 : uM (pk n m) = m := by unfold uM pk; omega
  refine ⟨e1, e2, ?_, ?_⟩
  · unfold pk; omega
  · rw [e1, e2]; exact h
theorem pk_un {w : Nat} (hw : w < W64) (h : Un w) : pk (uN w) (uM w) = w := by
  obtain ⟨h1, _⟩ := h
  unfold W64 at hw
  unfold pk uN uM
  omega
theorem un_iff {w : Nat} (hw : w < W64) : Un w ↔ (Sh (uN w) (uM w) ∧ pk (uN w) (uM w) = w) := by
  constructor
  · intro h; exact ⟨h.2, pk_un hw h⟩
  · rintro ⟨h, he⟩
    have := (un_pk h).2.2
    rwa [he] at this
/-- a shape that lies in block g -/
structure Sp (w : World) (g : Nat) (n : Int) (m : Nat) : Prop where
  c0 : w.cell? ⟨g, 0, none⟩ = some (.int .i64 n)
  c1 : w.cell? ⟨g, 1, none⟩ = some (.int .u64 (m : Nat))
theorem Sp.lt {w : World} {g : Nat} {n : Int} {m : Nat} (h : Sp w g n m) : g < w.heap.size := World.block_lt_of_cell? w _ h.c0
theorem Sp.below {w w' : World} {B g : Nat} {n : Int} {m : Nat} (h : Sp w g n m) (hb : Below B w w') (hg : g < B) : Sp w' g n m :=
  ⟨((bcell hb).1 _ _ hg).trans h.c0, ((bcell hb).1 _ _ hg).trans h.c1⟩
theorem Sp.later {w w' : World} {g : Nat} {n : Int} {m : Nat} (h : Sp w g n m) (hb : Below w.heap.size w w') : Sp w' g n m := h.below hb h.lt
theorem Sp.new (w : World) (n : Int) (m : Nat) (t : TypeId) : Sp (w.alloc (.cells #[.int .i64 n, .int .u64 (m : Nat)] t)) w.heap.size n m := by
  constructor <;> simp [go_sem]
/-- which fields of some are there; how many of the first k hold a reference -/
def AllF (n : Int) (xs : List Int) (k : Nat) : Prop := ∀ j, j < k → 0 ≤ xs.getD j 0 ∧ xs.getD j 0 < n
def cnt (m : Nat) (xs : List Int) : Nat → Nat
  | 0 => 0
  | k + 1 => cnt m xs k + if m.testBit (xs.getD k 0).toNat then 1 else 0
theorem cnt_le (m : Nat) (xs : List Int) (k : Nat) : cnt m xs k ≤ k := by
  induction k with
  | zero => exact Nat.le_refl _
  | succ k ih => rw [cnt]; split <;> omega
/-- the first field from 'a' on that holds a reference -/
def nx (m : Nat) (a : Nat) : Nat → Option Nat
  | 0 => none
  | k + 1 => if m.testBit a then some a else nx m (a + 1) k
end Go.Proofs.YtggaijdbaplfiaaGreatDoor

/- Contracts of package head and of the document's own answers for it. -/
namespace Go.Proofs.YtggaijdbaplfiaaGreatDoor
open Go.RowKit
set_option linter.unusedVariables false
set_option linter.unusedSimpArgs false

section
variable {n : Int} {m : Nat} {w : World}
theorem hcheck_ok (h : Sh n m) :
    Calls Tryz.prog 56 #[.agg #[.int .i64 n, .int .u64 (m : Nat)]] w fun e w' => e = .returned (.int .i64 0) ∧ Below w.heap.size w w' := by
  obtain ⟨h0, h1, h2⟩ := h
  have hd : decide (n < 0) = false := decide_eq_false (by omega)
  have hd2 : decide (48 < n) = false := decide_eq_false (by omega)
  have hd3 : (((m : Nat) : Int) / 2 ^ n.toNat != 0) = false := by rw [shr_form, Nat.shiftRight_eq_div_pow, h2]; rfl
  clear h2
  go_enter Tryz.func56, Tryz.ntmps56
  go_wp2
  go_ret
  exact ⟨rfl, (by repeat (first | exact Below.refl _ _ | assumption | (refine below_drewN ?_ _) | (refine Below.drew ?_) | (refine Below.alloc ?_ (by first | omega | (simp; omega) | simp) _) | (refine Below.setCell ?_ (by first | omega | (simp; omega) | simp) _) | (refine below_trans ?_ (by assumption) (by first | omega | (simp; omega) | simp))))⟩
theorem hcheck_bad (hm : m < W64) (h : ¬ Sh n m) :
    Calls Tryz.prog 56 #[.agg #[.int .i64 n, .int .u64 (m : Nat)]] w fun e w' => e = .returned (.int .i64 2) ∧ Below w.heap.size w w' := by
  by_cases h0 : n < 0
  · have hd : decide (n < 0) = true := decide_eq_true (by omega)
    clear h
    go_enter Tryz.func56, Tryz.ntmps56
    go_wp2
    go_ret
    exact ⟨rfl, (by repeat (first | exact Below.refl _ _ | assumption | (refine below_drewN ?_ _) | (refine Below.drew ?_) | (refine Below.alloc ?_ (by first | omega | (simp; omega) | simp) _) | (refine Below.setCell ?_ (by first | omega | (simp; omega) | simp) _) | (refine below_trans ?_ (by assumption) (by first | omega | (simp; omega) | simp))))⟩
  have hd : decide (n < 0) = false := decide_eq_false (by omega)
  by_cases h1 : 48 < n
  · have hd2 : decide (48 < n) = true := decide_eq_true (by omega)
    clear h
    go_enter Tryz.func56, Tryz.ntmps56
    go_wp2
    go_ret
    exact ⟨rfl, (by repeat (first | exact Below.refl _ _ | assumption | (refine below_drewN ?_ _) | (refine Below.drew ?_) | (refine Below.alloc ?_ (by first | omega | (simp; omega) | simp) _) | (refine Below.setCell ?_ (by first | omega | (simp; omega) | simp) _) | (refine below_trans ?_ (by assumption) (by first | omega | (simp; omega) | simp))))⟩
  have hd2 : decide (48 < n) = false := decide_eq_false (by omega)
  have hd3 : (((m : Nat) : Int) / 2 ^ n.toNat != 0) = true := by
    rw [shr_form, Nat.shiftRight_eq_div_pow, bne_iff_ne]
    intro hz
    exact h ⟨by omega, by omega, hz⟩
  clear h
  go_enter Tryz.func56, Tryz.ntmps56
  go_wp2
  go_ret
  exact ⟨rfl, (by repeat (first | exact Below.refl _ _ | assumption | (refine below_drewN ?_ _) | (refine Below.drew ?_) | (refine Below.alloc ?_ (by first | omega | (simp; omega) | simp) _) | (refine Below.setCell ?_ (by first | omega | (simp; omega) | simp) _) | (refine below_trans ?_ (by assumption) (by first | omega | (simp; omega) | simp))))⟩
theorem xis_any (f : Int) (h0 : 0 ≤ f) (h1 : f < 64) :
    Calls Tryz.prog 82 #[.agg #[.int .i64 n, .int .u64 (m : Nat)], .int .i64 f] w fun e w' => e = .returned (.bool (m.testBit f.toNat)) ∧ Below w.heap.size w w' := by
  have hd := is_form m f.toNat
  go_enter Tryz.func82, Tryz.ntmps82
  go_wp2
  go_ret
  exact ⟨rfl, (by repeat (first | exact Below.refl _ _ | assumption | (refine below_drewN ?_ _) | (refine Below.drew ?_) | (refine Below.alloc ?_ (by first | omega | (simp; omega) | simp) _) | (refine Below.setCell ?_ (by first | omega | (simp; omega) | simp) _) | (refine below_trans ?_ (by assumption) (by first | omega | (simp; omega) | simp))))⟩
theorem xcheck_ok (h : Sh n m) :
    Calls Tryz.prog 62 #[.agg #[.int .i64 n, .int .u64 (m : Nat)]] w fun e w' => e = .returned (.int .i64 0) ∧ Below w.heap.size w w' := by
  have hH := Lib.hid h
  obtain ⟨h0, h1, h2⟩ := h
  have hd : decide (n < 0) = false := decide_eq_false (by omega)
  have hd2 : decide (48 < n) = false := decide_eq_false (by omega)
  clear h2
  go_enter Tryz.func62, Tryz.ntmps62
  go_wp2
  go_loopw [3] (fun i wr => ∃ k : Int, i = .int .i64 k ∧ n ≤ k ∧ k ≤ 64 ∧ Sp wr w.heap.size n m ∧ Below w.heap.size w wr) (fun i _ => (64 - intOf i).toNat)
  case atStart => exact ⟨n, rfl, by omega, by omega, Sp.new _ _ _ _, (by repeat (first | exact Below.refl _ _ | assumption | (refine below_drewN ?_ _) | (refine Below.drew ?_) | (refine Below.alloc ?_ (by first | omega | (simp; omega) | simp) _) | (refine Below.setCell ?_ (by first | omega | (simp; omega) | simp) _) | (refine below_trans ?_ (by assumption) (by first | omega | (simp; omega) | simp))))⟩
  case round =>
    obtain ⟨k, rfl, hk, hk1, hs, hb_wr⟩ := hrel
    have hsr := hb_wr.size
    have hsl := hs.lt
    obtain ⟨c0, c1⟩ := id hs
    by_cases hlt : k < 64
    · have e : decide (k < 64) = true := decide_eq_true hlt
      go_wp2_with (go_at_call 82; refine (xis_any k (by omega) (by omega)).mono ?_; rintro e w1 ⟨rfl, hb_w1⟩; obtain ⟨hc_w1, hf_w1⟩ := bcell hb_w1; have hs_w1 := hb_w1.size; (try simp only [World.size_alloc, World.size_setCell, World.size_drew, World.heap_drewN] at hs_w1); rw [hH.out.bit k.toNat (by omega)])
      go_roundw
      case rel => exact ⟨k + 1, by go_num, by omega, by omega, hs.later hb_w1, (by repeat (first | exact Below.refl _ _ | assumption | (refine below_drewN ?_ _) | (refine Below.drew ?_) | (refine Below.alloc ?_ (by first | omega | (simp; omega) | simp) _) | (refine Below.setCell ?_ (by first | omega | (simp; omega) | simp) _) | (refine below_trans ?_ (by assumption) (by first | omega | (simp; omega) | simp))))⟩
      case measure => simp [intOf]; omega
    · have e : decide (k < 64) = false := decide_eq_false hlt
      go_wp2
      go_ret
      exact ⟨rfl, (by repeat (first | exact Below.refl _ _ | assumption | (refine below_drewN ?_ _) | (refine Below.drew ?_) | (refine Below.alloc ?_ (by first | omega | (simp; omega) | simp) _) | (refine Below.setCell ?_ (by first | omega | (simp; omega) | simp) _) | (refine below_trans ?_ (by assumption) (by first | omega | (simp; omega) | simp))))⟩
theorem xcheck_bad (hm : m < W64) (h : ¬ Sh n m) :
    Calls Tryz.prog 62 #[.agg #[.int .i64 n, .int .u64 (m : Nat)]] w fun e w' => e = .returned (.int .i64 2) ∧ Below w.heap.size w w' := by
  have hH := Lib.hid h
  clear h
  by_cases h0 : n < 0
  · have hd : decide (n < 0) = true := decide_eq_true (by omega)
    go_enter Tryz.func62, Tryz.ntmps62
    go_wp2
    go_ret
    exact ⟨rfl, (by repeat (first | exact Below.refl _ _ | assumption | (refine below_drewN ?_ _) | (refine Below.drew ?_) | (refine Below.alloc ?_ (by first | omega | (simp; omega) | simp) _) | (refine Below.setCell ?_ (by first | omega | (simp; omega) | simp) _) | (refine below_trans ?_ (by assumption) (by first | omega | (simp; omega) | simp))))⟩
  have hd : decide (n < 0) = false := decide_eq_false (by omega)
  by_cases h1 : 48 < n
  · have hd2 : decide (48 < n) = true := decide_eq_true (by omega)
    go_enter Tryz.func62, Tryz.ntmps62
    go_wp2
    go_ret
    exact ⟨rfl, (by repeat (first | exact Below.refl _ _ | assumption | (refine below_drewN ?_ _) | (refine Below.drew ?_) | (refine Below.alloc ?_ (by first | omega | (simp; omega) | simp) _) | (refine Below.setCell ?_ (by first | omega | (simp; omega) | simp) _) | (refine below_trans ?_ (by assumption) (by first | omega | (simp; omega) | simp))))⟩
  have hd2 : decide (48 < n) = false := decide_eq_false (by omega)
  go_enter Tryz.func62, Tryz.ntmps62
  go_wp2
  go_loopw [3] (fun i wr => ∃ k : Int, i = .int .i64 k ∧ n ≤ k ∧ k ≤ 64 ∧ (∀ j : Nat, n.toNat ≤ j → (j : Int) < k → m.testBit j = false) ∧ Sp wr w.heap.size n m ∧ Below w.heap.size w wr) (fun i _ => (64 - intOf i).toNat)
  case atStart => exact ⟨n, rfl, by omega, by omega, fun j _ _ => by omega, Sp.new _ _ _ _, (by repeat (first | exact Below.refl _ _ | assumption | (refine below_drewN ?_ _) | (refine Below.drew ?_) | (refine Below.alloc ?_ (by first | omega | (simp; omega) | simp) _) | (refine Below.setCell ?_ (by first | omega | (simp; omega) | simp) _) | (refine below_trans ?_ (by assumption) (by first | omega | (simp; omega) | simp))))⟩
  case round =>
    obtain ⟨k, rfl, hk, hk1, hb0, hs, hb_wr⟩ := hrel
    have hsr := hb_wr.size
    have hsl := hs.lt
    obtain ⟨c0, c1⟩ := id hs
    have HB := Lib.hid hb0
    clear hb0
    by_cases hlt : k < 64
    · have e : decide (k < 64) = true := decide_eq_true hlt
      rcases hbit : m.testBit k.toNat with _ | _
      · go_wp2_with (go_at_call 82; refine (xis_any k (by omega) (by omega)).mono ?_; rintro e w1 ⟨rfl, hb_w1⟩; obtain ⟨hc_w1, hf_w1⟩ := bcell hb_w1; have hs_w1 := hb_w1.size; (try simp only [World.size_alloc, World.size_setCell, World.size_drew, World.heap_drewN] at hs_w1); rw [hbit])
        go_roundw
        case rel => exact ⟨k + 1, by go_num, by omega, by omega, fun j j0 j1 => by
            by_cases ej : (j : Int) = k
            · rw [show j = k.toNat by omega]; exact hbit
            · exact HB.out j j0 (by omega), hs.later hb_w1, (by repeat (first | exact Below.refl _ _ | assumption | (refine below_drewN ?_ _) | (refine Below.drew ?_) | (refine Below.alloc ?_ (by first | omega | (simp; omega) | simp) _) | (refine Below.setCell ?_ (by first | omega | (simp; omega) | simp) _) | (refine below_trans ?_ (by assumption) (by first | omega | (simp; omega) | simp))))⟩
        case measure => simp [intOf]; omega
      · go_wp2_with (go_at_call 82; refine (xis_any k (by omega) (by omega)).mono ?_; rintro e w1 ⟨rfl, hb_w1⟩; obtain ⟨hc_w1, hf_w1⟩ := bcell hb_w1; have hs_w1 := hb_w1.size; (try simp only [World.size_alloc, World.size_setCell, World.size_drew, World.heap_drewN] at hs_w1); rw [hbit])
        go_ret
        exact ⟨rfl, (by repeat (first | exact Below.refl _ _ | assumption | (refine below_drewN ?_ _) | (refine Below.drew ?_) | (refine Below.alloc ?_ (by first | omega | (simp; omega) | simp) _) | (refine Below.setCell ?_ (by first | omega | (simp; omega) | simp) _) | (refine below_trans ?_ (by assumption) (by first | omega | (simp; omega) | simp))))⟩
    · exact absurd (sh_of_bits hm (by omega) (by omega) fun j j0 j1 => HB.out j j0 (by omega)) hH.out
end
end Go.Proofs.YtggaijdbaplfiaaGreatDoor

/- Plain facts of text: digits, words between one byte: no program is named here. -/
namespace Go.Proofs.YtggaijdbaplfiaaGreatDoor
open Go
set_option linter.unusedVariables false
set_option linter.unusedSimpArgs false

def digF : Nat → Nat → List UInt8
  | 0, _ => []
  | f + 1, u => if u < 10 then [UInt8.ofNat (48 + u)] else digF f (u / 10) ++ [UInt8.ofNat (48 + u % 10)]
/-- the digits of a number -/
def digs (u : Nat) : List UInt8 := digF 20 u
theorem digF_eq : ∀ (f u : Nat), 1 ≤ f → u < 10 ^ f → Lib.decDigits u = digF f u
  | 0, u, h, _ => by omega
  | f + 1, u, _, h => by
    rw [Lib.decDigits, digF]
    by_cases hu : u < 10
    · rw [dif_pos hu, if_pos hu]
    · rw [dif_neg hu, if_neg hu]
      rw [Nat.pow_succ] at h
      have hf : 1 ≤ f := by
        rcases Nat.eq_zero_or_pos f with rfl | h1
        · simp at h; omega
        · exact h1
      rw [digF_eq f (u / 10) hf (by omega)]
theorem digs_eq (u : Nat) (h : u < 18446744073709551616) : Lib.decDigits u = digs u := digF_eq 20 u (by omega) (Nat.lt_trans h (by decide))
theorem itoa_eq (n : Int) (h0 : 0 ≤ n) (h : n < 18446744073709551616) : Lib.itoa n = digs n.toNat := by
  unfold Lib.itoa
  rw [if_neg (by omega), digs_eq _ (by omega)]
theorem digF_range : ∀ (f u : Nat) (c : UInt8), c ∈ digF f u → 48 ≤ c.toNat ∧ c.toNat ≤ 57
  | 0, u, c, h => by simp [digF] at h
  | f + 1, u, c, h => by
    rw [digF] at h
    split at h
    · rename_i hu
      rw [List.mem_singleton] at h
      subst h
      simp
      omega
    · rw [List.mem_append, List.mem_singleton] at h
      rcases h with h | rfl
      · exact digF_range f _ c h
      · simp
        omega
theorem digF_len : ∀ (f u : Nat), (digF f u).length ≤ f
  | 0, u => by simp [digF]
  | f + 1, u => by
    rw [digF]
    split
    · simp
    · have := digF_len f (u / 10)
      simp
      omega
theorem occ_one (s : List UInt8) (c : UInt8) (i : Nat) : Lib.occAt s [c] i = decide (s[i]? = some c) := by
  unfold Lib.occAt
  rw [Bool.eq_iff_iff]
  rw [decide_eq_true_eq, List.getElem?_eq_some_iff]
  cases hd : s.drop i with
  | nil =>
    have : s.length ≤ i := by simpa using hd
    simp
    omega
  | cons x t =>
    have hl : i < s.length := by
      have := congrArg List.length hd
      simp at this
      omega
    have hx : s[i] = x := by
      have := congrArg (fun l => l[0]?) hd
      simpa [hl] using this
    simp [hl, hx]
    exact ⟨Eq.symm, Eq.symm⟩
theorem index_one_hit (a r : List UInt8) (c : UInt8) (h : c ∉ a) : Lib.index (a ++ c :: r) [c] = (a.length : Int) := by
  refine Lib.index_first (by simp) ?_ ?_
  · rw [occ_one]; simp
  · intro j hj
    rw [occ_one, decide_eq_false_iff_not, List.getElem?_append_left hj, List.getElem?_eq_getElem hj]
    intro e
    injection e with e
    exact h (e ▸ List.getElem_mem hj)
theorem index_one_miss (a : List UInt8) (c : UInt8) (h : c ∉ a) : Lib.index a [c] = -1 := by
  refine Lib.index_none fun j hj => ?_
  rw [occ_one, decide_eq_false_iff_not]
  intro e
  exact h (List.mem_of_getElem? e)
theorem split_miss (a : List UInt8) (c : UInt8) (h : c ∉ a) : Lib.split a [c] = [a] := by
  unfold Lib.split
  rw [Lib.count_miss (index_one_miss a c h)]
  rfl
theorem split_hit (a r : List UInt8) (c : UInt8) (h : c ∉ a) : Lib.split (a ++ c :: r) [c] = a :: Lib.split r [c] := by
  have hi := index_one_hit a r c h
  unfold Lib.split
  rw [Lib.count_hit (by simp) hi, Nat.add_comm, Lib.splitK, if_neg (by rw [hi, beq_iff_eq]; omega), hi]
  simp [List.take_left', List.drop_left']
end Go.Proofs.YtggaijdbaplfiaaGreatDoor

/- Plain facts of instructions and their text: no program is named here. -/
namespace Go.Proofs.YtggaijdbaplfiaaGreatDoor
open Go
set_option linter.unusedVariables false
set_option linter.unusedSimpArgs false

/-- an instruction: its kind; its operation's kind, registers, field, shape's number and mask, number; its registers; where it goes -/
structure In where
  kd : Int
  op : Int
  oa : Int
  ob : Int
  fd : Int
  n : Int
  m : Nat
  w : Nat
  a : Int
  b : Int
  to : Int
theorem In.ext_iff11 (x y : In) : x = y ↔ x.kd = y.kd ∧ x.op = y.op ∧ x.oa = y.oa ∧ x.ob = y.ob ∧ x.fd = y.fd ∧ x.n = y.n ∧ x.m = y.m ∧ x.w = y.w ∧ x.a = y.a ∧ x.b = y.b ∧ x.to = y.to := by
  constructor
  · rintro rfl; exact ⟨rfl, rfl, rfl, rfl, rfl, rfl, rfl, rfl, rfl, rfl, rfl⟩
  · obtain ⟨a1, a2, a3, a4, a5, a6, a7, a8, a9, a10, a11⟩ := x
    obtain ⟨b1, b2, b3, b4, b5, b6, b7, b8, b9, b10, b11⟩ := y
    rintro ⟨h1, h2, h3, h4, h5, h6, h7, h8, h9, h10, h11⟩
    simp only at h1 h2 h3 h4 h5 h6 h7 h8 h9 h10 h11
    subst h1 h2 h3 h4 h5 h6 h7 h8 h9 h10 h11
    rfl
instance : DecidableEq In := fun x y => decidable_of_iff _ (In.ext_iff11 x y).symm
def in0 : In := ⟨0, 0, 0, 0, 0, 0, 0, 0, 0, 0, 0⟩
instance : Inhabited In := ⟨in0⟩
/-- a line's form: its name, the kinds, what words it has: 1 2 registers of the operation, 3 field, 4 5 shape, 6 number, 7 8 registers, 9 a label -/
structure Fm where
  nm : List UInt8
  kd : Int
  op : Int
  os : List Nat
def fm0 : Fm := ⟨[], 0, 0, []⟩
instance : Inhabited Fm := ⟨fm0⟩
def fms : List Fm := [
  ⟨[110, 101, 119], 1, 1, [1, 4, 5]⟩,
  ⟨[108, 111, 97, 100], 1, 2, [1, 2, 3]⟩,
  ⟨[115, 116, 111, 114, 101], 1, 3, [1, 2, 3]⟩,
  ⟨[109, 111, 118, 101], 1, 4, [1, 2]⟩,
  ⟨[99, 111, 110, 115, 116], 1, 5, [1, 6]⟩,
  ⟨[110, 105, 108], 1, 6, [1]⟩,
  ⟨[119, 101, 97, 107], 1, 7, [1, 2]⟩,
  ⟨[117, 112], 1, 8, [1, 2]⟩,
  ⟨[112, 117, 116], 1, 9, [1, 2]⟩,
  ⟨[103, 101, 116], 1, 10, [1, 2]⟩,
  ⟨[100, 101, 108], 1, 11, [1]⟩,
  ⟨[102, 105, 110, 97, 108], 1, 12, [1, 6]⟩,
  ⟨[99, 108, 101, 97, 110], 1, 13, [1, 6]⟩,
  ⟨[103, 99], 1, 14, []⟩,
  ⟨[97, 100, 100], 2, 0, [7, 8]⟩,
  ⟨[115, 117, 98], 3, 0, [7, 8]⟩,
  ⟨[106, 117, 109, 112], 4, 0, [9]⟩,
  ⟨[122, 101, 114, 111], 5, 0, [7, 9]⟩,
  ⟨[115, 97, 109, 101], 6, 0, [7, 8, 9]⟩,
  ⟨[104, 97, 108, 116], 7, 0, []⟩]
def nthF (k : Nat) : Fm := fms.getD k fm0
def getO (o : Nat) (x : In) : Int :=
  match o with
  | 1 => x.oa
  | 2 => x.ob
  | 3 => x.fd
  | 4 => x.n
  | 5 => (x.m : Int)
  | 6 => (x.w : Int)
  | 7 => x.a
  | 8 => x.b
  | _ => x.to
def putO (o : Nat) (v : Int) (x : In) : In :=
  match o with
  | 1 => { x with oa := v }
  | 2 => { x with ob := v }
  | 3 => { x with fd := v }
  | 4 => { x with n := v }
  | 5 => { x with m := v.toNat }
  | 6 => { x with w := v.toNat }
  | 7 => { x with a := v }
  | 8 => { x with b := v }
  | 9 => { x with to := v }
  | _ => x
/-- the greatest number that a word may be, where there are c instructions -/
def mostO (o : Nat) (c : Int) : Int :=
  match o with
  | 3 => 47
  | 4 => 48
  | 5 => 18446744073709551615
  | 6 => 18446744073709551615
  | 9 => c
  | _ => 3
def isR (o : Nat) : Bool := o == 1 || o == 2 || o == 7 || o == 8
def bare (f : Fm) : In := { in0 with kd := f.kd, op := f.op }
def formOf (x : In) : Option Fm := fms.find? fun f => f.kd == x.kd && f.op == x.op
def fnamed (s : List UInt8) : Option Fm := fms.find? fun f => f.nm == s
def mkN (x : In) (os : List Nat) (z : In) : In := os.foldl (fun m o => putO o (getO o x) m) z
def mkI (f : Fm) (x : In) : In := mkN x f.os (bare f)
def inO (c : Int) (x : In) (o : Nat) : Prop := 0 ≤ getO o x ∧ getO o x ≤ mostO o c
/-- an instruction is right among c -/
def OkI (c : Int) (x : In) : Prop := ∃ f, formOf x = some f ∧ (∀ o ∈ f.os, inO c x o) ∧ mkI f x = x ∧ Sh x.n x.m
def OkP (l : List In) : Prop := l.length ≤ 256 ∧ ∀ x ∈ l, OkI l.length x
def jumpsI (x : In) : Bool := match formOf x with
  | none => false
  | some f => f.os.contains 9
/-- the words of a line -/
def wordO (x : In) (lb : List UInt8) (o : Nat) : List UInt8 := if o = 9 then lb else if isR o then 114 :: digs (getO o x).toNat else digs (getO o x).toNat
def lineW (f : Fm) (x : In) (lb : List UInt8) : List (List UInt8) := f.nm :: f.os.map (wordO x lb)
def lineI (x : In) (lb : List UInt8) : List UInt8 := Lib.join (lineW ((formOf x).getD fm0) x lb) [32]
/-- where the instructions go, in order -/
def tosL (l : List In) : List Int := (l.filter jumpsI).map fun x => x.to
def goalsL (l : List In) : List Int := Lib.compact ((tosL l).mergeSort fun x y => decide (x ≤ y))
def labG (g : List Int) (p : Int) : List UInt8 := if g.contains p then 76 :: digs (g.countP (· < p)) else []
def lblG (g : List Int) (p : Int) : List UInt8 := if g.contains p then 76 :: digs (g.countP (· < p)) ++ [58, 10] else []
def nthI (l : List In) (i : Nat) : In := l.getD i in0
def rowG (g : List Int) (l : List In) (i : Nat) : List UInt8 := lblG g i ++ (lineI (nthI l i) (labG g (nthI l i).to) ++ [10])
def printG (g : List Int) (l : List In) : List UInt8 := (List.range l.length).flatMap (rowG g l) ++ lblG g l.length
def printP (l : List In) : List UInt8 := printG (goalsL l) l
/-- reading -/
def labC (c : UInt8) : Bool := (decide (65 ≤ c.toNat) && decide (c.toNat ≤ 90)) || (decide (97 ≤ c.toNat) && decide (c.toNat ≤ 122)) || (decide (48 ≤ c.toNat) && decide (c.toNat ≤ 57))
def isLab (s : List UInt8) : Bool := decide (1 ≤ s.length) && decide (s.length ≤ 32) && s.all labC
def numE (s : List UInt8) : Option Nat :=
  match Lib.parseUintB 64 s with
  | .ok u => if digs u = s then some u else none
  | _ => none
def tellO (o : Nat) (s : List UInt8) (c : In × List UInt8) : Option (In × List UInt8) :=
  if o = 9 then (if isLab s then some (c.1, s) else none) else
  if isR o && !Lib.hasPrefix s [114] then none else
  match numE (if isR o then Lib.trimPrefix s [114] else s) with
  | none => none
  | some u => if (u : Int) ≤ mostO o 0 then some (putO o u c.1, c.2) else none
def tellL : List Nat → List (List UInt8) → In × List UInt8 → Option (In × List UInt8)
  | o :: os, s :: ss, c => match tellO o s c with
    | none => none
    | some c => tellL os ss c
  | _, _, c => some c
def parseW (ws : List (List UInt8)) : Option (In × List UInt8) :=
  match fnamed (ws.headD []) with
  | none => none
  | some f => if ws.length = f.os.length + 1 then
      match tellL f.os (ws.drop 1) (bare f, []) with
      | none => none
      | some c => if Sh c.1.n c.1.m then some c else none
    else none
def parseS (s : List UInt8) : Option (In × List UInt8) := parseW (Lib.split s [32])
abbrev Lbs := List (List UInt8 × Nat)
abbrev Cms := List (In × List UInt8 × Nat)
def isDef (s : List UInt8) : Bool := Lib.hasSuffix s [58] && isLab (Lib.trimSuffix s [58])
/-- the lines of a text, from one on: what is told so far -/
def readL : List (List UInt8) → Nat → Lbs → Cms → (Lbs × Cms) ⊕ (Nat × Int)
  | [], _, lb, cs => .inl (lb, cs)
  | s :: r, i, lb, cs =>
    if s = [] then readL r (i + 1) lb cs else
    if isDef s then (if (lb.lookup (Lib.trimSuffix s [58])).isSome then .inr (i + 1, 4) else readL r (i + 1) (lb ++ [(Lib.trimSuffix s [58], cs.length)]) cs) else
    match parseS s with
    | none => .inr (i + 1, 2)
    | some c => if 256 ≤ cs.length then .inr (i + 1, 6) else readL r (i + 1) lb (cs ++ [(c.1, c.2, i + 1)])
def progL (lb : Lbs) : Cms → List In → List In × Nat × Int
  | [], acc => (acc, 0, 0)
  | c :: cs, acc => if c.2.1 = [] then progL lb cs (acc ++ [c.1]) else
    match lb.lookup c.2.1 with
    | none => ([], c.2.2, 3)
    | some p => progL lb cs (acc ++ [{ c.1 with to := (p : Int) }])
def readP (t : List UInt8) : List In × Nat × Int :=
  if 65536 < t.length then ([], 0, 1) else
  match readL (Lib.split t [10]) 0 [] [] with
  | .inl (lb, cs) => progL lb cs []
  | .inr (i, e) => ([], i, e)
end Go.Proofs.YtggaijdbaplfiaaGreatDoor

/- Instructions in memory, one behind the other; a row of them grows. -/
namespace Go.Proofs.YtggaijdbaplfiaaGreatDoor
open Go.RowKit
set_option linter.unusedVariables false
set_option linter.unusedSimpArgs false

def inv (e : In) : Value := .agg #[.int .u8 e.kd, .int .u8 e.op, .int .i64 e.oa, .int .i64 e.ob, .int .i64 e.fd, .int .i64 e.n, .int .u64 e.m, .int .u64 e.w, .int .i64 e.a, .int .i64 e.b, .int .i64 e.to]
def inc (e : In) : List Value := [.int .u8 e.kd, .int .u8 e.op, .int .i64 e.oa, .int .i64 e.ob, .int .i64 e.fd, .int .i64 e.n, .int .u64 e.m, .int .u64 e.w, .int .i64 e.a, .int .i64 e.b, .int .i64 e.to]
def flatI (l : List In) : List Value := l.flatMap inc
theorem flatI_cons (e : In) (l : List In) : flatI (e :: l) = .int .u8 e.kd :: .int .u8 e.op :: .int .i64 e.oa :: .int .i64 e.ob :: .int .i64 e.fd :: .int .i64 e.n :: .int .u64 e.m :: .int .u64 e.w :: .int .i64 e.a :: .int .i64 e.b :: .int .i64 e.to :: flatI l := rfl
theorem length_flatI (l : List In) : (flatI l).length = l.length * 11 := by
  induction l with
  | nil => rfl
  | cons s l ih =>
    rw [flatI_cons]
    simp only [List.length_cons, ih]
    omega
theorem flatI_append (l m : List In) : flatI (l ++ m) = flatI l ++ flatI m := by simp [flatI]
theorem flatI_one (l : List In) : ∀ v ∈ flatI l, v.oneCell' = true := by
  intro v hv
  simp only [flatI, List.mem_flatMap] at hv
  obtain ⟨s, _, hs⟩ := hv
  simp only [inc, List.mem_cons, List.not_mem_nil, or_false] at hs
  rcases hs with rfl | rfl | rfl | rfl | rfl | rfl | rfl | rfl | rfl | rfl | rfl <;> rfl
theorem flatI_at (l : List In) (i : Nat) (h : i < l.length) : (flatI l)[i * 11]? = some (.int .u8 (nthI l i).kd) ∧ (flatI l)[i * 11 + 1]? = some (.int .u8 (nthI l i).op) ∧ (flatI l)[i * 11 + 2]? = some (.int .i64 (nthI l i).oa) ∧ (flatI l)[i * 11 + 3]? = some (.int .i64 (nthI l i).ob) ∧ (flatI l)[i * 11 + 4]? = some (.int .i64 (nthI l i).fd) ∧ (flatI l)[i * 11 + 5]? = some (.int .i64 (nthI l i).n) ∧ (flatI l)[i * 11 + 6]? = some (.int .u64 (nthI l i).m) ∧ (flatI l)[i * 11 + 7]? = some (.int .u64 (nthI l i).w) ∧ (flatI l)[i * 11 + 8]? = some (.int .i64 (nthI l i).a) ∧ (flatI l)[i * 11 + 9]? = some (.int .i64 (nthI l i).b) ∧ (flatI l)[i * 11 + 10]? = some (.int .i64 (nthI l i).to) := by
  induction l generalizing i with
  | nil => simp at h
  | cons s l ih =>
    cases i with
    | zero => rw [flatI_cons]; exact ⟨rfl, rfl, rfl, rfl, rfl, rfl, rfl, rfl, rfl, rfl, rfl⟩
    | succ i =>
      have := ih i (by simp at h; omega)
      rw [flatI_cons, show (i + 1) * 11 = i * 11 + 1 + 1 + 1 + 1 + 1 + 1 + 1 + 1 + 1 + 1 + 1 by omega]
      exact this
theorem nthI_get (l : List In) (i : Nat) (hi : i < l.length) : nthI l i = l[i] := by
  unfold nthI
  rw [List.getD_eq_getElem?_getD, List.getElem?_eq_getElem hi]
  rfl
theorem nthI_mem (l : List In) (i : Nat) (h : i < l.length) : nthI l i ∈ l := by
  rw [nthI_get l i h]
  exact List.getElem_mem h
theorem take_nthI (l : List In) (i : Nat) (h : i < l.length) : l.take (i + 1) = l.take i ++ [nthI l i] := by
  unfold nthI
  rw [List.getD_eq_getElem?_getD, List.getElem?_eq_getElem h, List.take_add_one, List.getElem?_eq_getElem h]
  rfl
theorem eqI {l m : List In} (hl : l.length = m.length) (h : ∀ j, j < l.length → nthI l j = nthI m j) : l = m := by
  apply List.ext_getElem hl
  intro i h1 h2
  have := h i h1
  rwa [nthI_get l i h1, nthI_get m i h2] at this
/-- an instruction that lies in block g from o on -/
structure In11 (w : World) (g o : Nat) (s : In) : Prop where
  c0 : w.cell? ⟨g, o, none⟩ = some (.int .u8 s.kd)
  c1 : w.cell? ⟨g, o + 1, none⟩ = some (.int .u8 s.op)
  c2 : w.cell? ⟨g, o + 2, none⟩ = some (.int .i64 s.oa)
  c3 : w.cell? ⟨g, o + 3, none⟩ = some (.int .i64 s.ob)
  c4 : w.cell? ⟨g, o + 4, none⟩ = some (.int .i64 s.fd)
  c5 : w.cell? ⟨g, o + 5, none⟩ = some (.int .i64 s.n)
  c6 : w.cell? ⟨g, o + 6, none⟩ = some (.int .u64 s.m)
  c7 : w.cell? ⟨g, o + 7, none⟩ = some (.int .u64 s.w)
  c8 : w.cell? ⟨g, o + 8, none⟩ = some (.int .i64 s.a)
  c9 : w.cell? ⟨g, o + 9, none⟩ = some (.int .i64 s.b)
  c10 : w.cell? ⟨g, o + 10, none⟩ = some (.int .i64 s.to)
theorem In11.lt {w : World} {g o : Nat} {s : In} (h : In11 w g o s) : g < w.heap.size := World.block_lt_of_cell? w _ h.c0
theorem In11.keep {w w' : World} {g o : Nat} {s : In} (h : In11 w g o s) (hk : ∀ o, w'.cell? ⟨g, o, none⟩ = w.cell? ⟨g, o, none⟩) : In11 w' g o s :=
  ⟨(hk _).trans h.c0, (hk _).trans h.c1, (hk _).trans h.c2, (hk _).trans h.c3, (hk _).trans h.c4, (hk _).trans h.c5, (hk _).trans h.c6, (hk _).trans h.c7, (hk _).trans h.c8, (hk _).trans h.c9, (hk _).trans h.c10⟩
theorem In11.below {w w' : World} {B g o : Nat} {s : In} (h : In11 w g o s) (hb : Below B w w') (hg : g < B) : In11 w' g o s := h.keep fun o => (bcell hb).1 _ _ hg
theorem In11.later {w w' : World} {g o : Nat} {s : In} (h : In11 w g o s) (hb : Below w.heap.size w w') : In11 w' g o s := h.below hb h.lt
theorem In11.new (w : World) (s : In) (t : TypeId) : In11 (w.alloc (.cells #[.int .u8 s.kd, .int .u8 s.op, .int .i64 s.oa, .int .i64 s.ob, .int .i64 s.fd, .int .i64 s.n, .int .u64 s.m, .int .u64 s.w, .int .i64 s.a, .int .i64 s.b, .int .i64 s.to] t)) w.heap.size 0 s := by
  constructor <;> simp [go_sem]
/-- the slice at A holds the events l, ahead of block B -/
structure PRow (w : World) (B : Nat) (A : Option Addr) (l : List In) : Prop where
  at_ : 0 < l.length → ∃ b off, A = some ⟨b, off, none⟩ ∧ b < B ∧ ∀ i, i < l.length → In11 w b (off + i * 11) (nthI l i)
theorem PRow.keep {w w' : World} {B : Nat} {A : Option Addr} {l : List In} (h : PRow w B A l) (hk : ∀ b o, b < B → w'.cell? ⟨b, o, none⟩ = w.cell? ⟨b, o, none⟩) : PRow w' B A l :=
  ⟨fun hl => by
    obtain ⟨b, off, e, hb, hc⟩ := h.at_ hl
    exact ⟨b, off, e, hb, fun i hi => (hc i hi).keep fun o => hk b o hb⟩⟩
theorem PRow.more {w : World} {B B' : Nat} {A : Option Addr} {l : List In} (h : PRow w B A l) (hB : B ≤ B') : PRow w B' A l :=
  ⟨fun hl => by
    obtain ⟨b, off, e, hb, hc⟩ := h.at_ hl
    exact ⟨b, off, e, by omega, hc⟩⟩
theorem PRow.below {w w' : World} {B : Nat} {A : Option Addr} {l : List In} (h : PRow w B A l) (hb : Below B w w') : PRow w' B A l := h.keep fun b o hlt => hb.cell (p := ⟨b, o, none⟩) hlt
theorem PRow.later {w w' : World} {A : Option Addr} {l : List In} (h : PRow w w.heap.size A l) (hb : Below w.heap.size w w') : PRow w' w'.heap.size A l := (h.below hb).more hb.size
theorem PRow.nil (w : World) (B : Nat) (A : Option Addr) : PRow w B A [] := ⟨fun h => by simp at h⟩
theorem info_in : (Tryz.prog.info? 37).map (fun i => (i.zero, i.size, i.bytes)) = some (some (.agg #[.int .u8 0, .int .u8 0, .int .i64 0, .int .i64 0, .int .i64 0, .int .i64 0, .int .u64 0, .int .u64 0, .int .i64 0, .int .i64 0, .int .i64 0]), 11, 88) := by kernel_rfl
abbrev OwnsI (w : World) (B : Nat) (v : Value) (l : List In) : Prop := w.ownsRow B 37 11 v l.length (flatI l)
theorem PRow.of_owns {w : World} {B cap : Nat} {A : Option Addr} {l : List In} (h : OwnsI w B (.slice A l.length cap) l) : PRow w w.heap.size A l :=
  ⟨fun hl => by
    obtain ⟨_, ⟨h1, h2⟩ | ⟨g, cap', cur, e, hB, hg, hc, _, hs, ht⟩⟩ := id h
    · omega
    · injection e with e1 e2 e3
      subst e1 e3
      have hlt : g < w.heap.size := heap_lt hg
      refine ⟨g, 0, rfl, hlt, fun i hi => ?_⟩
      obtain ⟨f0, f1, f2, f3, f4, f5, f6, f7, f8, f9, f10⟩ := flatI_at l i hi
      have hat : ∀ j v, (flatI l)[j]? = some v → j < l.length * 11 → w.cell? ⟨g, j, none⟩ = some v := fun j v hv hj => by
        rw [cell_of_row w g j cur _ _ hg, ← hv, ← ht, List.getElem?_take_of_lt hj, Array.getElem?_toList]
      rw [Nat.zero_add]
      exact ⟨hat _ _ f0 (by omega), hat _ _ f1 (by omega), hat _ _ f2 (by omega), hat _ _ f3 (by omega), hat _ _ f4 (by omega), hat _ _ f5 (by omega), hat _ _ f6 (by omega), hat _ _ f7 (by omega), hat _ _ f8 (by omega), hat _ _ f9 (by omega), hat _ _ f10 (by omega)⟩⟩
theorem OwnsI.later {w w' : World} {B : Nat} {v : Value} {l : List In} (h : OwnsI w B v l) (hb : Below w.heap.size w w') : OwnsI w' B v l := by
  refine World.ownsRow.kept (row := none) h ⟨hb.os, hb.tape, hb.output, hb.size, fun k hk _ => hb.block k hk⟩ ?_
  cases hv : v.ownBlock
  · exact .inl rfl
  · exact .inr (by simp)
theorem owns_laterI {w w' : World} {B n : Nat} {v : Value} {xs : List Value} (h : w.ownsRow B 37 11 v n xs) (hb : Below w.heap.size w w') : w'.ownsRow B 37 11 v n xs := by
  refine World.ownsRow.kept (row := none) h ⟨hb.os, hb.tape, hb.output, hb.size, fun k hk _ => hb.block k hk⟩ ?_
  cases hv : v.ownBlock
  · exact .inl rfl
  · exact .inr (by simp)
theorem own_nilI (w : World) (B c : Nat) : OwnsI w B (.slice none 0 0) [] := ⟨rfl, .inl ⟨rfl, rfl⟩⟩
theorem inc_one (e : In) : ∀ u ∈ inc e, u.oneCell' = true := by
  have := flatI_one [e]
  simpa [flatI] using this
set_option maxRecDepth 100000
theorem run_append_noneI {w : World} (ty : TypeId) (v : Value) (n c : Nat) (xs : List Value) (base : Nat) (hown : w.ownsRow base 37 11 v n xs) :
    (Builtin.append_ #[22, 22] ty #[v, .slice none 0 c]).run Tryz.prog w = .ok v w := by
  obtain ⟨i0, hi, hz0, hz1, hz2⟩ := info_parts info_in
  obtain ⟨_, ⟨rfl, rfl⟩ | ⟨g, cap, cur, rfl, _, hg, hc, hm, _, _⟩⟩ := hown
  · simp [Builtin.append_, run_underlying Tryz.underlying22, sizeOf, typeInfo, hi, hz1, Builtin.lenOf, Builtin.firstCells, storeCells]
  · have h1 : ¬ (9223372036854775807 < (n : Int)) := by unfold maxLen at hm; omega
    have hl : ∀ (x : Addr), (loadCells x 0).run Tryz.prog w = .ok #[] w := fun x => by simpa using run_loadCells_list (P := Tryz.prog) w x [] (by simp)
    simp [Builtin.append_, run_underlying Tryz.underlying22, sizeOf, typeInfo, hi, hz1, Builtin.lenOf, Builtin.firstCells, storeCells, hc, hl, h1]
theorem wp_appendI {w : World} {o : Oper} {a : Act} {K : Act → World → Prop} {Q : Exit → Act → World → Prop} (s x : Operand)
    (ho : o.op = .call { callee := .builtin .append, args := #[s, x], argTypes := #[22, 22] })
    (base : Nat) (A : Option Addr) (cap n : Nat) (xs : List Value) (hs : a.eval s = .slice A n cap) (hown : w.ownsRow base 37 11 (.slice A n cap) n xs)
    (Ao : Option Addr) (m c : Nat) (news : List Value) (hx : a.eval x = .slice Ao m c) (hl : news.length = m * 11) (hpos : 0 < m → ∃ b off, Ao = some ⟨b, off, none⟩ ∧ ∀ j u, news[j]? = some u → w.cell? ⟨b, off + j, none⟩ = some u) (h1 : ∀ u ∈ news, u.oneCell' = true)
    (hsm : n + m ≤ 100000) (hbase : base ≤ w.heap.size)
    (h : ∀ A' cap' w', w'.ownsRow base 37 11 (.slice A' (n + m) cap') (n + m) (xs ++ news) → w.grownBy w' (A.map fun a => a.block) → Below base w w' → (A' = A ∨ A' = some ⟨w.heap.size, 0, none⟩) → K (a.put o.dst (.slice A' (n + m) cap')) w') :
    Oper.wp Tryz.prog o a w K Q := by
  obtain ⟨i0, hi, hz0, hz1, hz2⟩ := info_parts info_in
  have key : ∃ A' cap' w', (Builtin.append_ #[22, 22] o.type #[.slice A n cap, .slice Ao m c]).run Tryz.prog w = .ok (.slice A' (n + m) cap') w' ∧ w'.ownsRow base 37 11 (.slice A' (n + m) cap') (n + m) (xs ++ news) ∧ w.grownBy w' (A.map fun a => a.block) ∧ Below base w w' ∧ (A' = A ∨ A' = some ⟨w.heap.size, 0, none⟩) := by
    have hob : (Value.slice A n cap).ownBlock = A.map fun a => a.block := by cases A <;> rfl
    by_cases hm : 0 < m
    · obtain ⟨b, off, rfl, hc⟩ := hpos hm
      obtain ⟨g, cap', w', h2, h3, h4, h5, _⟩ := run_append_lies (P := Tryz.prog) w 22 o.type base 37 i0 _ 11 88 Tryz.underlying22 hi hz0 hz1 hz2 rfl (by omega) (.slice A n cap) n xs hown ⟨b, off, none⟩ m c news hl (fun j u hj => by rw [add_form]; exact hc j u hj) h1 hm (by unfold maxLen; omega) (by omega) hbase _ rfl
      refine ⟨_, cap', w', h2, h3, by rw [← hob]; exact h4, (Below.refl _ _).grown h4 hbase (fun k hk => (hown.lt k hk).1), ?_⟩
      rcases h5 with h5 | h5
      · left
        obtain ⟨_, ⟨e1, _⟩ | ⟨g', _, _, e1, _⟩⟩ := hown
        · injection e1 with e1
          subst e1
          cases h5
        · injection e1 with e1
          subst e1
          injection h5 with h5
          have h5' : g' = g := h5
          rw [h5']
      · right
        rw [h5]
    · obtain rfl : m = 0 := by omega
      obtain rfl : news = [] := List.eq_nil_of_length_eq_zero (by omega)
      cases Ao with
      | none => exact ⟨A, cap, w, run_append_noneI _ _ n c xs base hown, by simpa using hown, ⟨rfl, rfl, rfl, Nat.le_refl _, fun _ _ _ => rfl⟩, Below.refl _ _, .inl rfl⟩
      | some ad =>
        have hl : ∀ (x : Addr), (loadCells x 0).run Tryz.prog w = .ok #[] w := fun x => by simpa using run_loadCells_list (P := Tryz.prog) w x [] (by simp)
        have h2 : (Builtin.append_ #[22, 22] o.type #[.slice A n cap, .slice (some ad) 0 c]).run Tryz.prog w = .ok (.slice A n cap) w := by
          obtain ⟨_, ⟨e1, rfl⟩ | ⟨g, cap', cur, e1, _, hg, hc, hm, _, _⟩⟩ := id hown
          · injection e1 with e1 _ e3
            subst e1 e3
            simp [Builtin.append_, run_underlying Tryz.underlying22, sizeOf, typeInfo, hi, hz1, Builtin.lenOf, Builtin.firstCells, storeCells, hl]
          · injection e1 with e1 _ e3
            subst e1 e3
            have h1 : ¬ (9223372036854775807 < (n : Int)) := by unfold maxLen at hm; omega
            simp [Builtin.append_, run_underlying Tryz.underlying22, sizeOf, typeInfo, hi, hz1, Builtin.lenOf, Builtin.firstCells, storeCells, hc, hl, h1]
        exact ⟨A, cap, w, h2, by simpa using hown, ⟨rfl, rfl, rfl, Nat.le_refl _, fun _ _ _ => rfl⟩, Below.refl _ _, .inl rfl⟩
  obtain ⟨A', cap', w', h2, h3, h5, h4, h6⟩ := key
  unfold Oper.wp execOp
  simp only [ho, resolve, invoke, builtin, Sem.run_bind, Sem.run_pure, Result.andThen_ok, List.map_toArray, List.map_cons, List.map_nil, hs, hx, h2]
  exact h A' cap' w' h3 h5 h4 h6
theorem wpList_appendI {w : World} {ops : Array Oper} {rest : List Oper} {o : Oper} {a : Act} {Q : Exit → Act → World → Prop} (hgd : o.guard = none) (s x : Operand)
    (ho : o.op = .call { callee := .builtin .append, args := #[s, x], argTypes := #[22, 22] })
    (base : Nat) (A : Option Addr) (cap n : Nat) (xs : List Value) (hs : a.eval s = .slice A n cap) (hown : w.ownsRow base 37 11 (.slice A n cap) n xs)
    (Ao : Option Addr) (m c : Nat) (news : List Value) (hx : a.eval x = .slice Ao m c) (hl : news.length = m * 11) (hpos : 0 < m → ∃ b off, Ao = some ⟨b, off, none⟩ ∧ ∀ j u, news[j]? = some u → w.cell? ⟨b, off + j, none⟩ = some u) (h1 : ∀ u ∈ news, u.oneCell' = true)
    (hsm : n + m ≤ 100000) (hbase : base ≤ w.heap.size)
    (h : ∀ A' cap' w', w'.ownsRow base 37 11 (.slice A' (n + m) cap') (n + m) (xs ++ news) → w.grownBy w' (A.map fun a => a.block) → Below base w w' → (A' = A ∨ A' = some ⟨w.heap.size, 0, none⟩) → wpList Tryz.prog ops Q rest (a.put o.dst (.slice A' (n + m) cap')) w') : wpList Tryz.prog ops Q (o :: rest) a w :=
  wpList_plain hgd fun _ hK => wp_appendI s x ho base A cap n xs hs hown Ao m c news hx hl hpos h1 hsm hbase fun A' cap' w' h2 h3 h4 h5 => hK _ _ (h A' cap' w' h2 h3 h4 h5)
end Go.Proofs.YtggaijdbaplfiaaGreatDoor

/- What the start laid; forms in memory; contracts of package asm: formOf, named. -/
namespace Go.Proofs.YtggaijdbaplfiaaGreatDoor
open Go.RowKit
set_option linter.unusedVariables false
set_option linter.unusedSimpArgs false

def bs (l : List UInt8) : ByteArray := ⟨l.toArray⟩
theorem bs_data (l : List UInt8) : (bs l).data.toList = l := by simp [bs]
theorem bs_append (a b : List UInt8) : bs a ++ bs b = bs (a ++ b) := by
  apply ByteArray.ext
  simp [bs]
theorem bs_size (l : List UInt8) : (bs l).size = l.length := by simp [bs, ByteArray.size]
theorem bs_of (s : ByteArray) : bs s.data.toList = s := by
  apply ByteArray.ext
  simp [bs]
theorem fz_later {w w' : World} {g : Nat} (h : ∀ o, w.frozen? ⟨g, o, none⟩ = false) (hb : Below w.heap.size w w') (hg : g < w.heap.size) : ∀ o, w'.frozen? ⟨g, o, none⟩ = false := fun o => (hb.frozen (p := ⟨g, o, none⟩) hg).trans (h o)
theorem fz_new (w : World) (cs : Array Value) (t : TypeId) : ∀ o, (w.alloc (.cells cs t)).frozen? ⟨w.heap.size, o, none⟩ = false := fun o => by simp [go_sem]
theorem fz_old {w : World} {g : Nat} (h : ∀ o, w.frozen? ⟨g, o, none⟩ = false) (hg : g < w.heap.size) (cs : Array Value) (t : TypeId) : ∀ o, (w.alloc (.cells cs t)).frozen? ⟨g, o, none⟩ = false := fz_later h (Below.alloc (Below.refl _ _) (Nat.le_refl _) _) hg
def opn (f : Fm) (i : Nat) : Int := ((f.os.getD i 0 : Nat) : Int)
def fmv (f : Fm) : Value := .agg #[.string (bs f.nm), .int .u8 f.kd, .int .u8 f.op, .int .i64 (opn f 0), .int .i64 (opn f 1), .int .i64 (opn f 2)]
def fmc (f : Fm) : List Value := [.string (bs f.nm), .int .u8 f.kd, .int .u8 f.op, .int .i64 (opn f 0), .int .i64 (opn f 1), .int .i64 (opn f 2)]
def fmCells : List Value := fms.flatMap fmc
/-- a form that lies in block g -/
structure Fm6 (w : World) (g : Nat) (f : Fm) : Prop where
  c0 : w.cell? ⟨g, 0, none⟩ = some (.string (bs f.nm))
  c1 : w.cell? ⟨g, 1, none⟩ = some (.int .u8 f.kd)
  c2 : w.cell? ⟨g, 2, none⟩ = some (.int .u8 f.op)
  c3 : w.cell? ⟨g, 3, none⟩ = some (.int .i64 (opn f 0))
  c4 : w.cell? ⟨g, 4, none⟩ = some (.int .i64 (opn f 1))
  c5 : w.cell? ⟨g, 5, none⟩ = some (.int .i64 (opn f 2))
theorem Fm6.lt {w : World} {g : Nat} {f : Fm} (h : Fm6 w g f) : g < w.heap.size := World.block_lt_of_cell? w _ h.c0
theorem Fm6.later {w w' : World} {g : Nat} {f : Fm} (h : Fm6 w g f) (hb : Below w.heap.size w w') : Fm6 w' g f :=
  have hk : ∀ o, w'.cell? ⟨g, o, none⟩ = w.cell? ⟨g, o, none⟩ := fun o => (bcell hb).1 _ _ h.lt
  ⟨(hk _).trans h.c0, (hk _).trans h.c1, (hk _).trans h.c2, (hk _).trans h.c3, (hk _).trans h.c4, (hk _).trans h.c5⟩
theorem Fm6.new (w : World) (f : Fm) (t : TypeId) : Fm6 (w.alloc (.cells #[.string (bs f.nm), .int .u8 f.kd, .int .u8 f.op, .int .i64 (opn f 0), .int .i64 (opn f 1), .int .i64 (opn f 2)] t)) w.heap.size f := by
  constructor <;> simp [go_sem]
/-- the table of tens, the two errors of strconv, a number that the library keeps, and the forms, as the start laid them -/
structure Lw (w : World) : Prop where
  tab : Lib.TabIs Tryz.prog w "internal/strconv.uint64pow10" .u64 Lib.pow10Tab
  mx : ∃ m, w.cell? ⟨1, 0, none⟩ = some (.int .i64 m)
  syn : ∃ te pe, w.cell? ⟨7, 0, none⟩ = some (.iface te pe)
  rng : ∃ te pe, w.cell? ⟨8, 0, none⟩ = some (.iface te pe)
  fm : ∀ j v, fmCells[j]? = some v → w.cell? ⟨0, j, none⟩ = some v
theorem tab_later {n : String} {k : IntKind} {zs : List Int} {w w' : World} (hg : (Tryz.prog.globalNamed n).isSome = true) (h : Lib.TabIs Tryz.prog w n k zs) (hb : Below w.heap.size w w') : Lib.TabIs Tryz.prog w' n k zs := by
  obtain ⟨g, hg⟩ := Option.isSome_iff_exists.1 hg
  have hv : w.var? Tryz.prog n = some (zs.map fun z => Value.int k z).toArray := h
  show w'.var? Tryz.prog n = _
  rw [← hv]
  simp only [World.var?, hg] at hv ⊢
  rcases Nat.lt_or_ge g w.heap.size with hlt | hge
  · simp [hb.block g hlt]
  · simp [Array.getElem?_eq_none hge] at hv
theorem cell_later {w w' : World} {p : Addr} {v : Value} (h : w.cell? p = some v) (hp : p.spot = none) (hb : Below w.heap.size w w') : w'.cell? p = some v := by
  obtain ⟨b, o, s⟩ := p
  simp only at hp
  subst hp
  exact (hb.cell (p := ⟨b, o, none⟩) (World.block_lt_of_cell? w _ h)).trans h
theorem Lw.later {w w' : World} (h : Lw w) (hb : Below w.heap.size w w') : Lw w' := by
  obtain ⟨h1, ⟨m, h2⟩, ⟨t3, p3, h3⟩, ⟨t4, p4, h4⟩, h5⟩ := h
  exact ⟨tab_later (by kernel_rfl) h1 hb, ⟨m, cell_later h2 rfl hb⟩, ⟨t3, p3, cell_later h3 rfl hb⟩, ⟨t4, p4, cell_later h4 rfl hb⟩, fun j v hj => cell_later (h5 j v hj) rfl hb⟩
/-- the forms, read as a whole -/
theorem fm_range {w : World} (h : Lw w) : w.rangeAt 0 0 fmCells := fun j v hv => by rw [Nat.zero_add]; exact h.fm j v hv
theorem fm_size : (Tryz.prog.info? 126).map (·.size) = some fmCells.length := by kernel_rfl
def FV : Value := .agg fmCells.toArray
theorem fm_at0 (w : World) : (Instr.index 126 FV (.int .i64 0)).run Tryz.prog w = .ok (fmv (nthF 0)) w := by kernel_rfl
theorem fm_at1 (w : World) : (Instr.index 126 FV (.int .i64 1)).run Tryz.prog w = .ok (fmv (nthF 1)) w := by kernel_rfl
theorem fm_at2 (w : World) : (Instr.index 126 FV (.int .i64 2)).run Tryz.prog w = .ok (fmv (nthF 2)) w := by kernel_rfl
theorem fm_at3 (w : World) : (Instr.index 126 FV (.int .i64 3)).run Tryz.prog w = .ok (fmv (nthF 3)) w := by kernel_rfl
theorem fm_at4 (w : World) : (Instr.index 126 FV (.int .i64 4)).run Tryz.prog w = .ok (fmv (nthF 4)) w := by kernel_rfl
theorem fm_at5 (w : World) : (Instr.index 126 FV (.int .i64 5)).run Tryz.prog w = .ok (fmv (nthF 5)) w := by kernel_rfl
theorem fm_at6 (w : World) : (Instr.index 126 FV (.int .i64 6)).run Tryz.prog w = .ok (fmv (nthF 6)) w := by kernel_rfl
theorem fm_at7 (w : World) : (Instr.index 126 FV (.int .i64 7)).run Tryz.prog w = .ok (fmv (nthF 7)) w := by kernel_rfl
theorem fm_at8 (w : World) : (Instr.index 126 FV (.int .i64 8)).run Tryz.prog w = .ok (fmv (nthF 8)) w := by kernel_rfl
theorem fm_at9 (w : World) : (Instr.index 126 FV (.int .i64 9)).run Tryz.prog w = .ok (fmv (nthF 9)) w := by kernel_rfl
theorem fm_at10 (w : World) : (Instr.index 126 FV (.int .i64 10)).run Tryz.prog w = .ok (fmv (nthF 10)) w := by kernel_rfl
theorem fm_at11 (w : World) : (Instr.index 126 FV (.int .i64 11)).run Tryz.prog w = .ok (fmv (nthF 11)) w := by kernel_rfl
theorem fm_at12 (w : World) : (Instr.index 126 FV (.int .i64 12)).run Tryz.prog w = .ok (fmv (nthF 12)) w := by kernel_rfl
theorem fm_at13 (w : World) : (Instr.index 126 FV (.int .i64 13)).run Tryz.prog w = .ok (fmv (nthF 13)) w := by kernel_rfl
theorem fm_at14 (w : World) : (Instr.index 126 FV (.int .i64 14)).run Tryz.prog w = .ok (fmv (nthF 14)) w := by kernel_rfl
theorem fm_at15 (w : World) : (Instr.index 126 FV (.int .i64 15)).run Tryz.prog w = .ok (fmv (nthF 15)) w := by kernel_rfl
theorem fm_at16 (w : World) : (Instr.index 126 FV (.int .i64 16)).run Tryz.prog w = .ok (fmv (nthF 16)) w := by kernel_rfl
theorem fm_at17 (w : World) : (Instr.index 126 FV (.int .i64 17)).run Tryz.prog w = .ok (fmv (nthF 17)) w := by kernel_rfl
theorem fm_at18 (w : World) : (Instr.index 126 FV (.int .i64 18)).run Tryz.prog w = .ok (fmv (nthF 18)) w := by kernel_rfl
theorem fm_at19 (w : World) : (Instr.index 126 FV (.int .i64 19)).run Tryz.prog w = .ok (fmv (nthF 19)) w := by kernel_rfl
theorem fm_at (w : World) (k : Nat) (hk : k < 20) : (Instr.index 126 FV (.int .i64 (k : Nat))).run Tryz.prog w = .ok (fmv (nthF k)) w := by
  have h : k = 0 ∨ k = 1 ∨ k = 2 ∨ k = 3 ∨ k = 4 ∨ k = 5 ∨ k = 6 ∨ k = 7 ∨ k = 8 ∨ k = 9 ∨ k = 10 ∨ k = 11 ∨ k = 12 ∨ k = 13 ∨ k = 14 ∨ k = 15 ∨ k = 16 ∨ k = 17 ∨ k = 18 ∨ k = 19 := by omega
  rcases h with rfl | rfl | rfl | rfl | rfl | rfl | rfl | rfl | rfl | rfl | rfl | rfl | rfl | rfl | rfl | rfl | rfl | rfl | rfl | rfl
  · exact fm_at0 w
  · exact fm_at1 w
  · exact fm_at2 w
  · exact fm_at3 w
  · exact fm_at4 w
  · exact fm_at5 w
  · exact fm_at6 w
  · exact fm_at7 w
  · exact fm_at8 w
  · exact fm_at9 w
  · exact fm_at10 w
  · exact fm_at11 w
  · exact fm_at12 w
  · exact fm_at13 w
  · exact fm_at14 w
  · exact fm_at15 w
  · exact fm_at16 w
  · exact fm_at17 w
  · exact fm_at18 w
  · exact fm_at19 w
theorem fms_drop (k : Nat) (h : k < 20) : fms.drop k = nthF k :: fms.drop (k + 1) := by
  have h20 : fms.length = 20 := rfl
  unfold nthF
  rw [List.getD_eq_getElem?_getD, List.getElem?_eq_getElem (by omega), List.drop_eq_getElem_cons (by omega)]
  rfl
theorem fms_end : fms.drop 20 = [] := rfl
theorem res_fm2 {fn : Func} {p u : Tmp} (h : fn.results = #[.cell p 99, .tmp u]) {tmps : Array Value} {w : World} {g : Nat} {f : Fm} (hp : tmps.getD p undef = .pointer (some ⟨g, 0, none⟩)) (c : Fm6 w g f) : (results fn tmps).run Tryz.prog w = .ok (.tuple #[fmv f, tmps.getD u undef]) w := by
  obtain ⟨h0, h1, h2, h3, h4, h5⟩ := c
  rw [results_cell_tmp h, hp]
  simp [go_sem, Result.andThen, h0, h1, h2, h3, h4, h5, asAddr, fmv]
theorem Fm6.set6 {W : World} {g : Nat} {f0 : Fm} (f : Fm) (h : Fm6 W g f0) : Fm6 ((((((W.setCell ⟨g, 0, none⟩ (.string (bs f.nm))).setCell ⟨g, 1, none⟩ (.int .u8 f.kd)).setCell ⟨g, 2, none⟩ (.int .u8 f.op)).setCell ⟨g, 3, none⟩ (.int .i64 (opn f 0))).setCell ⟨g, 4, none⟩ (.int .i64 (opn f 1))).setCell ⟨g, 5, none⟩ (.int .i64 (opn f 2))) g f := by
  obtain ⟨h0, h1, h2, h3, h4, h5⟩ := h
  constructor <;> simp [go_sem, h0, h1, h2, h3, h4, h5]
theorem below_set6 {B g : Nat} {W0 W : World} (f : Fm) (hb : Below B W0 W) (hg : B ≤ g) : Below B W0 ((((((W.setCell ⟨g, 0, none⟩ (.string (bs f.nm))).setCell ⟨g, 1, none⟩ (.int .u8 f.kd)).setCell ⟨g, 2, none⟩ (.int .u8 f.op)).setCell ⟨g, 3, none⟩ (.int .i64 (opn f 0))).setCell ⟨g, 4, none⟩ (.int .i64 (opn f 1))).setCell ⟨g, 5, none⟩ (.int .i64 (opn f 2))) := by
  iterate 6 (refine Below.setCell ?_ hg _)
  exact hb
theorem In11.set11 {W : World} {g : Nat} {s0 : In} (s : In) (h : In11 W g 0 s0) : In11 (((((((((((W.setCell ⟨g, 0, none⟩ (.int .u8 s.kd)).setCell ⟨g, 1, none⟩ (.int .u8 s.op)).setCell ⟨g, 2, none⟩ (.int .i64 s.oa)).setCell ⟨g, 3, none⟩ (.int .i64 s.ob)).setCell ⟨g, 4, none⟩ (.int .i64 s.fd)).setCell ⟨g, 5, none⟩ (.int .i64 s.n)).setCell ⟨g, 6, none⟩ (.int .u64 s.m)).setCell ⟨g, 7, none⟩ (.int .u64 s.w)).setCell ⟨g, 8, none⟩ (.int .i64 s.a)).setCell ⟨g, 9, none⟩ (.int .i64 s.b)).setCell ⟨g, 10, none⟩ (.int .i64 s.to)) g 0 s := by
  obtain ⟨h0, h1, h2, h3, h4, h5, h6, h7, h8, h9, h10⟩ := h
  simp only [Nat.zero_add] at h0 h1 h2 h3 h4 h5 h6 h7 h8 h9 h10
  constructor <;> simp [go_sem, h0, h1, h2, h3, h4, h5, h6, h7, h8, h9, h10]
theorem below_set11 {B g : Nat} {W0 W : World} (s : In) (hb : Below B W0 W) (hg : B ≤ g) : Below B W0 (((((((((((W.setCell ⟨g, 0, none⟩ (.int .u8 s.kd)).setCell ⟨g, 1, none⟩ (.int .u8 s.op)).setCell ⟨g, 2, none⟩ (.int .i64 s.oa)).setCell ⟨g, 3, none⟩ (.int .i64 s.ob)).setCell ⟨g, 4, none⟩ (.int .i64 s.fd)).setCell ⟨g, 5, none⟩ (.int .i64 s.n)).setCell ⟨g, 6, none⟩ (.int .u64 s.m)).setCell ⟨g, 7, none⟩ (.int .u64 s.w)).setCell ⟨g, 8, none⟩ (.int .i64 s.a)).setCell ⟨g, 9, none⟩ (.int .i64 s.b)).setCell ⟨g, 10, none⟩ (.int .i64 s.to)) := by
  iterate 11 (refine Below.setCell ?_ hg _)
  exact hb
theorem res_in1 {fn : Func} {p : Tmp} (h : fn.results = #[.cell p 37]) {tmps : Array Value} {w : World} {g : Nat} {s : In} (hp : tmps.getD p undef = .pointer (some ⟨g, 0, none⟩)) (c : In11 w g 0 s) : (results fn tmps).run Tryz.prog w = .ok (inv s) w := by
  obtain ⟨h0, h1, h2, h3, h4, h5, h6, h7, h8, h9, h10⟩ := c
  simp only [Nat.zero_add] at h0 h1 h2 h3 h4 h5 h6 h7 h8 h9 h10
  have hr : (results fn tmps).run Tryz.prog w = ((asAddr (tmps.getD p undef)).run Tryz.prog w).andThen fun a w₁ => (loadVar 37 a).run Tryz.prog w₁ := by
    simp only [results, h]
    simp [Sem.run_bind, Result.andThen]
  rw [hr, hp]
  simp [go_sem, Result.andThen, h0, h1, h2, h3, h4, h5, h6, h7, h8, h9, h10, asAddr, inv]
theorem Fm6.zero6 {W : World} {g : Nat} {f0 : Fm} (h : Fm6 W g f0) : Fm6 ((((((W.setCell ⟨g, 0, none⟩ (.string ⟨#[]⟩)).setCell ⟨g, 1, none⟩ (.int .u8 0)).setCell ⟨g, 2, none⟩ (.int .u8 0)).setCell ⟨g, 3, none⟩ (.int .i64 0)).setCell ⟨g, 4, none⟩ (.int .i64 0)).setCell ⟨g, 5, none⟩ (.int .i64 0)) g fm0 := by
  obtain ⟨h0, h1, h2, h3, h4, h5⟩ := h
  constructor <;> simp [go_sem, h0, h1, h2, h3, h4, h5, fm0, opn, bs]
theorem below_zero6 {B g : Nat} {W0 W : World} (hb : Below B W0 W) (hg : B ≤ g) : Below B W0 ((((((W.setCell ⟨g, 0, none⟩ (.string ⟨#[]⟩)).setCell ⟨g, 1, none⟩ (.int .u8 0)).setCell ⟨g, 2, none⟩ (.int .u8 0)).setCell ⟨g, 3, none⟩ (.int .i64 0)).setCell ⟨g, 4, none⟩ (.int .i64 0)).setCell ⟨g, 5, none⟩ (.int .i64 0)) := by
  iterate 6 (refine Below.setCell ?_ hg _)
  exact hb
end Go.Proofs.YtggaijdbaplfiaaGreatDoor

/- Contracts of package asm: formOf, named. -/
namespace Go.Proofs.YtggaijdbaplfiaaGreatDoor
open Go.RowKit
set_option linter.unusedVariables false
set_option linter.unusedSimpArgs false
section
variable {w : World}
set_option maxRecDepth 100000 in
set_option maxHeartbeats 4000000 in
theorem formOf_any (x : In) (hL : Lw w) : Calls Tryz.prog 50 #[inv x] w fun e w' => e = .returned (.tuple #[fmv ((formOf x).getD fm0), .bool (formOf x).isSome]) ∧ Below w.heap.size w w' := by
  have HF : Hid (formOf x = (fms.drop 0).find? fun f => f.kd == x.kd && f.op == x.op) := Lib.hid rfl
  have hNew := In11.new w x 37
  obtain ⟨kd, op, x2, x3, x4, x5, x6, x7, x8, x9, x10⟩ := x
  generalize formOf ⟨kd, op, x2, x3, x4, x5, x6, x7, x8, x9, x10⟩ = R at *
  have HR := Lib.hid fun c1 c2 => fm_range (w := (w.alloc c1).alloc c2) (hL.later (by repeat (first | exact Below.refl _ _ | assumption | (refine below_drewN ?_ _) | (refine Below.drew ?_) | (refine Below.alloc ?_ (by first | omega | (simp; omega) | simp) _) | (refine Below.setCell ?_ (by first | omega | (simp; omega) | simp) _) | (refine below_trans ?_ (by assumption) (by first | omega | (simp; omega) | simp)))))
  have HZ := Lib.hid fm_size
  have HAT := Lib.hid fm_at
  unfold FV at HAT
  generalize fmCells = cs at *
  have HN := Lib.hid hNew
  clear hNew
  unfold inv
  simp only
  go_enter Tryz.func50, Tryz.ntmps50
  go_wp2_with (refine wpList_load_mid rfl 126 _ rfl 0 0 rfl cs _ (HR.out _ _) Tryz.underlying126 rfl HZ.out ?_)
  go_loopw [7] (fun ii wr => ∃ k : Nat, ii = .int .i64 (k : Nat) ∧ k ≤ 20 ∧ Hid (R = (fms.drop k).find? fun f => f.kd == kd && f.op == op) ∧ wr.cell? ⟨w.heap.size, 0, none⟩ = some (.int .u8 kd) ∧ wr.cell? ⟨w.heap.size, 1, none⟩ = some (.int .u8 op) ∧ Hid (Fm6 wr (w.heap.size + 1) fm0) ∧ Hid (∀ o, wr.frozen? ⟨w.heap.size + 1, o, none⟩ = false) ∧ Below w.heap.size w wr) (fun ii _ => 20 - (intOf ii).toNat)
  case atStart => exact ⟨0, rfl, Nat.zero_le _, HF, by simp [go_sem], by simp [go_sem], Lib.hid (by constructor <;> simp [go_sem, fm0, opn, bs]), Lib.hid (fun o => by simp [go_sem]), (by repeat (first | exact Below.refl _ _ | assumption | (refine below_drewN ?_ _) | (refine Below.drew ?_) | (refine Below.alloc ?_ (by first | omega | (simp; omega) | simp) _) | (refine Below.setCell ?_ (by first | omega | (simp; omega) | simp) _) | (refine below_trans ?_ (by assumption) (by first | omega | (simp; omega) | simp))))⟩
  case round =>
    obtain ⟨k, rfl, hk, HK, c0, c1, HB, HFZ, hb_wr⟩ := hrel
    have hsr := hb_wr.size
    have hg1 := HB.out.lt
    have hs0 : w.heap.size < wr.heap.size := by omega
    by_cases hlt : k < 20
    · have hd := HK.out
      rw [fms_drop k hlt, List.find?_cons] at hd
      have HD := Lib.hid hd
      have HA := Lib.hid fun W => HAT.out W k hlt
      have hk0 : (0 : Int) ≤ (k : Int) := by omega
      have hk1 : (k : Int) < 20 := by omega
      clear hd HAT HK
      generalize nthF k = f at *
      have HA2 := HA.out
      clear HA
      have hfm : fmv f = .agg #[.string (bs f.nm), .int .u8 f.kd, .int .u8 f.op, .int .i64 (opn f 0), .int .i64 (opn f 1), .int .i64 (opn f 2)] := rfl
      rw [hfm] at HA2
      clear hfm
      obtain ⟨b0, b1, b2, b3, b4, b5⟩ := id HB.out
      obtain ⟨z0, z1, z2, z3, z4, z5⟩ := (⟨HFZ.out 0, HFZ.out 1, HFZ.out 2, HFZ.out 3, HFZ.out 4, HFZ.out 5⟩ : _ ∧ _ ∧ _ ∧ _ ∧ _ ∧ _)
      have W6 : Below wr.heap.size wr (wr.alloc (.cells #[.string (bs f.nm), .int .u8 f.kd, .int .u8 f.op, .int .i64 (opn f 0), .int .i64 (opn f 1), .int .i64 (opn f 2)] 99)) := Below.alloc (Below.refl _ _) (Nat.le_refl _) _
      have HW6 := Lib.hid W6
      have hc6 : Hid (∀ o, (wr.alloc (.cells #[.string (bs f.nm), .int .u8 f.kd, .int .u8 f.op, .int .i64 (opn f 0), .int .i64 (opn f 1), .int .i64 (opn f 2)] 99)).cell? ⟨w.heap.size, o, none⟩ = wr.cell? ⟨w.heap.size, o, none⟩) := Lib.hid fun o => (bcell W6).1 _ _ hs0
      clear W6
      by_cases h1 : f.kd = kd
      · have e1 : (f.kd == kd) = true := by simpa using h1
        by_cases h2 : f.op = op
        · have e2 : (f.op == op) = true := by simpa using h2
          have hR := HD.out
          rw [e1, e2] at hR
          have HR9 : Hid (R = some f) := Lib.hid hR
          clear hR HD h1 h2 HFZ
          go_wp2
          rw [HR9.out]
          exact bodyPost_ret (res_fm2 rfl rfl ((Fm6.set6 f HB.out).later (Below.alloc (Below.refl _ _) (Nat.le_refl _) _))) rfl ⟨rfl, Below.alloc (below_set6 f hb_wr (by omega)) (by simp; omega) _⟩
        · have e2 : (f.op == op) = false := by simpa using h2
          have hR := HD.out
          rw [e1, e2] at hR
          have HR9 := Lib.hid hR
          clear hR HD h1 h2
          go_wp2
          go_roundw
          case rel => exact ⟨k + 1, by go_num, by omega, HR9, (hc6.out _).trans c0, (hc6.out _).trans c1, Lib.hid (HB.out.later HW6.out), Lib.hid (fz_later HFZ.out HW6.out hg1), below_trans hb_wr HW6.out (by omega)⟩
          case measure => simp [intOf]; omega
      · have e1 : (f.kd == kd) = false := by simpa using h1
        have hR := HD.out
        rw [e1] at hR
        have HR9 := Lib.hid hR
        clear hR HD h1
        go_wp2
        go_roundw
        case rel => exact ⟨k + 1, by go_num, by omega, HR9, (hc6.out _).trans c0, (hc6.out _).trans c1, Lib.hid (HB.out.later HW6.out), Lib.hid (fz_later HFZ.out HW6.out hg1), below_trans hb_wr HW6.out (by omega)⟩
        case measure => simp [intOf]; omega
    · obtain rfl : k = 20 := by omega
      have HR9 : Hid (R = none) := Lib.hid HK.out
      obtain ⟨b0, b1, b2, b3, b4, b5⟩ := id HB.out
      obtain ⟨z0, z1, z2, z3, z4, z5⟩ := (⟨HFZ.out 0, HFZ.out 1, HFZ.out 2, HFZ.out 3, HFZ.out 4, HFZ.out 5⟩ : _ ∧ _ ∧ _ ∧ _ ∧ _ ∧ _)
      clear HK HFZ
      go_wp2
      rw [HR9.out]
      exact bodyPost_ret (res_fm2 rfl rfl (Fm6.zero6 HB.out)) rfl ⟨rfl, below_zero6 hb_wr (by omega)⟩
end
end Go.Proofs.YtggaijdbaplfiaaGreatDoor

/- Contracts of package asm: named. -/
namespace Go.Proofs.YtggaijdbaplfiaaGreatDoor
open Go.RowKit
set_option linter.unusedVariables false
set_option linter.unusedSimpArgs false
theorem list_bytes (a b : ByteArray) : (a.toList == b.toList) = decide (a.data.toList = b.data.toList) := by
  rw [ByteArray.toList_eq, ByteArray.toList_eq, Bool.eq_iff_iff]
  simp
section
variable {w : World}
set_option maxRecDepth 100000 in
set_option maxHeartbeats 4000000 in
theorem named_any (s : ByteArray) (hL : Lw w) : Calls Tryz.prog 69 #[.string s] w fun e w' => e = .returned (.tuple #[fmv ((fnamed s.data.toList).getD fm0), .bool (fnamed s.data.toList).isSome]) ∧ Below w.heap.size w w' := by
  have HF : Hid (fnamed s.data.toList = (fms.drop 0).find? fun f => f.nm == s.data.toList) := Lib.hid rfl
  generalize fnamed s.data.toList = R at *
  have HR := Lib.hid fun c1 => fm_range (w := w.alloc c1) (hL.later (by repeat (first | exact Below.refl _ _ | assumption | (refine below_drewN ?_ _) | (refine Below.drew ?_) | (refine Below.alloc ?_ (by first | omega | (simp; omega) | simp) _) | (refine Below.setCell ?_ (by first | omega | (simp; omega) | simp) _) | (refine below_trans ?_ (by assumption) (by first | omega | (simp; omega) | simp)))))
  have HZ := Lib.hid fm_size
  have HAT := Lib.hid fm_at
  unfold FV at HAT
  generalize fmCells = cs at *
  go_enter Tryz.func69, Tryz.ntmps69
  go_wp2_with (refine wpList_load_mid rfl 126 _ rfl 0 0 rfl cs _ (HR.out _) Tryz.underlying126 rfl HZ.out ?_)
  go_loopw [7] (fun ii wr => ∃ k : Nat, ii = .int .i64 (k : Nat) ∧ k ≤ 20 ∧ Hid (R = (fms.drop k).find? fun f => f.nm == s.data.toList) ∧ Hid (Fm6 wr w.heap.size fm0) ∧ Hid (∀ o, wr.frozen? ⟨w.heap.size, o, none⟩ = false) ∧ Below w.heap.size w wr) (fun ii _ => 20 - (intOf ii).toNat)
  case atStart => exact ⟨0, rfl, Nat.zero_le _, HF, Lib.hid (by constructor <;> simp [go_sem, fm0, opn, bs]), Lib.hid (fun o => by simp [go_sem]), (by repeat (first | exact Below.refl _ _ | assumption | (refine below_drewN ?_ _) | (refine Below.drew ?_) | (refine Below.alloc ?_ (by first | omega | (simp; omega) | simp) _) | (refine Below.setCell ?_ (by first | omega | (simp; omega) | simp) _) | (refine below_trans ?_ (by assumption) (by first | omega | (simp; omega) | simp))))⟩
  case round =>
    obtain ⟨k, rfl, hk, HK, HB, HFZ, hb_wr⟩ := hrel
    have hsr := hb_wr.size
    have hg1 := HB.out.lt
    by_cases hlt : k < 20
    · have hd := HK.out
      rw [fms_drop k hlt, List.find?_cons] at hd
      have HD := Lib.hid hd
      have HA := Lib.hid fun W => HAT.out W k hlt
      have hk0 : (0 : Int) ≤ (k : Int) := by omega
      have hk1 : (k : Int) < 20 := by omega
      clear hd HAT HK
      generalize nthF k = f at *
      have HA2 := HA.out
      clear HA
      have hfm : fmv f = .agg #[.string (bs f.nm), .int .u8 f.kd, .int .u8 f.op, .int .i64 (opn f 0), .int .i64 (opn f 1), .int .i64 (opn f 2)] := rfl
      rw [hfm] at HA2
      clear hfm
      obtain ⟨b0, b1, b2, b3, b4, b5⟩ := id HB.out
      obtain ⟨z0, z1, z2, z3, z4, z5⟩ := (⟨HFZ.out 0, HFZ.out 1, HFZ.out 2, HFZ.out 3, HFZ.out 4, HFZ.out 5⟩ : _ ∧ _ ∧ _ ∧ _ ∧ _ ∧ _)
      have W6 : Below wr.heap.size wr (wr.alloc (.cells #[.string (bs f.nm), .int .u8 f.kd, .int .u8 f.op, .int .i64 (opn f 0), .int .i64 (opn f 1), .int .i64 (opn f 2)] 99)) := Below.alloc (Below.refl _ _) (Nat.le_refl _) _
      have HW6 := Lib.hid W6
      clear W6
      by_cases h1 : f.nm = s.data.toList
      · have e1 : ((bs f.nm).toList == s.toList) = true := by rw [list_bytes, bs_data]; simpa using h1
        have e0 : (f.nm == s.data.toList) = true := by simpa using h1
        have hR := HD.out
        rw [e0] at hR
        have HR9 : Hid (R = some f) := Lib.hid hR
        clear hR HD h1 HFZ e0
        go_wp2
        rw [HR9.out]
        exact bodyPost_ret (res_fm2 rfl rfl ((Fm6.set6 f HB.out).later (Below.alloc (Below.refl _ _) (Nat.le_refl _) _))) rfl ⟨rfl, Below.alloc (below_set6 f hb_wr (by omega)) (by simp; omega) _⟩
      · have e1 : ((bs f.nm).toList == s.toList) = false := by rw [list_bytes, bs_data]; simpa using h1
        have e0 : (f.nm == s.data.toList) = false := by simpa using h1
        have hR := HD.out
        rw [e0] at hR
        have HR9 := Lib.hid hR
        clear hR HD h1 e0
        go_wp2
        go_roundw
        case rel => exact ⟨k + 1, by go_num, by omega, HR9, Lib.hid (HB.out.later HW6.out), Lib.hid (fz_later HFZ.out HW6.out hg1), below_trans hb_wr HW6.out (by omega)⟩
        case measure => simp [intOf]; omega
    · obtain rfl : k = 20 := by omega
      have HR9 : Hid (R = none) := Lib.hid HK.out
      obtain ⟨b0, b1, b2, b3, b4, b5⟩ := id HB.out
      obtain ⟨z0, z1, z2, z3, z4, z5⟩ := (⟨HFZ.out 0, HFZ.out 1, HFZ.out 2, HFZ.out 3, HFZ.out 4, HFZ.out 5⟩ : _ ∧ _ ∧ _ ∧ _ ∧ _ ∧ _)
      clear HK HFZ
      go_wp2
      rw [HR9.out]
      exact bodyPost_ret (res_fm2 rfl rfl (Fm6.zero6 HB.out)) rfl ⟨rfl, below_zero6 hb_wr (by omega)⟩
end
end Go.Proofs.YtggaijdbaplfiaaGreatDoor
