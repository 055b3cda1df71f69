/- Contracts of package head and of the document's own answers for it: words taken apart, fields. -/
import Derived.Test.YtbefjhgegoginaaDoorJ2
import Derived.Laws.ResultCell
namespace Go.Proofs.YtbefjhgegoginaaDoor
open Go.RowKit
set_option linter.unusedVariables false
set_option linter.unusedSimpArgs false

theorem res_shape {fn : Func} {p u : Tmp} (h : fn.results = #[.cell p 24, .tmp u]) {tmps : Array Value} {w : World} {g : Nat} {v0 v1 : Value} (hp : tmps.getD p undef = .pointer (some ⟨g, 0, none⟩))
    (h0 : w.cell? ⟨g, 0, none⟩ = some v0) (h1 : w.cell? ⟨g, 1, none⟩ = some v1) : (results fn tmps).run Tryd.prog w = .ok (.tuple #[.agg #[v0, v1], tmps.getD u undef]) w := by
  rw [results_cell_tmp h, hp]
  simp [go_sem, Result.andThen, h0, h1, asAddr]
def rfB (n : Int) (m : Nat) (f : Int) : Bool := if Sh n m ∧ 0 ≤ f ∧ f < n then m.testBit f.toNat else false
def rfY (n : Int) (m : Nat) (f : Int) : Int := if Sh n m then (if 0 ≤ f ∧ f < n then 0 else 9) else 2
instance (n : Int) (xs : List Int) (k : Nat) : Decidable (AllF n xs k) := inferInstanceAs (Decidable (∀ j, j < k → _))
def rsN (n : Int) (m : Nat) (xs : List Int) : Int := if Sh n m ∧ AllF n xs xs.length then (cnt m xs xs.length : Nat) else 0
def rsY (n : Int) (m : Nat) (xs : List Int) : Int := if Sh n m then (if AllF n xs xs.length then 0 else 9) else 2
def nxN (n : Int) (m : Nat) (a : Int) : Int := if Sh n m ∧ 0 ≤ a ∧ a ≤ n then (match nx m a.toNat (n - a).toNat with | some i => (i : Int) | none => 0) else 0
def nxY (n : Int) (m : Nat) (a : Int) : Int := if Sh n m then (if 0 ≤ a ∧ a ≤ n then (match nx m a.toNat (n - a).toNat with | some _ => 0 | none => 3) else 1) else 2
theorem nx_skip {m : Nat} {a k : Nat} (h : m.testBit a = false) : nx m a (k + 1) = nx m (a + 1) k := by rw [nx, h]; rfl
theorem nx_hit {m : Nat} {a k : Nat} (h : m.testBit a = true) : nx m a (k + 1) = some a := by rw [nx, h]; rfl

section
variable {n : Int} {m : Nat} {w : World}
theorem and255 (x : Nat) (hx : x < W64) : Go.bits .and .u64 (x : Int) 255 = uN x ∧ Go.bits .and .u64 ((x : Int) / 256) 281474976710655 = ((uM x : Nat) : Int) := by
  have e1 : (255 : Int) = ((255 : Nat) : Int) := rfl
  have e2 : (281474976710655 : Int) = ((281474976710655 : Nat) : Int) := rfl
  have e3 : (x : Int) / 256 = ((x / 256 : Nat) : Int) := by omega
  have h8 : x &&& 255 = x % 256 := Nat.and_two_pow_sub_one_eq_mod x 8
  have h48 : (x / 256) &&& 281474976710655 = x / 256 % 281474976710656 := Nat.and_two_pow_sub_one_eq_mod (x / 256) 48
  unfold W64 at hx
  constructor
  · rw [e1, u64_and_nat _ _ hx (by decide), h8]; rfl
  · rw [e2, e3, u64_and_nat _ _ (by omega) (by decide), h48]; rfl
theorem uM_lt (x : Nat) : uM x < W64 := by unfold uM W64; omega
theorem hcheck_at {a b : Int} (ha : a = n) (hb : b = ((m : Nat) : Int)) (hm : m < W64) (y : Int) (hy : (Sh n m ∧ y = 0) ∨ (¬ Sh n m ∧ y = 2)) :
    Calls Tryd.prog 16 #[.agg #[.int .i64 a, .int .u64 b]] w fun e w' => e = .returned (.int .i64 y) ∧ Below w.heap.size w w' := by
  subst ha hb
  rcases hy with ⟨h, rfl⟩ | ⟨h, rfl⟩
  · exact hcheck_ok h
  · exact hcheck_bad hm h
def unN (x : Nat) : Int := if Un x then uN x else 0
def unM (x : Nat) : Nat := if Un x then uM x else 0
def unY (x : Nat) : Int := if Un x then 0 else 2
theorem hunpack_any (x : Nat) (hx : x < W64) :
    Calls Tryd.prog 13 #[.int .u64 (x : Nat)] w fun e w' => e = .returned (.tuple #[.agg #[.int .i64 (unN x), .int .u64 (unM x : Nat)], .int .i64 (unY x)]) ∧ Below w.heap.size w w' := by
  obtain ⟨e1, e2⟩ := and255 x hx
  have b1 : 0 ≤ Go.bits .and .u64 (x : Int) 255 ∧ Go.bits .and .u64 (x : Int) 255 ≤ 255 := by rw [e1]; unfold uN; omega
  by_cases ht : x / 72057594037927936 = 165
  · have hd : ((x : Int) / 72057594037927936 != 165) = false := by simp; omega
    by_cases h : Sh (uN x) (uM x)
    · have hu : Un x := ⟨ht, h⟩
      have k1 : Hid (unN x = uN x) := Lib.hid (if_pos hu)
      have k2 : Hid (unM x = uM x) := Lib.hid (if_pos hu)
      have k3 : Hid (unY x = 0) := Lib.hid (if_pos hu)
      have hH := Lib.hid h
      have E1 := Lib.hid e1
      have E2 := Lib.hid e2
      rw [k1.out, k2.out, k3.out]
      clear h hu e1 e2 ht
      go_enter Tryd.func13, Tryd.ntmps13
      go_wp2_with (go_at_call 16; refine (hcheck_at E1.out E2.out (uM_lt x) 0 (.inl ⟨hH.out, rfl⟩)).mono ?_; rintro e w1 ⟨rfl, hb_w1⟩; obtain ⟨hc_w1, hf_w1⟩ := bcell hb_w1; have hz_w1_w_0 : w.heap.size < w1.heap.size := (by have hzz := hb_w1.size; (try simp only [World.size_alloc, World.size_setCell, World.size_drew, World.heap_drewN] at hzz); omega); have hz_w1_w_1 : w.heap.size + 1 < w1.heap.size := (by have hzz := hb_w1.size; (try simp only [World.size_alloc, World.size_setCell, World.size_drew, World.heap_drewN] at hzz); omega); have hs_w1 := hb_w1.size; (try simp only [World.size_alloc, World.size_setCell, World.size_drew, World.heap_drewN] at hs_w1))
      have j0 : w1.cell? ⟨w.heap.size, 0, none⟩ = _ := (hc_w1 _ _ (by first | omega | (simp; omega) | simp)).trans (by simp [go_sem]; rfl)
      have j1 : w1.cell? ⟨w.heap.size, 1, none⟩ = _ := (hc_w1 _ _ (by first | omega | (simp; omega) | simp)).trans (by simp [go_sem]; rfl)
      rw [E1.out, E2.out]
      exact bodyPost_ret (res_shape rfl rfl (set_two _ _ j0 j1).1 (set_two _ _ j0 j1).2) rfl ⟨rfl, (by repeat (first | exact Below.refl _ _ | assumption | (refine below_drewN ?_ _) | (refine Below.drew ?_) | (refine Below.alloc ?_ (by first | omega | (simp; omega) | simp) _) | (refine Below.setCell ?_ (by first | omega | (simp; omega) | simp) _) | (refine below_trans ?_ (by assumption) (by first | omega | (simp; omega) | simp))))⟩
    · have hu : ¬ Un x := fun hh => h hh.2
      have k1 : Hid (unN x = 0) := Lib.hid (if_neg hu)
      have k2 : Hid (unM x = 0) := Lib.hid (if_neg hu)
      have k3 : Hid (unY x = 2) := Lib.hid (if_neg hu)
      have hH := Lib.hid h
      have E1 := Lib.hid e1
      have E2 := Lib.hid e2
      rw [k1.out, k2.out, k3.out]
      clear h hu e1 e2 ht
      go_enter Tryd.func13, Tryd.ntmps13
      go_wp2_with (go_at_call 16; refine (hcheck_at E1.out E2.out (uM_lt x) 2 (.inr ⟨hH.out, rfl⟩)).mono ?_; rintro e w1 ⟨rfl, hb_w1⟩; obtain ⟨hc_w1, hf_w1⟩ := bcell hb_w1; have hz_w1_w_0 : w.heap.size < w1.heap.size := (by have hzz := hb_w1.size; (try simp only [World.size_alloc, World.size_setCell, World.size_drew, World.heap_drewN] at hzz); omega); have hz_w1_w_1 : w.heap.size + 1 < w1.heap.size := (by have hzz := hb_w1.size; (try simp only [World.size_alloc, World.size_setCell, World.size_drew, World.heap_drewN] at hzz); omega); have hs_w1 := hb_w1.size; (try simp only [World.size_alloc, World.size_setCell, World.size_drew, World.heap_drewN] at hs_w1))
      have j0 : w1.cell? ⟨w.heap.size, 0, none⟩ = _ := (hc_w1 _ _ (by first | omega | (simp; omega) | simp)).trans (by simp [go_sem]; rfl)
      have j1 : w1.cell? ⟨w.heap.size, 1, none⟩ = _ := (hc_w1 _ _ (by first | omega | (simp; omega) | simp)).trans (by simp [go_sem]; rfl)
      exact bodyPost_ret (res_shape rfl rfl (set_two _ _ j0 j1).1 (set_two _ _ j0 j1).2) rfl ⟨rfl, (by repeat (first | exact Below.refl _ _ | assumption | (refine below_drewN ?_ _) | (refine Below.drew ?_) | (refine Below.alloc ?_ (by first | omega | (simp; omega) | simp) _) | (refine Below.setCell ?_ (by first | omega | (simp; omega) | simp) _) | (refine below_trans ?_ (by assumption) (by first | omega | (simp; omega) | simp))))⟩
  · have hd : ((x : Int) / 72057594037927936 != 165) = true := by simp; omega
    have hu : ¬ Un x := fun hh => ht hh.1
    have k1 : Hid (unN x = 0) := Lib.hid (if_neg hu)
    have k2 : Hid (unM x = 0) := Lib.hid (if_neg hu)
    have k3 : Hid (unY x = 2) := Lib.hid (if_neg hu)
    rw [k1.out, k2.out, k3.out]
    clear hu e1 e2 ht
    go_enter Tryd.func13, Tryd.ntmps13
    go_wp2
    refine bodyPost_ret (res_shape (v0 := .int .i64 0) (v1 := .int .u64 0) rfl rfl ?_ ?_) rfl ⟨rfl, (by repeat (first | exact Below.refl _ _ | assumption | (refine below_drewN ?_ _) | (refine Below.drew ?_) | (refine Below.alloc ?_ (by first | omega | (simp; omega) | simp) _) | (refine Below.setCell ?_ (by first | omega | (simp; omega) | simp) _) | (refine below_trans ?_ (by assumption) (by first | omega | (simp; omega) | simp))))⟩
    · trace_state; simp [go_sem]
    · simp [go_sem]
end
end Go.Proofs.YtbefjhgegoginaaDoor
