/- Contracts of the document's own answers for bits: one bit, the check, whether two are one. -/
import Derived.Test.YtcokfdgbgeeabaaCheck
import Derived.LoopTactic
namespace Go.Proofs.Ytcokfdgbgeeabaa
open Go.RowKit

theorem is_core (i n : Int) (b off len cap x : Nat) (w : World) (h0 : 0 ≤ i) (h1 : i < 64 * len) (hl : len ≤ 64) (hb : b < w.heap.size)
    (hw : w.cell? ⟨b, off + (i / 64).toNat, none⟩ = some (.int .u64 x)) :
    Calls Try.prog 35 #[.agg #[.int .i64 n, .slice (some ⟨b, off, none⟩) len cap], .int .i64 i] w fun e w' => e = .returned (.bool (x.testBit (i % 64).toNat)) ∧ Below w.heap.size w w' := by
  go_enter Try.func35, Try.ntmps35
  go_wp2
  go_ret
  exact ⟨by show Ending.returned (.bool (((x : Int) / 2 ^ (i % 64).toNat).tmod 2 == 1)) = _; rw [is_form], (by repeat (first | exact Below.refl _ _ | assumption | (refine below_drewN ?_ _) | (refine Below.drew ?_) | (refine Below.alloc ?_ (by first | omega | (simp; omega) | simp) _) | (refine Below.setCell ?_ (by first | omega | (simp; omega) | simp) _) | (refine below_trans ?_ (by assumption) (by first | omega | (simp; omega) | simp))))⟩

theorem is_any {A : Option Addr} {ws : List Nat} {w : World} (i n : Int) (cap : Nat) (hr : Row w w.heap.size A ws) (h0 : 0 ≤ i) (h1 : i < 64 * ws.length) (hl : ws.length ≤ 64) :
    Calls Try.prog 35 #[.agg #[.int .i64 n, .slice A ws.length cap], .int .i64 i] w fun e w' => e = .returned (.bool (tb ws i.toNat)) ∧ Below w.heap.size w w' := by
  obtain ⟨b, off, rfl, hb, hc⟩ := hr.at_ (by omega)
  have := is_core i n b off ws.length cap _ w h0 h1 hl hb (hc (i / 64).toNat (by omega))
  unfold tb
  rw [show i.toNat / 64 = (i / 64).toNat by omega, show i.toNat % 64 = (i % 64).toNat by omega]
  exact this

section
variable (n : Int) (A : Option Addr) (len cap : Nat) (w : World)
theorem rcheck_neg (h : n < 0) :
    Calls Try.prog 42 #[.agg #[.int .i64 n, .slice A len cap]] w fun e w' => e = .returned (.int .i64 2) ∧ Below w.heap.size w w' := by
  have hd : decide (n < 0) = true := by simpa using h
  go_enter Try.func42, Try.ntmps42
  go_wp2
  go_ret
  exact ⟨rfl, (by repeat (first | exact Below.refl _ _ | assumption | (refine below_drewN ?_ _) | (refine Below.drew ?_) | (refine Below.alloc ?_ (by first | omega | (simp; omega) | simp) _) | (refine Below.setCell ?_ (by first | omega | (simp; omega) | simp) _) | (refine below_trans ?_ (by assumption) (by first | omega | (simp; omega) | simp))))⟩
theorem rcheck_big (h0 : 0 ≤ n) (h : 4096 < n) :
    Calls Try.prog 42 #[.agg #[.int .i64 n, .slice A len cap]] w fun e w' => e = .returned (.int .i64 2) ∧ Below w.heap.size w w' := by
  have hd : decide (n < 0) = false := by simpa using h0
  have hd2 : decide (4096 < n) = true := by simpa using h
  go_enter Try.func42, Try.ntmps42
  go_wp2
  go_ret
  exact ⟨rfl, (by repeat (first | exact Below.refl _ _ | assumption | (refine below_drewN ?_ _) | (refine Below.drew ?_) | (refine Below.alloc ?_ (by first | omega | (simp; omega) | simp) _) | (refine Below.setCell ?_ (by first | omega | (simp; omega) | simp) _) | (refine below_trans ?_ (by assumption) (by first | omega | (simp; omega) | simp))))⟩
theorem rcheck_len (h0 : 0 ≤ n) (h1 : n ≤ 4096) (h : (len : Int) ≠ (n + 63) / 64) :
    Calls Try.prog 42 #[.agg #[.int .i64 n, .slice A len cap]] w fun e w' => e = .returned (.int .i64 2) ∧ Below w.heap.size w w' := by
  have hd : decide (n < 0) = false := by simpa using h0
  have hd2 : decide (4096 < n) = false := by simpa using h1
  have hd3 : ((len : Int) != (n + 63) / 64) = true := by simpa using h
  clear h
  go_enter Try.func42, Try.ntmps42
  go_wp2
  go_ret
  exact ⟨rfl, (by repeat (first | exact Below.refl _ _ | assumption | (refine below_drewN ?_ _) | (refine Below.drew ?_) | (refine Below.alloc ?_ (by first | omega | (simp; omega) | simp) _) | (refine Below.setCell ?_ (by first | omega | (simp; omega) | simp) _) | (refine below_trans ?_ (by assumption) (by first | omega | (simp; omega) | simp))))⟩
end

/-- what a check answers -/
def RC (n : Int) (ws : List Nat) (e : Ending) : Prop := (Right n ws ∧ e = .returned (.int .i64 0)) ∨ (¬ Right n ws ∧ e = .returned (.int .i64 2))
def ZeroTo (n : Int) (ws : List Nat) (k : Nat) : Prop := ∀ j, n.toNat ≤ j → j < k → tb ws j = false

theorem rcheck_loop (n : Int) (A : Option Addr) (cap : Nat) (ws : List Nat) (w : World) (hr : Row w w.heap.size A ws) (h0 : 0 ≤ n) (h1 : n ≤ 4096) (h : (ws.length : Int) = (n + 63) / 64) :
    Calls Try.prog 42 #[.agg #[.int .i64 n, .slice A ws.length cap]] w fun e w' => RC n ws e ∧ Below w.heap.size w w' := by
  have hd : decide (n < 0) = false := by simpa using h0
  have hd2 : decide (4096 < n) = false := by simpa using h1
  have hd3 : ((ws.length : Int) != (n + 63) / 64) = false := by simpa using h
  have hl : ws.length ≤ 64 := by omega
  have hn : n ≤ 64 * ws.length := by omega
  have H := Lib.hid h
  clear h
  go_enter Try.func42, Try.ntmps42
  go_wp2
  go_loopw [3] (fun i wr => ∃ k : Nat, i = .int .i64 k ∧ n.toNat ≤ k ∧ k ≤ 64 * ws.length ∧ ZeroTo n ws k ∧ Below w.heap.size w wr ∧ w.heap.size < wr.heap.size ∧
      wr.cell? ⟨w.heap.size, 0, none⟩ = some (.int .i64 n) ∧ wr.cell? ⟨w.heap.size, 1, none⟩ = some (.slice A ws.length cap)) (fun i _ => 64 * ws.length - (intOf i).toNat)
  case atStart => exact ⟨n.toNat, by rw [Int.toNat_of_nonneg h0], Nat.le_refl _, by omega, fun j h1 h2 => by omega, (by repeat (first | exact Below.refl _ _ | assumption | (refine below_drewN ?_ _) | (refine Below.drew ?_) | (refine Below.alloc ?_ (by first | omega | (simp; omega) | simp) _) | (refine Below.setCell ?_ (by first | omega | (simp; omega) | simp) _) | (refine below_trans ?_ (by assumption) (by first | omega | (simp; omega) | simp)))), by simp, by simp [go_sem], by simp [go_sem]⟩
  case round =>
    obtain ⟨k, rfl, hk1, hk2, hz, hB, hsz, hc0, hc1⟩ := hrel
    have hrr : Row wr wr.heap.size A ws := (hr.below hB).more hB.size
    by_cases hlt : k < 64 * ws.length
    · go_wp2_with (go_at_call 35; refine (is_any _ _ _ hrr (by omega) (by omega) hl).mono ?_; rintro e w' ⟨rfl, hb⟩; simp only [Int.toNat_natCast])
      · have ht : tb ws k = true := by assumption
        go_ret
        exact ⟨.inr ⟨(fun hR => Bool.noConfusion ((hR.2.2.2 k hk1 hlt).symm.trans ht)), rfl⟩, below_trans hB hb hB.size⟩
      · have ht : tb ws k = false := by assumption
        go_roundw
        case rel => exact ⟨k + 1, by go_num, by omega, by omega, fun j h1 h2 => by
            by_cases e : j = k
            · rw [e]; exact ht
            · exact hz j h1 (by omega), below_trans hB hb hB.size, Nat.lt_of_lt_of_le hsz hb.size, by rw [(bcell hb).1 _ _ hsz]; exact hc0, by rw [(bcell hb).1 _ _ hsz]; exact hc1⟩
        case measure => simp [intOf]; omega
    · go_wp2
      go_ret
      exact ⟨.inl ⟨⟨h0, h1, by have := H.out; omega, fun j h1 h2 => hz j h1 (by omega)⟩, rfl⟩, hB⟩

theorem rcheck_any {n : Int} {A : Option Addr} {ws : List Nat} {w : World} (cap : Nat) (hr : Row w w.heap.size A ws) :
    Calls Try.prog 42 #[.agg #[.int .i64 n, .slice A ws.length cap]] w fun e w' => RC n ws e ∧ Below w.heap.size w w' := by
  by_cases h0 : n < 0
  · exact (rcheck_neg n A _ cap w h0).mono fun _ _ ⟨he, hb⟩ => ⟨.inr ⟨fun h => by have := h.1; omega, he⟩, hb⟩
  by_cases h1 : 4096 < n
  · exact (rcheck_big n A _ cap w (by omega) h1).mono fun _ _ ⟨he, hb⟩ => ⟨.inr ⟨fun h => by have := h.2.1; omega, he⟩, hb⟩
  by_cases h2 : (ws.length : Int) = (n + 63) / 64
  · exact rcheck_loop n A cap ws w hr (by omega) (by omega) h2
  · exact (rcheck_len n A _ cap w (by omega) (by omega) h2).mono fun _ _ ⟨he, hb⟩ => ⟨.inr ⟨fun h => by have := h.2.2.1; have := h.1; omega, he⟩, hb⟩
theorem rcheck_ok {n : Int} {A : Option Addr} {ws : List Nat} {w : World} (cap : Nat) (hr : Row w w.heap.size A ws) (h : Right n ws) :
    Calls Try.prog 42 #[.agg #[.int .i64 n, .slice A ws.length cap]] w fun e w' => e = .returned (.int .i64 0) ∧ Below w.heap.size w w' :=
  (rcheck_any cap hr).mono fun _ _ ⟨he, hb⟩ => ⟨by rcases he with he | he; exact he.2; exact absurd h he.1, hb⟩
theorem rcheck_bad {n : Int} {A : Option Addr} {ws : List Nat} {w : World} (cap : Nat) (hr : Row w w.heap.size A ws) (h : ¬ Right n ws) :
    Calls Try.prog 42 #[.agg #[.int .i64 n, .slice A ws.length cap]] w fun e w' => e = .returned (.int .i64 2) ∧ Below w.heap.size w w' :=
  (rcheck_any cap hr).mono fun _ _ ⟨he, hb⟩ => ⟨by rcases he with he | he; exact absurd he.1 h; exact he.2, hb⟩

def SameTo (ws ws' : List Nat) (k : Nat) : Prop := ∀ j, j < k → ws.getD j 0 = ws'.getD j 0
/-- a word of a list, under a name of its own -/
theorem named (ws : List Nat) (k : Nat) : ∃ x, Hid (ws.getD k 0 = x) := ⟨_, rfl⟩

theorem same_loop (n : Int) (A A' : Option Addr) (cap cap' : Nat) (ws ws' : List Nat) (w : World) (hr : Row w w.heap.size A ws) (hr' : Row w w.heap.size A' ws') (hl : ws.length = ws'.length) (hm : ws.length ≤ maxLen) :
    Calls Try.prog 36 #[.agg #[.int .i64 n, .slice A ws.length cap], .agg #[.int .i64 n, .slice A' ws.length cap']] w fun e w' => e = .returned (.bool (decide (ws = ws'))) ∧ Below w.heap.size w w' := by
  unfold maxLen at hm
  have H := Lib.hid hl
  clear hl
  have hd : (n != n) = false := by simp
  have hd2 : ((ws.length : Int) != (ws.length : Int)) = false := by simp
  go_enter Try.func36, Try.ntmps36
  go_wp2
  go_loopw [23] (fun i wr => ∃ k m : Nat, i = .int .i64 k ∧ k ≤ ws.length ∧ SameTo ws ws' k ∧ wr = ((w.alloc (Obj.cells #[Value.int IntKind.i64 n, Value.slice A ws.length cap] 24)).alloc (Obj.cells #[Value.int IntKind.i64 n, Value.slice A' ws.length cap'] 24)).drewN m)
    (fun i _ => ws.length - (intOf i).toNat)
  case atStart => exact ⟨0, 0, rfl, Nat.zero_le _, fun j h => by omega, rfl⟩
  case round =>
    obtain ⟨k, m, rfl, hk, hs, rfl⟩ := hrel
    by_cases hlt : k < ws.length
    · obtain ⟨b, off, rfl, hb, hc⟩ := hr.at_ (by omega)
      obtain ⟨b', off', rfl, hb', hc'⟩ := hr'.at_ (by have := H.out; omega)
      have hck := hc k hlt
      have hck' := hc' k (by have := H.out; omega)
      obtain ⟨x, hx⟩ := named ws k
      obtain ⟨x', hx'⟩ := named ws' k
      rw [hx.out] at hck
      rw [hx'.out] at hck'
      clear hc hc'
      go_wp2
      go_quiet (fail)
      go_wp2
      · have ht : ((x : Int) != (x' : Int)) = true := by assumption
        go_ret
        refine ⟨ret_bool (decide_eq_false ?_).symm, (by repeat (first | exact Below.refl _ _ | assumption | (refine below_drewN ?_ _) | (refine Below.drew ?_) | (refine Below.alloc ?_ (by first | omega | (simp; omega) | simp) _) | (refine Below.setCell ?_ (by first | omega | (simp; omega) | simp) _) | (refine below_trans ?_ (by assumption) (by first | omega | (simp; omega) | simp))))⟩
        rintro rfl
        rw [← hx.out, ← hx'.out] at ht
        simp at ht
      · have ht : ((x : Int) != (x' : Int)) = false := by assumption
        go_roundw
        case rel => exact ⟨k + 1, _, by go_num, by omega, fun j hj => by
            by_cases e : j = k
            · rw [e, hx.out, hx'.out]; have := bne_eq_false_iff_eq.1 ht; omega
            · exact hs j (by omega), rfl⟩
        case measure => simp [intOf]; omega
    · go_wp2
      go_ret
      exact ⟨ret_bool (decide_eq_true (List.ext_getElem H.out (fun i h1 h2 => by have := hs i (by omega); simpa [h1, h2] using this))).symm, (by repeat (first | exact Below.refl _ _ | assumption | (refine below_drewN ?_ _) | (refine Below.drew ?_) | (refine Below.alloc ?_ (by first | omega | (simp; omega) | simp) _) | (refine Below.setCell ?_ (by first | omega | (simp; omega) | simp) _) | (refine below_trans ?_ (by assumption) (by first | omega | (simp; omega) | simp))))⟩
end Go.Proofs.Ytcokfdgbgeeabaa
