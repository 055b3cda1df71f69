/- Contracts: the search among words by a function that is handed in; what exceeds. -/
import Derived.Test.YtkdbcoibapcmjaaN0
import Derived.Shelf.Abstract
namespace Go.Proofs.Ytkdbcoibapcmjaa
open Go.RowKit
set_option linter.unusedVariables false
set_option linter.unusedSimpArgs false

/-- what is handed in says p of each word of l, in each world that has what w has -/
def SaysW (g : FuncId) (lb : Array Value) (l : List Nat) (p : Nat → Bool) (w : World) : Prop :=
  ∀ (W : World) (s : Nat), Below w.heap.size w W → s ∈ l → Calls Try.prog g (#[.int .u64 (s : Nat)] ++ lb) W fun e W' => e = .returned (.bool (p s)) ∧ Below W.heap.size W W'
/-- the index that slices.IndexFunc tells -/
def ixF (l : List Nat) (p : Nat → Bool) : Int := if l.any p then ((l.findIdx p : Nat) : Int) else -1
theorem ixF_none {l : List Nat} {p : Nat → Bool} (h : ∀ j, j < l.length → p (l.getD j 0) = false) : l.any p = false := by
  rw [List.any_eq_false]
  intro x hx
  obtain ⟨i, hi, rfl⟩ := List.getElem_of_mem hx
  have := h i hi
  rw [List.getD_eq_getElem?_getD, List.getElem?_eq_getElem hi] at this
  rw [show p l[i] = false from this]
  simp
theorem getD_get (l : List Nat) (i : Nat) (hi : i < l.length) : l.getD i 0 = l[i] := by
  rw [List.getD_eq_getElem?_getD, List.getElem?_eq_getElem hi]
  rfl
theorem getD_mem (l : List Nat) (i : Nat) (hi : i < l.length) : l.getD i 0 ∈ l := by
  rw [getD_get l i hi]; exact List.getElem_mem hi
theorem ixF_at {l : List Nat} {p : Nat → Bool} {k : Nat} (hk : k < l.length) (h : ∀ j, j < k → p (l.getD j 0) = false) (hp : p (l.getD k 0) = true) : ixF l p = (k : Int) := by
  unfold ixF
  have h1 : l.any p = true := List.any_eq_true.2 ⟨_, getD_mem l k hk, hp⟩
  rw [if_pos h1]
  have h2 : l.findIdx p = k := by
    rw [List.findIdx_eq hk]
    refine ⟨by rw [← getD_get l k hk]; exact hp, fun j hj => ?_⟩
    have := h j hj
    rw [getD_get l j (by omega)] at this
    exact this
  rw [h2]
theorem ixF_has (l : List Nat) (p : Nat → Bool) : decide (0 ≤ ixF l p) = l.any p := by
  unfold ixF
  cases h : l.any p
  · simp
  · simp
section
variable {w : World} {A : Option Addr} {l : List Nat} (cap : Nat)
set_option maxHeartbeats 1000000 in
theorem windexf_any (g : FuncId) (lb : Array Value) (p : Nat → Bool) (eg : ∀ args w, (callFunc g args).run Try.prog w = .ok (.enter g args) w) (hr : Row w w.heap.size A l) (hl : l.length ≤ 17592186044416) (hs : SaysW g lb l p w) :
    Calls Try.prog 49 #[.slice A l.length cap, .func (.func g) #[] lb] w fun e w' => e = .returned (.int .i64 (ixF l p)) ∧ Below w.heap.size w w' := by
  have HS := Lib.hid hs
  clear hs
  go_enter Try.func49, Try.ntmps49
  go_wp2_with fail
  go_loopw [8] (fun ii wr => ∃ k : Nat, ii = .int .i64 (k : Nat) ∧ k ≤ l.length ∧ (∀ j, j < k → p (l.getD j 0) = false) ∧ Below w.heap.size w wr) (fun ii _ => l.length - (intOf ii).toNat)
  case atStart => exact ⟨0, rfl, Nat.zero_le _, fun j hj => by omega, (by repeat (first | exact Below.refl _ _ | assumption | (refine below_drewN ?_ _) | (refine Below.drew ?_) | (refine Below.alloc ?_ (by first | omega | (simp; omega) | simp) _) | (refine Below.setCell ?_ (by first | omega | (simp; omega) | simp) _) | (refine below_trans ?_ (by assumption) (by first | omega | (simp; omega) | simp))))⟩
  case round =>
    obtain ⟨k, rfl, hk, hA, hb_wr⟩ := hrel
    have hsr := hb_wr.size
    have HA := Lib.hid hA
    clear hA
    by_cases hlt : k < l.length
    · obtain ⟨b, off, rfl, hbb, c0⟩ := (hr.later hb_wr).cellAt (k := k) hlt
      have hcall := HS.out wr (l.getD k 0) hb_wr (getD_mem l k hlt)
      obtain ⟨d, hd⟩ : ∃ d, Hid (l.getD k 0 = d) := ⟨_, rfl⟩
      rw [hd.out] at c0 hcall
      have i1 : (k : Int) < (l.length : Int) := by omega
      have i2 : (0 : Int) ≤ (k : Int) := by omega
      rcases hq : p d with _ | _
      · rw [hq] at hcall
        have HC := Lib.hid hcall
        have HN : Hid (∀ j, j < k + 1 → p (l.getD j 0) = false) := Lib.hid fun j hj => by
          by_cases e : j = k
          · rw [e, hd.out]; exact hq
          · exact HA.out j (by omega)
        clear hcall
        go_wp2_with (refine HC.out.mono ?_; rintro e w1 ⟨rfl, hb_w1⟩; obtain ⟨hc_w1, hf_w1⟩ := bcell hb_w1; have hs_w1 := hb_w1.size; (try simp only [World.size_alloc, World.size_setCell, World.size_drew, World.heap_drewN] at hs_w1))
        go_roundw
        case rel => exact ⟨k + 1, by go_num, by omega, HN.out, (by repeat (first | exact Below.refl _ _ | assumption | (refine below_drewN ?_ _) | (refine Below.drew ?_) | (refine Below.alloc ?_ (by first | omega | (simp; omega) | simp) _) | (refine Below.setCell ?_ (by first | omega | (simp; omega) | simp) _) | (refine below_trans ?_ (by assumption) (by first | omega | (simp; omega) | simp))))⟩
        case measure => simp [intOf]; omega
      · rw [hq] at hcall
        have HC := Lib.hid hcall
        have HX : Hid (ixF l p = (k : Int)) := Lib.hid (ixF_at hlt HA.out (by rw [hd.out]; exact hq))
        clear hcall
        go_wp2_with (refine HC.out.mono ?_; rintro e w1 ⟨rfl, hb_w1⟩; obtain ⟨hc_w1, hf_w1⟩ := bcell hb_w1; have hs_w1 := hb_w1.size; (try simp only [World.size_alloc, World.size_setCell, World.size_drew, World.heap_drewN] at hs_w1))
        rw [HX.out]
        go_ret
        exact ⟨rfl, (by repeat (first | exact Below.refl _ _ | assumption | (refine below_drewN ?_ _) | (refine Below.drew ?_) | (refine Below.alloc ?_ (by first | omega | (simp; omega) | simp) _) | (refine Below.setCell ?_ (by first | omega | (simp; omega) | simp) _) | (refine below_trans ?_ (by assumption) (by first | omega | (simp; omega) | simp))))⟩
    · obtain rfl : k = l.length := by omega
      have HX : Hid (ixF l p = -1) := Lib.hid (by unfold ixF; rw [ixF_none HA.out]; rfl)
      go_wp2
      go_ret
      exact ⟨by rw [HX.out]; rfl, (by repeat (first | exact Below.refl _ _ | assumption | (refine below_drewN ?_ _) | (refine Below.drew ?_) | (refine Below.alloc ?_ (by first | omega | (simp; omega) | simp) _) | (refine Below.setCell ?_ (by first | omega | (simp; omega) | simp) _) | (refine below_trans ?_ (by assumption) (by first | omega | (simp; omega) | simp))))⟩
theorem wcontainsf_any (g : FuncId) (lb : Array Value) (p : Nat → Bool) (eg : ∀ args w, (callFunc g args).run Try.prog w = .ok (.enter g args) w) (hr : Row w w.heap.size A l) (hl : l.length ≤ 17592186044416) (hs : SaysW g lb l p w) :
    Calls Try.prog 46 #[.slice A l.length cap, .func (.func g) #[] lb] w fun e w' => e = .returned (.bool (l.any p)) ∧ Below w.heap.size w w' := by
  have H := Lib.hid (windexf_any cap g lb p eg hr hl hs)
  have hh := Lib.hid (ixF_has l p)
  clear hr hs
  go_enter Try.func46, Try.ntmps46
  go_wp2_with fail
  go_at_call 49
  refine (H.out).mono ?_
  rintro e w1 ⟨rfl, hb_w1⟩
  obtain ⟨hc_w1, hf_w1⟩ := bcell hb_w1; have hs_w1 := hb_w1.size; (try simp only [World.size_alloc, World.size_setCell, World.size_drew, World.heap_drewN] at hs_w1)
  go_wp2
  go_ret
  exact ⟨by rw [← hh.out]; rfl, (by repeat (first | exact Below.refl _ _ | assumption | (refine below_drewN ?_ _) | (refine Below.drew ?_) | (refine Below.alloc ?_ (by first | omega | (simp; omega) | simp) _) | (refine Below.setCell ?_ (by first | omega | (simp; omega) | simp) _) | (refine below_trans ?_ (by assumption) (by first | omega | (simp; omega) | simp))))⟩
theorem pexceeds1_any (w : World) (d : Nat) : Calls Try.prog 47 #[.int .u64 (d : Nat)] w fun e w' => e = .returned (.bool (decide (1099511627776 < d))) ∧ Below w.heap.size w w' := by
  by_cases h : 1099511627776 < d
  · have f1 : decide ((1099511627776 : Int) < (d : Int)) = true := by simp; omega
    rw [decide_eq_true h]
    go_enter Try.func47, Try.ntmps47
    go_wp2
    go_ret
    exact ⟨rfl, (by repeat (first | exact Below.refl _ _ | assumption | (refine below_drewN ?_ _) | (refine Below.drew ?_) | (refine Below.alloc ?_ (by first | omega | (simp; omega) | simp) _) | (refine Below.setCell ?_ (by first | omega | (simp; omega) | simp) _) | (refine below_trans ?_ (by assumption) (by first | omega | (simp; omega) | simp))))⟩
  · have f1 : decide ((1099511627776 : Int) < (d : Int)) = false := by simp; omega
    rw [decide_eq_false h]
    go_enter Try.func47, Try.ntmps47
    go_wp2
    go_ret
    exact ⟨rfl, (by repeat (first | exact Below.refl _ _ | assumption | (refine below_drewN ?_ _) | (refine Below.drew ?_) | (refine Below.alloc ?_ (by first | omega | (simp; omega) | simp) _) | (refine Below.setCell ?_ (by first | omega | (simp; omega) | simp) _) | (refine below_trans ?_ (by assumption) (by first | omega | (simp; omega) | simp))))⟩
theorem pphased1_any (w : World) (d : Nat) : Calls Try.prog 48 #[.int .u64 (d : Nat)] w fun e w' => e = .returned (.bool (!decide (d = 0))) ∧ Below w.heap.size w w' := by
  by_cases h : d = 0
  · subst h
    go_enter Try.func48, Try.ntmps48
    go_wp2
    go_ret
    exact ⟨rfl, (by repeat (first | exact Below.refl _ _ | assumption | (refine below_drewN ?_ _) | (refine Below.drew ?_) | (refine Below.alloc ?_ (by first | omega | (simp; omega) | simp) _) | (refine Below.setCell ?_ (by first | omega | (simp; omega) | simp) _) | (refine below_trans ?_ (by assumption) (by first | omega | (simp; omega) | simp))))⟩
  · have f1 : ((d : Int) == 0) = false := by simp; omega
    have f2 : ((d : Int) != 0) = true := by simp; omega
    rw [decide_eq_false h]
    go_enter Try.func48, Try.ntmps48
    go_wp2
    go_ret
    exact ⟨rfl, (by repeat (first | exact Below.refl _ _ | assumption | (refine below_drewN ?_ _) | (refine Below.drew ?_) | (refine Below.alloc ?_ (by first | omega | (simp; omega) | simp) _) | (refine Below.setCell ?_ (by first | omega | (simp; omega) | simp) _) | (refine below_trans ?_ (by assumption) (by first | omega | (simp; omega) | simp))))⟩
theorem eg_exceeds1 : ∀ args w, (callFunc 47 args).run Try.prog w = .ok (.enter 47 args) w := enters_of Try.func47 (by kernel_rfl) rfl
theorem eg_phased1 : ∀ args w, (callFunc 48 args).run Try.prog w = .ok (.enter 48 args) w := enters_of Try.func48 (by kernel_rfl) rfl
theorem allM_any (l : List Nat) : l.any (fun d => decide (1099511627776 < d)) = false ↔ AllM l := by
  rw [List.any_eq_false]
  unfold AllM
  constructor
  · intro h d hd
    have := h d hd
    simp only [decide_eq_true_eq] at this
    omega
  · intro h d hd
    have := h d hd
    simp only [decide_eq_true_eq]
    omega
theorem pexceeds_any (hr : Row w w.heap.size A l) (hl : l.length ≤ 17592186044416) :
    Calls Try.prog 40 #[.slice A l.length cap] w fun e w' => e = .returned (.bool (l.any (fun d => decide (1099511627776 < d)))) ∧ Below w.heap.size w w' := by
  have HC := Lib.hid (wcontainsf_any (w := w) (A := A) (l := l) cap 47 #[] (fun d => decide (1099511627776 < d)) eg_exceeds1 hr hl (fun W s _ _ => pexceeds1_any W s))
  generalize l.any (fun d => decide (1099511627776 < d)) = r at *
  clear hr
  go_enter Try.func40, Try.ntmps40
  go_wp2_with (go_at_call 46; refine HC.out.mono ?_; rintro e w1 ⟨rfl, hb_w1⟩; obtain ⟨hc_w1, hf_w1⟩ := bcell hb_w1; have hs_w1 := hb_w1.size; (try simp only [World.size_alloc, World.size_setCell, World.size_drew, World.heap_drewN] at hs_w1))
  go_ret
  exact ⟨rfl, (by repeat (first | exact Below.refl _ _ | assumption | (refine below_drewN ?_ _) | (refine Below.drew ?_) | (refine Below.alloc ?_ (by first | omega | (simp; omega) | simp) _) | (refine Below.setCell ?_ (by first | omega | (simp; omega) | simp) _) | (refine below_trans ?_ (by assumption) (by first | omega | (simp; omega) | simp))))⟩
end
end Go.Proofs.Ytkdbcoibapcmjaa
