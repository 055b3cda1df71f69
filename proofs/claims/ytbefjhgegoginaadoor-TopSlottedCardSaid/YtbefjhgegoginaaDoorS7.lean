/- Contracts of package span: the search by a function that is handed in. -/
import Derived.Test.YtbefjhgegoginaaDoorS6
namespace Go.Proofs.YtbefjhgegoginaaDoor
open Go.RowKit
set_option linter.unusedVariables false
set_option linter.unusedSimpArgs false

/-- r is the index of the first span of which p says yes, or -1 -/
def IdxE (l : List Sd) (p : Sd → Bool) (r : Int) : Prop := (r = -1 ∧ ∀ i, i < l.length → p (nth l i) = false) ∨ (∃ i : Nat, r = i ∧ i < l.length ∧ p (nth l i) = true ∧ ∀ j, j < i → p (nth l j) = false)
/-- what is handed in says p of each span of l, in each world that has what w has -/
def Says (g : FuncId) (lb : Array Value) (l : List Sd) (p : Sd → Bool) (w : World) : Prop :=
  ∀ (W : World) (i : Nat) (A M : Option Addr) (ca cm : Nat), Below w.heap.size w W → i < l.length → Row W W.heap.size A (nth l i).aw → Row W W.heap.size M (nth l i).mw →
    Calls Tryd.prog g (#[spv (nth l i) A ca M cm] ++ lb) W fun e W' => e = .returned (.bool (p (nth l i))) ∧ Below W.heap.size W W'
section
variable {w : World} {A : Option Addr} {l : List Sd} (cap : Nat)
set_option maxHeartbeats 1000000 in
theorem sindex_any (g : FuncId) (lb : Array Value) (p : Sd → Bool) (eg : ∀ args w, (callFunc g args).run Tryd.prog w = .ok (.enter g args) w) (hr : SRow w w.heap.size A l) (hl : l.length ≤ 17592186044416) (hs : Says g lb l p w) (r : Int) (hI : IdxE l p r) :
    Calls Tryd.prog 22 #[.slice A l.length cap, .func (.func g) #[] lb] w fun e w' => e = .returned (.int .i64 r) ∧ Below w.heap.size w w' := by
  have HI := Lib.hid hI
  have HS := Lib.hid hs
  clear hI hs
  go_enter Tryd.func22, Tryd.ntmps22
  go_wp2_with fail
  go_loopw [8] (fun ii wr => ∃ k : Nat, ii = .int .i64 (k : Nat) ∧ k ≤ l.length ∧ (∀ j, j < k → p (nth l j) = false) ∧ Below w.heap.size w wr) (fun ii _ => l.length - (intOf ii).toNat)
  case atStart => exact ⟨0, rfl, Nat.zero_le _, fun j hj => by omega, (by repeat (first | exact Below.refl _ _ | assumption | (refine below_drewN ?_ _) | (refine Below.drew ?_) | (refine Below.alloc ?_ (by first | omega | (simp; omega) | simp) _) | (refine Below.setCell ?_ (by first | omega | (simp; omega) | simp) _) | (refine below_trans ?_ (by assumption) (by first | omega | (simp; omega) | simp))))⟩
  case round =>
    obtain ⟨k, rfl, hk, hA, hb_wr⟩ := hrel
    have hsr := hb_wr.size
    have HA := Lib.hid hA
    clear hA
    by_cases hlt : k < l.length
    · obtain ⟨b, off, rfl, hbb, hc⟩ := (hr.later hb_wr).at_ (by omega)
      obtain ⟨Aa, ca, Am, cm, c8, ra, rm⟩ := hc k hlt
      have hcall := HS.out wr k Aa Am ca cm hb_wr hlt ra rm
      obtain ⟨d, hd⟩ : ∃ d, Hid (nth l k = d) := ⟨_, rfl⟩
      rw [hd.out] at c8 ra rm hcall
      obtain ⟨c0, c1, c2, c3, c4, c5, c6, c7⟩ := id c8
      clear hc
      rcases hq : p d with _ | _
      · rw [hq] at hcall
        have HC := Lib.hid hcall
        have HN : Hid (∀ j, j < k + 1 → p (nth l j) = false) := Lib.hid fun j hj => by
          by_cases e : j = k
          · rw [e, hd.out]; exact hq
          · exact HA.out j (by omega)
        clear hcall
        obtain ⟨f, p', z, an, aw, mn, mw, s⟩ := d
        simp only at c0 c1 c2 c3 c4 c5 c6 c7
        unfold spv at HC
        simp only at HC
        go_wp2_with (refine HC.out.mono ?_; rintro e w1 ⟨rfl, hb_w1⟩; obtain ⟨hc_w1, hf_w1⟩ := bcell hb_w1; have hs_w1 := hb_w1.size; (try simp only [World.size_alloc, World.size_setCell, World.size_drew, World.heap_drewN] at hs_w1))
        go_roundw
        case rel => exact ⟨k + 1, by go_num, by omega, HN.out, (by repeat (first | exact Below.refl _ _ | assumption | (refine below_drewN ?_ _) | (refine Below.drew ?_) | (refine Below.alloc ?_ (by first | omega | (simp; omega) | simp) _) | (refine Below.setCell ?_ (by first | omega | (simp; omega) | simp) _) | (refine below_trans ?_ (by assumption) (by first | omega | (simp; omega) | simp))))⟩
        case measure => simp [intOf]; omega
      · rw [hq] at hcall
        have HC := Lib.hid hcall
        obtain rfl : r = (k : Int) := by
          rcases HI.out with ⟨_, h⟩ | ⟨i, h1, h2, h3, h4⟩
          · have := h k hlt
            rw [hd.out, hq] at this
            cases this
          · rw [h1]
            rcases Nat.lt_trichotomy i k with h | h | h
            · rw [HA.out i h] at h3; cases h3
            · rw [h]
            · have := h4 k h
              rw [hd.out, hq] at this
              cases this
        clear hcall
        obtain ⟨f, p', z, an, aw, mn, mw, s⟩ := d
        simp only at c0 c1 c2 c3 c4 c5 c6 c7
        unfold spv at HC
        simp only at HC
        go_wp2_with (refine HC.out.mono ?_; rintro e w1 ⟨rfl, hb_w1⟩; obtain ⟨hc_w1, hf_w1⟩ := bcell hb_w1; have hs_w1 := hb_w1.size; (try simp only [World.size_alloc, World.size_setCell, World.size_drew, World.heap_drewN] at hs_w1))
        go_ret
        exact ⟨rfl, (by repeat (first | exact Below.refl _ _ | assumption | (refine below_drewN ?_ _) | (refine Below.drew ?_) | (refine Below.alloc ?_ (by first | omega | (simp; omega) | simp) _) | (refine Below.setCell ?_ (by first | omega | (simp; omega) | simp) _) | (refine below_trans ?_ (by assumption) (by first | omega | (simp; omega) | simp))))⟩
    · obtain rfl : k = l.length := by omega
      obtain rfl : r = -1 := by
        rcases HI.out with ⟨h, _⟩ | ⟨i, h1, h2, h3, h4⟩
        · exact h
        · rw [HA.out i h2] at h3; cases h3
      go_wp2
      go_ret
      exact ⟨rfl, (by repeat (first | exact Below.refl _ _ | assumption | (refine below_drewN ?_ _) | (refine Below.drew ?_) | (refine Below.alloc ?_ (by first | omega | (simp; omega) | simp) _) | (refine Below.setCell ?_ (by first | omega | (simp; omega) | simp) _) | (refine below_trans ?_ (by assumption) (by first | omega | (simp; omega) | simp))))⟩
end
end Go.Proofs.YtbefjhgegoginaaDoor
