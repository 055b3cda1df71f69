/- Contracts of package span: the search among a span's slots. -/
import Derived.Test.YtbefjhgegoginaaDoorS7
namespace Go.Proofs.YtbefjhgegoginaaDoor
open Go.RowKit
set_option linter.unusedVariables false
set_option linter.unusedSimpArgs false

/-- r is the first of n numbers of which q says yes, or -1 -/
def IdxN (n : Nat) (q : Nat → Bool) (r : Int) : Prop := (r = -1 ∧ ∀ i, i < n → q i = false) ∨ (∃ i : Nat, r = i ∧ i < n ∧ q i = true ∧ ∀ j, j < i → q j = false)
theorem IdxN.ex (n : Nat) (q : Nat → Bool) : ∃ r, IdxN n q r := by
  induction n with
  | zero => exact ⟨-1, .inl ⟨rfl, fun i hi => by omega⟩⟩
  | succ n ih =>
    obtain ⟨r, ⟨h1, h2⟩ | ⟨i, h1, h2, h3, h4⟩⟩ := ih
    · rcases hq : q n with _ | _
      · exact ⟨-1, .inl ⟨rfl, fun i hi => by
          by_cases e : i = n
          · rw [e]; exact hq
          · exact h2 i (by omega)⟩⟩
      · exact ⟨n, .inr ⟨n, rfl, by omega, hq, h2⟩⟩
    · exact ⟨r, .inr ⟨i, h1, by omega, h3, h4⟩⟩
theorem IdxE.ex (l : List Sd) (p : Sd → Bool) : ∃ r, IdxE l p r := by
  obtain ⟨r, h⟩ := IdxN.ex l.length fun i => p (nth l i)
  exact ⟨r, h⟩
def SaysN (g : FuncId) (lb : Array Value) (n : Nat) (q : Nat → Bool) (w : World) : Prop :=
  ∀ (W : World) (k : Nat), Below w.heap.size w W → k < n → Calls Tryd.prog g (#[.int .i64 (k : Nat)] ++ lb) W fun e W' => e = .returned (.bool (q k)) ∧ Below W.heap.size W W'
section
variable {w : World} {d : Sd} {A M : Option Addr} (ca cm : Nat)
theorem salloc_any (hA : Row w w.heap.size A d.aw) (h : Right d.an d.aw) (k : Int) (h0 : 0 ≤ k) (h1 : k < d.an) :
    Calls Tryd.prog 28 #[spv d A ca M cm, .int .i64 k] w fun e w' => e = .returned (.bool (tb d.aw k.toNat)) ∧ Below w.heap.size w w' := by
  have H := Lib.hid h
  clear h
  obtain ⟨f, p, z, an, aw, mn, mw, s⟩ := d
  simp only at *
  unfold spv
  simp only
  rcases hb : tb aw k.toNat with _ | _
  all_goals
    go_enter Tryd.func28, Tryd.ntmps28
    go_wp2_with (go_at_call 34; refine (get_in ca k (hA.later (by repeat (first | exact Below.refl _ _ | assumption | (refine below_drewN ?_ _) | (refine Below.drew ?_) | (refine Below.alloc ?_ (by first | omega | (simp; omega) | simp) _) | (refine Below.setCell ?_ (by first | omega | (simp; omega) | simp) _) | (refine below_trans ?_ (by assumption) (by first | omega | (simp; omega) | simp))))) H.out h0 h1).mono ?_; rintro e w1 ⟨rfl, hb_w1⟩; rw [hb]; obtain ⟨hc_w1, hf_w1⟩ := bcell hb_w1; have hz_w1_w_0 : w.heap.size < w1.heap.size := (by have hzz := hb_w1.size; (try simp only [World.size_alloc, World.size_setCell, World.size_drew, World.heap_drewN] at hzz); omega); have hs_w1 := hb_w1.size; (try simp only [World.size_alloc, World.size_setCell, World.size_drew, World.heap_drewN] at hs_w1))
    go_ret
    exact ⟨rfl, (by repeat (first | exact Below.refl _ _ | assumption | (refine below_drewN ?_ _) | (refine Below.drew ?_) | (refine Below.alloc ?_ (by first | omega | (simp; omega) | simp) _) | (refine Below.setCell ?_ (by first | omega | (simp; omega) | simp) _) | (refine below_trans ?_ (by assumption) (by first | omega | (simp; omega) | simp))))⟩
set_option maxHeartbeats 1000000 in
theorem swhere_any {p : Int} (h : Sized p d.z) (g : FuncId) (lb : Array Value) (n : Nat) (hn : slotsOf d.z = n) (q : Nat → Bool) (eg : ∀ args w, (callFunc g args).run Tryd.prog w = .ok (.enter g args) w) (hs : SaysN g lb n q w) (r : Int) (hI : IdxN n q r) :
    Calls Tryd.prog 26 #[spv d A ca M cm, .func (.func g) #[] lb] w fun e w' => e = .returned (.int .i64 r) ∧ Below w.heap.size w w' := by
  have HI := Lib.hid hI
  have HS := Lib.hid hs
  have hz := h.slots
  have S := Lib.hid fun (w : World) => sslots_any (w := w) d A ca M cm h
  rw [hn] at S hz
  clear hI hs h hn
  obtain ⟨f, p, z, an, aw, mn, mw, s⟩ := d
  simp only at *
  unfold spv at S ⊢
  simp only at S ⊢
  go_enter Tryd.func26, Tryd.ntmps26
  go_wp2_with fail
  go_at_call 19
  refine (S.out _).mono ?_
  rintro e w1 ⟨rfl, hb_w1⟩
  obtain ⟨hc_w1, hf_w1⟩ := bcell hb_w1; have hz_w1_w_0 : w.heap.size < w1.heap.size := (by have hzz := hb_w1.size; (try simp only [World.size_alloc, World.size_setCell, World.size_drew, World.heap_drewN] at hzz); omega); have hs_w1 := hb_w1.size; (try simp only [World.size_alloc, World.size_setCell, World.size_drew, World.heap_drewN] at hs_w1)
  have b1 : Below w.heap.size w w1 := (by repeat (first | exact Below.refl _ _ | assumption | (refine below_drewN ?_ _) | (refine Below.drew ?_) | (refine Below.alloc ?_ (by first | omega | (simp; omega) | simp) _) | (refine Below.setCell ?_ (by first | omega | (simp; omega) | simp) _) | (refine below_trans ?_ (by assumption) (by first | omega | (simp; omega) | simp))))
  clear hc_w1 hf_w1
  go_wp2_with fail
  go_loopw [8] (fun ii wr => ∃ k : Nat, ii = .int .i64 (k : Nat) ∧ k ≤ n ∧ (∀ j, j < k → q j = false) ∧ Below w.heap.size w wr) (fun ii _ => n - (intOf ii).toNat)
  case atStart => exact ⟨0, rfl, Nat.zero_le _, fun j hj => by omega, b1⟩
  case round =>
    obtain ⟨k, rfl, hk, hA, hb_wr⟩ := hrel
    have hsr := hb_wr.size
    have HA := Lib.hid hA
    clear hA
    by_cases hlt : k < n
    · have hcall := HS.out wr k hb_wr hlt
      rcases hq : q k with _ | _
      · rw [hq] at hcall
        have HC := Lib.hid hcall
        have HN : Hid (∀ j, j < k + 1 → q j = false) := Lib.hid fun j hj => by
          by_cases e : j = k
          · rw [e]; exact hq
          · exact HA.out j (by omega)
        clear hcall
        go_wp2_with (refine HC.out.mono ?_; rintro e w2 ⟨rfl, hb_w2⟩; obtain ⟨hc_w2, hf_w2⟩ := bcell hb_w2; have hs_w2 := hb_w2.size; (try simp only [World.size_alloc, World.size_setCell, World.size_drew, World.heap_drewN] at hs_w2))
        go_roundw
        case rel => exact ⟨k + 1, by go_num, by omega, HN.out, (by repeat (first | exact Below.refl _ _ | assumption | (refine below_drewN ?_ _) | (refine Below.drew ?_) | (refine Below.alloc ?_ (by first | omega | (simp; omega) | simp) _) | (refine Below.setCell ?_ (by first | omega | (simp; omega) | simp) _) | (refine below_trans ?_ (by assumption) (by first | omega | (simp; omega) | simp))))⟩
        case measure => simp [intOf]; omega
      · rw [hq] at hcall
        have HC := Lib.hid hcall
        obtain rfl : r = (k : Int) := by
          rcases HI.out with ⟨_, h⟩ | ⟨i, h1, h2, h3, h4⟩
          · have := h k hlt
            rw [hq] at this
            cases this
          · rw [h1]
            rcases Nat.lt_trichotomy i k with h | h | h
            · rw [HA.out i h] at h3; cases h3
            · rw [h]
            · have := h4 k h
              rw [hq] at this
              cases this
        clear hcall
        go_wp2_with (refine HC.out.mono ?_; rintro e w2 ⟨rfl, hb_w2⟩; obtain ⟨hc_w2, hf_w2⟩ := bcell hb_w2; have hs_w2 := hb_w2.size; (try simp only [World.size_alloc, World.size_setCell, World.size_drew, World.heap_drewN] at hs_w2))
        go_ret
        exact ⟨rfl, (by repeat (first | exact Below.refl _ _ | assumption | (refine below_drewN ?_ _) | (refine Below.drew ?_) | (refine Below.alloc ?_ (by first | omega | (simp; omega) | simp) _) | (refine Below.setCell ?_ (by first | omega | (simp; omega) | simp) _) | (refine below_trans ?_ (by assumption) (by first | omega | (simp; omega) | simp))))⟩
    · obtain rfl : k = n := by omega
      obtain rfl : r = -1 := by
        rcases HI.out with ⟨h, _⟩ | ⟨i, h1, h2, h3, h4⟩
        · exact h
        · rw [HA.out i h2] at h3; cases h3
      go_wp2
      go_ret
      exact ⟨rfl, (by repeat (first | exact Below.refl _ _ | assumption | (refine below_drewN ?_ _) | (refine Below.drew ?_) | (refine Below.alloc ?_ (by first | omega | (simp; omega) | simp) _) | (refine Below.setCell ?_ (by first | omega | (simp; omega) | simp) _) | (refine below_trans ?_ (by assumption) (by first | omega | (simp; omega) | simp))))⟩
end
end Go.Proofs.YtbefjhgegoginaaDoor
