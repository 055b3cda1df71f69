/- Contracts of package script: Check. -/
import Derived.Test.YtklbamkafldagaaDoorSe6
namespace Go.Proofs.YtklbamkafldagaaDoor
open Go.RowKit
set_option linter.unusedVariables false
set_option linter.unusedSimpArgs false

theorem okL_next {l : List Ev} {k : Nat} (hk : k < l.length) (h : OkA (l.take k)) (he : okE (nthE l k) = true) : OkA (l.take (k + 1)) := by
  rw [take_nthE l k hk]
  intro x hx
  rw [List.mem_append, List.mem_singleton] at hx
  rcases hx with hx | rfl
  · exact h x hx
  · exact he
theorem okL_bad {l : List Ev} {k : Nat} (hk : k < l.length) (he : okE (nthE l k) = false) : ¬ OkL l := fun h => by
  have := h.2 _ (nthE_mem l k hk)
  rw [he] at this
  cases this
theorem okE_of (e : Ev) (h1 : ¬ e.n < 1) (h2 : ¬ 4096 < e.n) : okE e = sgl.contains (one e) := by
  unfold okE
  rw [decide_eq_true (show 1 ≤ e.n by omega), decide_eq_true (show e.n ≤ 4096 by omega)]
  rfl
theorem okE_low (e : Ev) (h1 : e.n < 1) : okE e = false := by
  unfold okE
  rw [decide_eq_false (show ¬ 1 ≤ e.n by omega)]
  rfl
theorem okE_high (e : Ev) (h2 : 4096 < e.n) : okE e = false := by
  unfold okE
  rw [decide_eq_false (show ¬ e.n ≤ 4096 by omega)]
  simp
section
variable {w : World}
theorem single_agg (a : Bool) (b c d n : Int) : Calls Tryd.prog 32 #[.agg #[.bool a, .int .i64 b, .int .u8 c, .int .i64 d, .int .i64 n]] w fun r w' => r = .returned (.agg #[.bool a, .int .i64 b, .int .u8 c, .int .i64 d, .int .i64 1]) ∧ Below w.heap.size w w' := single_any ⟨a, b, c, d, n⟩
theorem sgl_contains {S : Option Addr} (cap : Nat) (hr : ERow w w.heap.size S sgl) (a : Bool) (b c d n : Int) :
    Calls Tryd.prog 34 #[.slice S 16 cap, .agg #[.bool a, .int .i64 b, .int .u8 c, .int .i64 d, .int .i64 n]] w fun e w' => e = .returned (.bool (sgl.contains ⟨a, b, c, d, n⟩)) ∧ Below w.heap.size w w' :=
  contains_any cap hr (by decide) (by decide) ⟨a, b, c, d, n⟩
set_option maxHeartbeats 4000000 in
theorem check_any {A : Option Addr} {l : List Ev} (cap : Nat) (hr : ERow w w.heap.size A l) (hl : l.length ≤ 17592186044416) (y : Int) (hy : (OkL l ∧ y = 0) ∨ (¬ OkL l ∧ y = 2)) :
    Calls Tryd.prog 20 #[.slice A l.length cap] w fun e w' => e = .returned (.int .i64 y) ∧ Below w.heap.size w w' := by
  by_cases hlen : 4096 < l.length
  · obtain rfl : y = 2 := by
      rcases hy with ⟨h, _⟩ | ⟨_, h⟩
      · exact absurd h.1 (by omega)
      · exact h
    have d1 : decide (4096 < (l.length : Int)) = true := decide_eq_true (by omega)
    clear hy
    go_enter Tryd.func20, Tryd.ntmps20
    go_wp2
    go_ret
    exact ⟨rfl, (by repeat (first | exact Below.refl _ _ | assumption | (refine below_drewN ?_ _) | (refine Below.drew ?_) | (refine Below.alloc ?_ (by first | omega | (simp; omega) | simp) _) | (refine Below.setCell ?_ (by first | omega | (simp; omega) | simp) _) | (refine below_trans ?_ (by assumption) (by first | omega | (simp; omega) | simp))))⟩
  · have d1 : decide (4096 < (l.length : Int)) = false := decide_eq_false (by omega)
    have hY := Lib.hid hy
    clear hy
    go_enter Tryd.func20, Tryd.ntmps20
    go_wp2_with fail
    go_at_call 33
    refine (singles_any).mono ?_
    rintro e w1 ⟨S, scap, rfl, oS, hb_w1⟩
    obtain ⟨hc_w1, hf_w1⟩ := bcell hb_w1; have hs_w1 := hb_w1.size; (try simp only [World.size_alloc, World.size_setCell, World.size_drew, World.heap_drewN] at hs_w1)
    have rS : ERow w1 w1.heap.size S sgl := ERow.of_owns (cap := scap) (show OwnsE w1 w.heap.size (.slice S sgl.length scap) sgl from oS)
    have hr1 := hr.later hb_w1
    clear oS
    go_wp2_with fail
    go_loopw [12] (fun ii wr => ∃ k : Nat, ii = .int .i64 (k : Nat) ∧ k ≤ l.length ∧ OkA (l.take k) ∧ Below w1.heap.size w1 wr) (fun ii _ => l.length - (intOf ii).toNat)
    case atStart => exact ⟨0, rfl, Nat.zero_le _, fun x hx => by simp at hx, (by repeat (first | exact Below.refl _ _ | assumption | (refine below_drewN ?_ _) | (refine Below.drew ?_) | (refine Below.alloc ?_ (by first | omega | (simp; omega) | simp) _) | (refine Below.setCell ?_ (by first | omega | (simp; omega) | simp) _) | (refine below_trans ?_ (by assumption) (by first | omega | (simp; omega) | simp))))⟩
    case round =>
      obtain ⟨k, rfl, hk, hG, hb_wr⟩ := hrel
      have hsr := hb_wr.size
      by_cases hlt : k < l.length
      · obtain ⟨b, off, rfl, hbb, hc⟩ := (hr1.later hb_wr).at_ (by omega)
        have c5 := hc k hlt
        clear hc
        have hnx := Lib.hid fun he => okL_next hlt hG he
        have hbd := Lib.hid fun he => okL_bad (l := l) hlt he
        have hk0 : (0 : Int) ≤ (k : Int) := by omega
        have hk1 : (k : Int) < (l.length : Int) := by omega
        clear hG
        generalize nthE l k = d at *
        obtain ⟨ea, eb, ec, ed, en⟩ := d
        obtain ⟨c0, c1, c2, c3, c4⟩ := c5
        simp only at c0 c1 c2 c3 c4
        have rSr := rS.later hb_wr
        by_cases h1 : en < 1
        · obtain rfl : y = 2 := by
            rcases hY.out with ⟨h, _⟩ | ⟨_, h⟩
            · exact absurd h (hbd.out (okE_low _ h1))
            · exact h
          have e1 : decide (en < 1) = true := decide_eq_true h1
          clear hnx hbd h1
          go_wp2
          go_ret
          exact ⟨rfl, (by repeat (first | exact Below.refl _ _ | assumption | (refine below_drewN ?_ _) | (refine Below.drew ?_) | (refine Below.alloc ?_ (by first | omega | (simp; omega) | simp) _) | (refine Below.setCell ?_ (by first | omega | (simp; omega) | simp) _) | (refine below_trans ?_ (by assumption) (by first | omega | (simp; omega) | simp))))⟩
        · have e1 : decide (en < 1) = false := decide_eq_false h1
          by_cases h2 : 4096 < en
          · obtain rfl : y = 2 := by
              rcases hY.out with ⟨h, _⟩ | ⟨_, h⟩
              · exact absurd h (hbd.out (okE_high _ h2))
              · exact h
            have e2 : decide (4096 < en) = true := decide_eq_true h2
            clear hnx hbd h1 h2
            go_wp2
            go_ret
            exact ⟨rfl, (by repeat (first | exact Below.refl _ _ | assumption | (refine below_drewN ?_ _) | (refine Below.drew ?_) | (refine Below.alloc ?_ (by first | omega | (simp; omega) | simp) _) | (refine Below.setCell ?_ (by first | omega | (simp; omega) | simp) _) | (refine below_trans ?_ (by assumption) (by first | omega | (simp; omega) | simp))))⟩
          · have e2 : decide (4096 < en) = false := decide_eq_false h2
            have he := okE_of ⟨ea, eb, ec, ed, en⟩ h1 h2
            have e3 : one ⟨ea, eb, ec, ed, en⟩ = ⟨ea, eb, ec, ed, 1⟩ := rfl
            rw [e3] at he
            rw [he] at hnx hbd
            clear h1 h2 he e3
            go_wp2_with fail
            go_at_call 32
            refine (single_agg _ _ _ _ _).mono ?_
            rintro e w2 ⟨rfl, hb_w2⟩
            obtain ⟨hc_w2, hf_w2⟩ := bcell hb_w2; have hz_w2_wr_0 : wr.heap.size < w2.heap.size := (by have hzz := hb_w2.size; (try simp only [World.size_alloc, World.size_setCell, World.size_drew, World.heap_drewN] at hzz); omega); have hs_w2 := hb_w2.size; (try simp only [World.size_alloc, World.size_setCell, World.size_drew, World.heap_drewN] at hs_w2)
            go_wp2_with fail
            go_at_call 34
            refine (sgl_contains _ (rSr.later (by repeat (first | exact Below.refl _ _ | assumption | (refine below_drewN ?_ _) | (refine Below.drew ?_) | (refine Below.alloc ?_ (by first | omega | (simp; omega) | simp) _) | (refine Below.setCell ?_ (by first | omega | (simp; omega) | simp) _) | (refine below_trans ?_ (by assumption) (by first | omega | (simp; omega) | simp))))) _ _ _ _ _).mono ?_
            rintro e w3 ⟨rfl, hb_w3⟩
            obtain ⟨hc_w3, hf_w3⟩ := bcell hb_w3; have hs_w3 := hb_w3.size; (try simp only [World.size_alloc, World.size_setCell, World.size_drew, World.heap_drewN] at hs_w3)
            rcases hq : sgl.contains ⟨ea, eb, ec, ed, 1⟩ with _ | _
            · rw [hq] at hbd
              obtain rfl : y = 2 := by
                rcases hY.out with ⟨h, _⟩ | ⟨_, h⟩
                · exact absurd h (hbd.out rfl)
                · exact h
              clear hnx hbd
              go_wp2
              go_ret
              exact ⟨rfl, (by repeat (first | exact Below.refl _ _ | assumption | (refine below_drewN ?_ _) | (refine Below.drew ?_) | (refine Below.alloc ?_ (by first | omega | (simp; omega) | simp) _) | (refine Below.setCell ?_ (by first | omega | (simp; omega) | simp) _) | (refine below_trans ?_ (by assumption) (by first | omega | (simp; omega) | simp))))⟩
            · rw [hq] at hnx
              clear hbd
              go_wp2
              go_roundw
              case rel => exact ⟨k + 1, by go_num, by omega, hnx.out trivial, (by repeat (first | exact Below.refl _ _ | assumption | (refine below_drewN ?_ _) | (refine Below.drew ?_) | (refine Below.alloc ?_ (by first | omega | (simp; omega) | simp) _) | (refine Below.setCell ?_ (by first | omega | (simp; omega) | simp) _) | (refine below_trans ?_ (by assumption) (by first | omega | (simp; omega) | simp))))⟩
              case measure => simp [intOf]; omega
      · obtain rfl : k = l.length := by omega
        obtain rfl : y = 0 := by
          rcases hY.out with ⟨_, h⟩ | ⟨h, _⟩
          · exact h
          · rw [List.take_length] at hG
            exact absurd ⟨by omega, hG⟩ h
        go_wp2
        go_ret
        exact ⟨rfl, (by repeat (first | exact Below.refl _ _ | assumption | (refine below_drewN ?_ _) | (refine Below.drew ?_) | (refine Below.alloc ?_ (by first | omega | (simp; omega) | simp) _) | (refine Below.setCell ?_ (by first | omega | (simp; omega) | simp) _) | (refine below_trans ?_ (by assumption) (by first | omega | (simp; omega) | simp))))⟩
end
end Go.Proofs.YtklbamkafldagaaDoor
