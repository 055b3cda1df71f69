/- Contracts: slices.Index, slices.Contains of words; a handle in a table, the code's and the document's. -/
import Derived.Test.YtdeopodfpeeenaaDoorW1
namespace Go.Proofs.YtdeopodfpeeenaaDoor
open Go.RowKit
set_option linter.unusedVariables false
set_option linter.unusedSimpArgs false

theorem Row.cellAt {w : World} {B : Nat} {A : Option Addr} {ws : List Nat} (h : Row w B A ws) {k : Nat} (hk : k < ws.length) : ∃ b off, A = some ⟨b, off, none⟩ ∧ b < B ∧ w.cell? ⟨b, off + k, none⟩ = some (.int .u64 (ws.getD k 0 : Nat)) := by
  obtain ⟨b, off, e, hb, hc⟩ := h.at_ (by omega)
  exact ⟨b, off, e, hb, hc k hk⟩
theorem Row.take {w : World} {B : Nat} {A : Option Addr} {ws : List Nat} (h : Row w B A ws) (k : Nat) : Row w B A (ws.take k) :=
  ⟨fun x hx => h.words x (List.mem_of_mem_take hx), fun hl => by
    rw [List.length_take] at hl
    obtain ⟨b, off, e, hb, hc⟩ := h.at_ (by omega)
    refine ⟨b, off, e, hb, fun i hi => ?_⟩
    rw [List.length_take] at hi
    rw [getD_take _ _ _ (by omega)]
    exact hc i (by omega)⟩
/-- what slices.Index says -/
def ixI (t : List Nat) (a : Nat) : Int := if ixN t a < t.length then (ixN t a : Nat) else -1
section
variable {w : World} {A : Option Addr} {us : List Nat} {L : Nat} (cap : Nat)
theorem windex_any (hr : Row w w.heap.size A us) (hL : us.length = L) (hm : L ≤ 17592186044416) (a : Nat) :
    Calls Tryd.prog 38 #[.slice A L cap, .int .u64 (a : Nat)] w fun e w' => e = .returned (.int .i64 (ixI us a)) ∧ Below w.heap.size w w' := by
  have HL := Lib.hid hL
  clear hL
  go_enter Tryd.func38, Tryd.ntmps38
  go_wp2_with fail
  go_loopw [8] (fun kk wr => ∃ k : Nat, kk = .int .i64 (k : Nat) ∧ k ≤ L ∧ Hid (∀ j, j < k → us.getD j 0 ≠ a) ∧ w.heap.size ≤ wr.heap.size ∧ Below w.heap.size w wr) (fun kk _ => L - (intOf kk).toNat)
  case atStart => exact ⟨0, rfl, by omega, Lib.hid (fun j hj => by omega), (by first | omega | (simp; omega) | simp), (by repeat (first | exact Below.refl _ _ | assumption | (refine below_drewN ?_ _) | (refine Below.drew ?_) | (refine Below.alloc ?_ (by first | omega | (simp; omega) | simp) _) | (refine Below.setCell ?_ (by first | omega | (simp; omega) | simp) _) | (refine below_trans ?_ (by assumption) (by first | omega | (simp; omega) | simp))))⟩
  case round =>
    obtain ⟨k, rfl, hk, hB, hsz, hb_wr⟩ := hrel
    have hsr := hb_wr.size
    by_cases hlt : k < L
    · obtain ⟨b, off, rfl, hbb, hc⟩ := (hr.later hb_wr).cellAt (k := k) (by rw [HL.out]; exact hlt)
      have i1 : (k : Int) < (L : Int) := by omega
      have i2 : (0 : Int) ≤ (k : Int) := by omega
      obtain ⟨x, hx⟩ : ∃ x, Hid (us.getD k 0 = x) := ⟨_, rfl⟩
      rw [hx.out] at hc
      by_cases he : a = x
      · have f1 : ((a : Int) == (x : Int)) = true := by simp [he]
        have e1 : ixI us a = (k : Nat) := by
          unfold ixI
          rw [ixN_hit (by rw [HL.out]; exact hlt) (hx.out.trans he.symm) hB.out, if_pos (by rw [HL.out]; exact hlt)]
        have E1 := Lib.hid e1
        clear he e1
        go_wp2
        go_ret
        exact ⟨by rw [E1.out]; rfl, (by repeat (first | exact Below.refl _ _ | assumption | (refine below_drewN ?_ _) | (refine Below.drew ?_) | (refine Below.alloc ?_ (by first | omega | (simp; omega) | simp) _) | (refine Below.setCell ?_ (by first | omega | (simp; omega) | simp) _) | (refine below_trans ?_ (by assumption) (by first | omega | (simp; omega) | simp))))⟩
      · have f1 : ((a : Int) == (x : Int)) = false := by simp; omega
        have hB2 : Hid (∀ j, j < k + 1 → us.getD j 0 ≠ a) := Lib.hid (fun j hj => by
          by_cases e : j = k
          · subst e; rw [hx.out]; exact fun e => he e.symm
          · exact hB.out j (by omega))
        clear he
        go_wp2
        go_roundw
        case rel => exact ⟨k + 1, by go_num, by omega, hB2, (by first | omega | (simp; omega) | simp), (by repeat (first | exact Below.refl _ _ | assumption | (refine below_drewN ?_ _) | (refine Below.drew ?_) | (refine Below.alloc ?_ (by first | omega | (simp; omega) | simp) _) | (refine Below.setCell ?_ (by first | omega | (simp; omega) | simp) _) | (refine below_trans ?_ (by assumption) (by first | omega | (simp; omega) | simp))))⟩
        case measure => simp [intOf]; omega
    · have e1 : ixI us a = -1 := by
        unfold ixI
        rw [ixN_miss (fun j hj => hB.out j (by rw [HL.out] at hj; omega)), if_neg (by omega)]
      have E1 := Lib.hid e1
      clear e1
      go_wp2
      go_ret
      exact ⟨by rw [E1.out]; rfl, (by repeat (first | exact Below.refl _ _ | assumption | (refine below_drewN ?_ _) | (refine Below.drew ?_) | (refine Below.alloc ?_ (by first | omega | (simp; omega) | simp) _) | (refine Below.setCell ?_ (by first | omega | (simp; omega) | simp) _) | (refine below_trans ?_ (by assumption) (by first | omega | (simp; omega) | simp))))⟩
theorem ixI_mem (us : List Nat) (a : Nat) : (0 ≤ ixI us a) ↔ a ∈ us := by
  unfold ixI
  split
  · rename_i h
    obtain ⟨g1, _⟩ := ixN_get h
    constructor
    · intro _
      rw [List.getD_eq_getElem?_getD, List.getElem?_eq_getElem h] at g1
      simp only [Option.getD_some] at g1
      rw [← g1]
      exact List.getElem_mem h
    · intro _; omega
  · rename_i h
    have hn := ixN_no h
    constructor
    · intro h2; omega
    · intro hm
      obtain ⟨i, hi, e⟩ := List.getElem_of_mem hm
      exact absurd (by rw [List.getD_eq_getElem?_getD, List.getElem?_eq_getElem hi]; exact e) (hn i hi)
theorem wcontains_any (hr : Row w w.heap.size A us) (hL : us.length = L) (hm : L ≤ 17592186044416) (a : Nat) (b : Bool) (hb : (b = true ∧ a ∈ us) ∨ (b = false ∧ ¬ a ∈ us)) :
    Calls Tryd.prog 24 #[.slice A L cap, .int .u64 (a : Nat)] w fun e w' => e = .returned (.bool b) ∧ Below w.heap.size w w' := by
  have HI := Lib.hid fun (w : World) hr => windex_any (w := w) (A := A) (us := us) (L := L) cap hr hL hm a
  have hx : decide (0 ≤ ixI us a) = b := by
    rcases hb with ⟨rfl, h⟩ | ⟨rfl, h⟩
    · exact decide_eq_true ((ixI_mem us a).2 h)
    · exact decide_eq_false (fun h2 => h ((ixI_mem us a).1 h2))
  have HX := Lib.hid hx
  generalize ixI us a = y at HI HX
  clear hx hb
  go_enter Tryd.func24, Tryd.ntmps24
  go_wp2_with fail
  go_at_call 38
  refine (HI.out _ (hr.later (by repeat (first | exact Below.refl _ _ | assumption | (refine below_drewN ?_ _) | (refine Below.drew ?_) | (refine Below.alloc ?_ (by first | omega | (simp; omega) | simp) _) | (refine Below.setCell ?_ (by first | omega | (simp; omega) | simp) _) | (refine below_trans ?_ (by assumption) (by first | omega | (simp; omega) | simp)))))).mono ?_
  rintro e w1 ⟨rfl, hb_w1⟩
  obtain ⟨hc_w1, hf_w1⟩ := bcell hb_w1; have hs_w1 := hb_w1.size; (try simp only [World.size_alloc, World.size_setCell, World.size_drew, World.heap_drewN] at hs_w1)
  have hx := HX.out
  go_wp2
  go_ret
  exact ⟨by rw [← HX.out]; rfl, (by repeat (first | exact Below.refl _ _ | assumption | (refine below_drewN ?_ _) | (refine Below.drew ?_) | (refine Below.alloc ?_ (by first | omega | (simp; omega) | simp) _) | (refine Below.setCell ?_ (by first | omega | (simp; omega) | simp) _) | (refine below_trans ?_ (by assumption) (by first | omega | (simp; omega) | simp))))⟩
theorem whandle_any (hr : Row w w.heap.size A us) (hL : us.length = L) (hm : L ≤ 17592186044416) (a : Nat) (h : Nat) (hh : hin us a = h) :
    Calls Tryd.prog 23 #[.slice A L cap, .int .u64 (a : Nat)] w fun e w' => e = .returned (.int .i64 (h : Nat)) ∧ Below w.heap.size w w' := by
  by_cases ha : a = 0
  · subst ha
    rw [hin_zero] at hh
    subst hh
    go_enter Tryd.func23, Tryd.ntmps23
    go_wp2
    go_ret
    exact ⟨rfl, (by repeat (first | exact Below.refl _ _ | assumption | (refine below_drewN ?_ _) | (refine Below.drew ?_) | (refine Below.alloc ?_ (by first | omega | (simp; omega) | simp) _) | (refine Below.setCell ?_ (by first | omega | (simp; omega) | simp) _) | (refine below_trans ?_ (by assumption) (by first | omega | (simp; omega) | simp))))⟩
  · have f1 : ((a : Int) == 0) = false := by simp; omega
    have HI := Lib.hid fun (w : World) hr => windex_any (w := w) (A := A) (us := us) (L := L) cap hr hL hm a
    have hx : ixI us a + 1 = (h : Nat) := by
      rw [← hh]
      unfold ixI hin
      by_cases h2 : ixN us a < us.length
      · rw [if_pos h2, if_pos ⟨ha, h2⟩]; rfl
      · rw [if_neg h2, if_neg (fun h3 => h2 h3.2)]; rfl
    have hlo : -1 ≤ ixI us a := by omega
    have hhi : ixI us a ≤ 17592186044416 := by
      have := hin_le us a
      omega
    have HX := Lib.hid hx
    generalize ixI us a = y at *
    clear hx hh ha
    go_enter Tryd.func23, Tryd.ntmps23
    go_wp2_with fail
    go_at_call 38
    refine (HI.out _ (hr.later (by repeat (first | exact Below.refl _ _ | assumption | (refine below_drewN ?_ _) | (refine Below.drew ?_) | (refine Below.alloc ?_ (by first | omega | (simp; omega) | simp) _) | (refine Below.setCell ?_ (by first | omega | (simp; omega) | simp) _) | (refine below_trans ?_ (by assumption) (by first | omega | (simp; omega) | simp)))))).mono ?_
    rintro e w1 ⟨rfl, hb_w1⟩
    obtain ⟨hc_w1, hf_w1⟩ := bcell hb_w1; have hs_w1 := hb_w1.size; (try simp only [World.size_alloc, World.size_setCell, World.size_drew, World.heap_drewN] at hs_w1)
    go_wp2
    go_ret
    exact ⟨by rw [← HX.out]; rfl, (by repeat (first | exact Below.refl _ _ | assumption | (refine below_drewN ?_ _) | (refine Below.drew ?_) | (refine Below.alloc ?_ (by first | omega | (simp; omega) | simp) _) | (refine Below.setCell ?_ (by first | omega | (simp; omega) | simp) _) | (refine below_trans ?_ (by assumption) (by first | omega | (simp; omega) | simp))))⟩
end
end Go.Proofs.YtdeopodfpeeenaaDoor
