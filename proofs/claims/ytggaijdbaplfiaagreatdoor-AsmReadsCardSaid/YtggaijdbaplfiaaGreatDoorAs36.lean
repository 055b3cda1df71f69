/- Contracts of the document's package: IsLabel. -/
import Derived.Test.YtggaijdbaplfiaaGreatDoorAs34
namespace Go.Proofs.YtggaijdbaplfiaaGreatDoor
open Go.RowKit
set_option linter.unusedVariables false
set_option linter.unusedSimpArgs false
section
variable {w : World}
set_option maxRecDepth 100000 in
set_option maxHeartbeats 8000000 in
theorem xislabel_any (s : ByteArray) (hs : s.size ≤ 65536) : Calls Tryz.prog 24 #[.string s] w fun e w' => e = .returned (.bool (isLab s.data.toList)) ∧ Below w.heap.size w w' := by
  have hlen : s.data.toList.length = s.size := Array.length_toList
  have hl : isLab s.data.toList = (decide (1 ≤ s.data.toList.length) && decide (s.data.toList.length ≤ 32) && s.data.toList.all labC) := rfl
  rw [hlen] at hl
  have HT := Lib.hid fun k (hk : k < s.data.toList.length) => all_take s.data.toList k hk
  have HE : Hid ((s.data.toList.take s.size).all labC = s.data.toList.all labC) := Lib.hid (by rw [List.take_of_length_le (by omega)])
  have HNO : Hid (∀ k (hk : k < s.data.toList.length), labC s.data.toList[k] = false → isLab s.data.toList = false) := Lib.hid fun k hk h => by
    have : s.data.toList.all labC = false := by
      rw [List.all_eq_false]
      exact ⟨_, List.getElem_mem hk, by rw [h]; simp⟩
    rw [hl, this, Bool.and_false]
  have HL := Lib.hid hl
  have hz : s.size = 0 → s.toList = [] := fun h => by
    rw [ByteArray.toList_eq]
    exact List.eq_nil_of_length_eq_zero (by omega)
  have hnz : ¬ s.size = 0 → s.toList ≠ [] := fun h e => by
    rw [ByteArray.toList_eq] at e
    rw [e] at hlen
    exact h hlen.symm
  have HZ := Lib.hid hz
  have HNZ := Lib.hid hnz
  clear hl hz hnz
  go_enter Tryz.func24, Tryz.ntmps24
  go_wp2_with fail
  go_loopw [3, 4] (fun ii cc wr => ∃ k : Nat, ii = .int .i64 (k : Nat) ∧ k ≤ s.size ∧ Hid ((s.data.toList.take k).all labC = true) ∧ Below w.heap.size w wr) (fun ii _ _ => s.size - (intOf ii).toNat)
  case atStart => exact ⟨0, rfl, Nat.zero_le _, Lib.hid (by simp), (by repeat (first | exact Below.refl _ _ | assumption | (refine below_drewN ?_ _) | (refine Below.drew ?_) | (refine Below.alloc ?_ (by first | omega | (simp; omega) | simp) _) | (refine Below.setCell ?_ (by first | omega | (simp; omega) | simp) _) | (refine below_trans ?_ (by assumption) (by first | omega | (simp; omega) | simp))))⟩
  case round =>
    obtain ⟨k, rfl, hk, HA, hb_wr⟩ := hrel
    have hsr := hb_wr.size
    by_cases hlt : k < s.size
    · have hk9 : k < s.data.toList.length := by omega
      have i0 : (0 : Int) ≤ (k : Int) := by omega
      have i1 : (k : Int) < (s.size : Int) := by omega
      obtain ⟨c, hcd⟩ : ∃ c, s.data.toList[k] = c := ⟨_, rfl⟩
      have hC : (s[k]'hlt).toNat = c.toNat := by rw [← hcd]; rfl
      have hT := HT.out k hk9
      have hN := HNO.out k hk9
      rw [hcd] at hT hN
      rw [HA.out] at hT
      have HT2 := Lib.hid hT
      have HN2 := Lib.hid hN
      clear hT hN hcd hk9
      have hq : labC c = ((decide (65 ≤ c.toNat) && decide (c.toNat ≤ 90)) || (decide (97 ≤ c.toNat) && decide (c.toNat ≤ 122)) || (decide (48 ≤ c.toNat) && decide (c.toNat ≤ 57))) := rfl
      have hc : (c.toNat < 48) ∨ (48 ≤ c.toNat ∧ c.toNat ≤ 57) ∨ (57 < c.toNat ∧ c.toNat < 65) ∨ (65 ≤ c.toNat ∧ c.toNat ≤ 90) ∨ (90 < c.toNat ∧ c.toNat < 97) ∨ (97 ≤ c.toNat ∧ c.toNat ≤ 122) ∨ (122 < c.toNat) := by omega
      rcases hc with c0 | c0 | c0 | c0 | c0 | c0 | c0
      · have HR : Hid (labC c = false) := Lib.hid (by rw [hq]; simp; omega)
        clear hq
        have d0 : decide ((c.toNat : Int) < 48) = true := decide_eq_true (by omega)
        have f0 : decide (c.toNat < 48) = true := decide_eq_true (by omega)
        have d1 : decide (57 < (c.toNat : Int)) = false := decide_eq_false (by omega)
        have f1 : decide (57 < c.toNat) = false := decide_eq_false (by omega)
        have d2 : decide ((c.toNat : Int) < 97) = true := decide_eq_true (by omega)
        have f2 : decide (c.toNat < 97) = true := decide_eq_true (by omega)
        have d3 : decide (122 < (c.toNat : Int)) = false := decide_eq_false (by omega)
        have f3 : decide (122 < c.toNat) = false := decide_eq_false (by omega)
        have d4 : decide ((c.toNat : Int) < 65) = true := decide_eq_true (by omega)
        have f4 : decide (c.toNat < 65) = true := decide_eq_true (by omega)
        have d5 : decide (90 < (c.toNat : Int)) = false := decide_eq_false (by omega)
        have f5 : decide (90 < c.toNat) = false := decide_eq_false (by omega)
        have HN3 := Lib.hid (HN2.out HR.out)
        clear HT2 HN2 c0
        generalize c.toNat = v at *
        go_wp2
        go_ret
        exact ⟨by rw [HN3.out]; first | done | rfl, (by repeat (first | exact Below.refl _ _ | assumption | (refine below_drewN ?_ _) | (refine Below.drew ?_) | (refine Below.alloc ?_ (by first | omega | (simp; omega) | simp) _) | (refine Below.setCell ?_ (by first | omega | (simp; omega) | simp) _) | (refine below_trans ?_ (by assumption) (by first | omega | (simp; omega) | simp))))⟩
      · have HR : Hid (labC c = true) := Lib.hid (by rw [hq]; simp; omega)
        clear hq
        have d0 : decide ((c.toNat : Int) < 48) = false := decide_eq_false (by omega)
        have f0 : decide (c.toNat < 48) = false := decide_eq_false (by omega)
        have d1 : decide (57 < (c.toNat : Int)) = false := decide_eq_false (by omega)
        have f1 : decide (57 < c.toNat) = false := decide_eq_false (by omega)
        have d2 : decide ((c.toNat : Int) < 97) = true := decide_eq_true (by omega)
        have f2 : decide (c.toNat < 97) = true := decide_eq_true (by omega)
        have d3 : decide (122 < (c.toNat : Int)) = false := decide_eq_false (by omega)
        have f3 : decide (122 < c.toNat) = false := decide_eq_false (by omega)
        have d4 : decide ((c.toNat : Int) < 65) = true := decide_eq_true (by omega)
        have f4 : decide (c.toNat < 65) = true := decide_eq_true (by omega)
        have d5 : decide (90 < (c.toNat : Int)) = false := decide_eq_false (by omega)
        have f5 : decide (90 < c.toNat) = false := decide_eq_false (by omega)
        have HT3 := HT2.out
        rw [HR.out] at HT3
        have HT4 : Hid ((s.data.toList.take (k + 1)).all labC = true) := Lib.hid (by rw [HT3]; rfl)
        clear HT2 HN2 c0 HT3
        generalize c.toNat = v at *
        go_wp2
        go_roundw
        case rel => exact ⟨k + 1, by go_num, by omega, HT4, (by repeat (first | exact Below.refl _ _ | assumption | (refine below_drewN ?_ _) | (refine Below.drew ?_) | (refine Below.alloc ?_ (by first | omega | (simp; omega) | simp) _) | (refine Below.setCell ?_ (by first | omega | (simp; omega) | simp) _) | (refine below_trans ?_ (by assumption) (by first | omega | (simp; omega) | simp))))⟩
        case measure => simp [intOf]; omega
      · have HR : Hid (labC c = false) := Lib.hid (by rw [hq]; simp; omega)
        clear hq
        have d0 : decide ((c.toNat : Int) < 48) = false := decide_eq_false (by omega)
        have f0 : decide (c.toNat < 48) = false := decide_eq_false (by omega)
        have d1 : decide (57 < (c.toNat : Int)) = true := decide_eq_true (by omega)
        have f1 : decide (57 < c.toNat) = true := decide_eq_true (by omega)
        have d2 : decide ((c.toNat : Int) < 97) = true := decide_eq_true (by omega)
        have f2 : decide (c.toNat < 97) = true := decide_eq_true (by omega)
        have d3 : decide (122 < (c.toNat : Int)) = false := decide_eq_false (by omega)
        have f3 : decide (122 < c.toNat) = false := decide_eq_false (by omega)
        have d4 : decide ((c.toNat : Int) < 65) = true := decide_eq_true (by omega)
        have f4 : decide (c.toNat < 65) = true := decide_eq_true (by omega)
        have d5 : decide (90 < (c.toNat : Int)) = false := decide_eq_false (by omega)
        have f5 : decide (90 < c.toNat) = false := decide_eq_false (by omega)
        have HN3 := Lib.hid (HN2.out HR.out)
        clear HT2 HN2 c0
        generalize c.toNat = v at *
        go_wp2
        go_ret
        exact ⟨by rw [HN3.out]; first | done | rfl, (by repeat (first | exact Below.refl _ _ | assumption | (refine below_drewN ?_ _) | (refine Below.drew ?_) | (refine Below.alloc ?_ (by first | omega | (simp; omega) | simp) _) | (refine Below.setCell ?_ (by first | omega | (simp; omega) | simp) _) | (refine below_trans ?_ (by assumption) (by first | omega | (simp; omega) | simp))))⟩
      · have HR : Hid (labC c = true) := Lib.hid (by rw [hq]; simp; omega)
        clear hq
        have d0 : decide ((c.toNat : Int) < 48) = false := decide_eq_false (by omega)
        have f0 : decide (c.toNat < 48) = false := decide_eq_false (by omega)
        have d1 : decide (57 < (c.toNat : Int)) = true := decide_eq_true (by omega)
        have f1 : decide (57 < c.toNat) = true := decide_eq_true (by omega)
        have d2 : decide ((c.toNat : Int) < 97) = true := decide_eq_true (by omega)
        have f2 : decide (c.toNat < 97) = true := decide_eq_true (by omega)
        have d3 : decide (122 < (c.toNat : Int)) = false := decide_eq_false (by omega)
        have f3 : decide (122 < c.toNat) = false := decide_eq_false (by omega)
        have d4 : decide ((c.toNat : Int) < 65) = false := decide_eq_false (by omega)
        have f4 : decide (c.toNat < 65) = false := decide_eq_false (by omega)
        have d5 : decide (90 < (c.toNat : Int)) = false := decide_eq_false (by omega)
        have f5 : decide (90 < c.toNat) = false := decide_eq_false (by omega)
        have HT3 := HT2.out
        rw [HR.out] at HT3
        have HT4 : Hid ((s.data.toList.take (k + 1)).all labC = true) := Lib.hid (by rw [HT3]; rfl)
        clear HT2 HN2 c0 HT3
        generalize c.toNat = v at *
        go_wp2
        go_roundw
        case rel => exact ⟨k + 1, by go_num, by omega, HT4, (by repeat (first | exact Below.refl _ _ | assumption | (refine below_drewN ?_ _) | (refine Below.drew ?_) | (refine Below.alloc ?_ (by first | omega | (simp; omega) | simp) _) | (refine Below.setCell ?_ (by first | omega | (simp; omega) | simp) _) | (refine below_trans ?_ (by assumption) (by first | omega | (simp; omega) | simp))))⟩
        case measure => simp [intOf]; omega
      · have HR : Hid (labC c = false) := Lib.hid (by rw [hq]; simp; omega)
        clear hq
        have d0 : decide ((c.toNat : Int) < 48) = false := decide_eq_false (by omega)
        have f0 : decide (c.toNat < 48) = false := decide_eq_false (by omega)
        have d1 : decide (57 < (c.toNat : Int)) = true := decide_eq_true (by omega)
        have f1 : decide (57 < c.toNat) = true := decide_eq_true (by omega)
        have d2 : decide ((c.toNat : Int) < 97) = true := decide_eq_true (by omega)
        have f2 : decide (c.toNat < 97) = true := decide_eq_true (by omega)
        have d3 : decide (122 < (c.toNat : Int)) = false := decide_eq_false (by omega)
        have f3 : decide (122 < c.toNat) = false := decide_eq_false (by omega)
        have d4 : decide ((c.toNat : Int) < 65) = false := decide_eq_false (by omega)
        have f4 : decide (c.toNat < 65) = false := decide_eq_false (by omega)
        have d5 : decide (90 < (c.toNat : Int)) = true := decide_eq_true (by omega)
        have f5 : decide (90 < c.toNat) = true := decide_eq_true (by omega)
        have HN3 := Lib.hid (HN2.out HR.out)
        clear HT2 HN2 c0
        generalize c.toNat = v at *
        go_wp2
        go_ret
        exact ⟨by rw [HN3.out]; first | done | rfl, (by repeat (first | exact Below.refl _ _ | assumption | (refine below_drewN ?_ _) | (refine Below.drew ?_) | (refine Below.alloc ?_ (by first | omega | (simp; omega) | simp) _) | (refine Below.setCell ?_ (by first | omega | (simp; omega) | simp) _) | (refine below_trans ?_ (by assumption) (by first | omega | (simp; omega) | simp))))⟩
      · have HR : Hid (labC c = true) := Lib.hid (by rw [hq]; simp; omega)
        clear hq
        have d0 : decide ((c.toNat : Int) < 48) = false := decide_eq_false (by omega)
        have f0 : decide (c.toNat < 48) = false := decide_eq_false (by omega)
        have d1 : decide (57 < (c.toNat : Int)) = true := decide_eq_true (by omega)
        have f1 : decide (57 < c.toNat) = true := decide_eq_true (by omega)
        have d2 : decide ((c.toNat : Int) < 97) = false := decide_eq_false (by omega)
        have f2 : decide (c.toNat < 97) = false := decide_eq_false (by omega)
        have d3 : decide (122 < (c.toNat : Int)) = false := decide_eq_false (by omega)
        have f3 : decide (122 < c.toNat) = false := decide_eq_false (by omega)
        have d4 : decide ((c.toNat : Int) < 65) = false := decide_eq_false (by omega)
        have f4 : decide (c.toNat < 65) = false := decide_eq_false (by omega)
        have d5 : decide (90 < (c.toNat : Int)) = true := decide_eq_true (by omega)
        have f5 : decide (90 < c.toNat) = true := decide_eq_true (by omega)
        have HT3 := HT2.out
        rw [HR.out] at HT3
        have HT4 : Hid ((s.data.toList.take (k + 1)).all labC = true) := Lib.hid (by rw [HT3]; rfl)
        clear HT2 HN2 c0 HT3
        generalize c.toNat = v at *
        go_wp2
        go_roundw
        case rel => exact ⟨k + 1, by go_num, by omega, HT4, (by repeat (first | exact Below.refl _ _ | assumption | (refine below_drewN ?_ _) | (refine Below.drew ?_) | (refine Below.alloc ?_ (by first | omega | (simp; omega) | simp) _) | (refine Below.setCell ?_ (by first | omega | (simp; omega) | simp) _) | (refine below_trans ?_ (by assumption) (by first | omega | (simp; omega) | simp))))⟩
        case measure => simp [intOf]; omega
      · have HR : Hid (labC c = false) := Lib.hid (by rw [hq]; simp; omega)
        clear hq
        have d0 : decide ((c.toNat : Int) < 48) = false := decide_eq_false (by omega)
        have f0 : decide (c.toNat < 48) = false := decide_eq_false (by omega)
        have d1 : decide (57 < (c.toNat : Int)) = true := decide_eq_true (by omega)
        have f1 : decide (57 < c.toNat) = true := decide_eq_true (by omega)
        have d2 : decide ((c.toNat : Int) < 97) = false := decide_eq_false (by omega)
        have f2 : decide (c.toNat < 97) = false := decide_eq_false (by omega)
        have d3 : decide (122 < (c.toNat : Int)) = true := decide_eq_true (by omega)
        have f3 : decide (122 < c.toNat) = true := decide_eq_true (by omega)
        have d4 : decide ((c.toNat : Int) < 65) = false := decide_eq_false (by omega)
        have f4 : decide (c.toNat < 65) = false := decide_eq_false (by omega)
        have d5 : decide (90 < (c.toNat : Int)) = true := decide_eq_true (by omega)
        have f5 : decide (90 < c.toNat) = true := decide_eq_true (by omega)
        have HN3 := Lib.hid (HN2.out HR.out)
        clear HT2 HN2 c0
        generalize c.toNat = v at *
        go_wp2
        go_ret
        exact ⟨by rw [HN3.out]; first | done | rfl, (by repeat (first | exact Below.refl _ _ | assumption | (refine below_drewN ?_ _) | (refine Below.drew ?_) | (refine Below.alloc ?_ (by first | omega | (simp; omega) | simp) _) | (refine Below.setCell ?_ (by first | omega | (simp; omega) | simp) _) | (refine below_trans ?_ (by assumption) (by first | omega | (simp; omega) | simp))))⟩
    · obtain rfl : k = s.size := by omega
      have HA2 := HE.out
      rw [HA.out] at HA2
      have hl := HL.out
      rw [← HA2, Bool.and_true] at hl
      by_cases h0 : s.size = 0
      · have z0 := HZ.out h0
        have z1 : (s.toList == []) = true := by rw [z0]; rfl
        have z2 : (s.toList != []) = false := by rw [z0]; rfl
        have HR : Hid (isLab s.data.toList = false) := Lib.hid (by rw [hl, decide_eq_false (by omega)]; rfl)
        clear hl HA2 z0
        go_wp2
        go_ret
        exact ⟨by rw [HR.out]; first | done | rfl, (by repeat (first | exact Below.refl _ _ | assumption | (refine below_drewN ?_ _) | (refine Below.drew ?_) | (refine Below.alloc ?_ (by first | omega | (simp; omega) | simp) _) | (refine Below.setCell ?_ (by first | omega | (simp; omega) | simp) _) | (refine below_trans ?_ (by assumption) (by first | omega | (simp; omega) | simp))))⟩
      · have z0 := HNZ.out h0
        have z1 : (s.toList == []) = false := by simpa using z0
        have z2 : (s.toList != []) = true := by simpa using z0
        clear z0
        by_cases h32 : s.size ≤ 32
        · have d1 : decide ((s.size : Int) ≤ 32) = true := decide_eq_true (by omega)
          have d2 : decide (s.size ≤ 32) = true := decide_eq_true (by omega)
          have HR : Hid (isLab s.data.toList = true) := Lib.hid (by rw [hl, decide_eq_true (show 1 ≤ s.size by omega), d2]; rfl)
          clear hl HA2
          go_wp2
          go_ret
          exact ⟨by rw [HR.out]; first | done | rfl, (by repeat (first | exact Below.refl _ _ | assumption | (refine below_drewN ?_ _) | (refine Below.drew ?_) | (refine Below.alloc ?_ (by first | omega | (simp; omega) | simp) _) | (refine Below.setCell ?_ (by first | omega | (simp; omega) | simp) _) | (refine below_trans ?_ (by assumption) (by first | omega | (simp; omega) | simp))))⟩
        · have d1 : decide ((s.size : Int) ≤ 32) = false := decide_eq_false (by omega)
          have d2 : decide (s.size ≤ 32) = false := decide_eq_false (by omega)
          have HR : Hid (isLab s.data.toList = false) := Lib.hid (by rw [hl, d2, Bool.and_false])
          clear hl HA2
          go_wp2
          go_ret
          exact ⟨by rw [HR.out]; first | done | rfl, (by repeat (first | exact Below.refl _ _ | assumption | (refine below_drewN ?_ _) | (refine Below.drew ?_) | (refine Below.alloc ?_ (by first | omega | (simp; omega) | simp) _) | (refine Below.setCell ?_ (by first | omega | (simp; omega) | simp) _) | (refine below_trans ?_ (by assumption) (by first | omega | (simp; omega) | simp))))⟩
end
end Go.Proofs.YtggaijdbaplfiaaGreatDoor
