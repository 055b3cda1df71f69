/- Contracts of package asm: isLabel, numberOf, tell. -/
import Derived.Test.YtggaijdbaplfiaaGreatDoorAs16
import Derived.Test.YtggaijdbaplfiaaGreatDoorAM1
import Derived.Lib.SmallJoins
namespace Go.Proofs.YtggaijdbaplfiaaGreatDoor
open Go.RowKit
set_option linter.unusedVariables false
set_option linter.unusedSimpArgs false
section
variable {w : World}
set_option maxRecDepth 100000 in
set_option maxHeartbeats 4000000 in
theorem isLabelByte_any (c : UInt8) : Calls Tryz.prog 68 #[.int .u8 (c.toNat : Nat)] w fun e w' => e = .returned (.bool (labC c)) ∧ w' = w := by
  have hc : (c.toNat < 48) ∨ (48 ≤ c.toNat ∧ c.toNat ≤ 57) ∨ (57 < c.toNat ∧ c.toNat < 65) ∨ (65 ≤ c.toNat ∧ c.toNat ≤ 90) ∨ (90 < c.toNat ∧ c.toNat < 97) ∨ (97 ≤ c.toNat ∧ c.toNat ≤ 122) ∨ (122 < c.toNat) := by omega
  have hl : labC c = ((decide (65 ≤ c.toNat) && decide (c.toNat ≤ 90)) || (decide (97 ≤ c.toNat) && decide (c.toNat ≤ 122)) || (decide (48 ≤ c.toNat) && decide (c.toNat ≤ 57))) := rfl
  rcases hc with c0 | c0 | c0 | c0 | c0 | c0 | c0
  · have HR : Hid (labC c = false) := Lib.hid (by rw [hl]; simp; omega)
    clear hl
    have d0 : decide (65 ≤ (c.toNat : Int)) = false := decide_eq_false (by omega)
    have d1 : decide ((c.toNat : Int) ≤ 90) = true := decide_eq_true (by omega)
    have d2 : decide (97 ≤ (c.toNat : Int)) = false := decide_eq_false (by omega)
    have d3 : decide ((c.toNat : Int) ≤ 122) = true := decide_eq_true (by omega)
    have d4 : decide (48 ≤ (c.toNat : Int)) = false := decide_eq_false (by omega)
    have d5 : decide ((c.toNat : Int) ≤ 57) = true := decide_eq_true (by omega)
    clear c0
    generalize labC c = R at *
    generalize (c.toNat : Int) = v at *
    go_enter Tryz.func68, Tryz.ntmps68
    go_wp2
    go_ret
    rw [HR.out]
    exact ⟨rfl, rfl⟩
  · have HR : Hid (labC c = true) := Lib.hid (by rw [hl]; simp; omega)
    clear hl
    have d0 : decide (65 ≤ (c.toNat : Int)) = false := decide_eq_false (by omega)
    have d1 : decide ((c.toNat : Int) ≤ 90) = true := decide_eq_true (by omega)
    have d2 : decide (97 ≤ (c.toNat : Int)) = false := decide_eq_false (by omega)
    have d3 : decide ((c.toNat : Int) ≤ 122) = true := decide_eq_true (by omega)
    have d4 : decide (48 ≤ (c.toNat : Int)) = true := decide_eq_true (by omega)
    have d5 : decide ((c.toNat : Int) ≤ 57) = true := decide_eq_true (by omega)
    clear c0
    generalize labC c = R at *
    generalize (c.toNat : Int) = v at *
    go_enter Tryz.func68, Tryz.ntmps68
    go_wp2
    go_ret
    rw [HR.out]
    exact ⟨rfl, rfl⟩
  · have HR : Hid (labC c = false) := Lib.hid (by rw [hl]; simp; omega)
    clear hl
    have d0 : decide (65 ≤ (c.toNat : Int)) = false := decide_eq_false (by omega)
    have d1 : decide ((c.toNat : Int) ≤ 90) = true := decide_eq_true (by omega)
    have d2 : decide (97 ≤ (c.toNat : Int)) = false := decide_eq_false (by omega)
    have d3 : decide ((c.toNat : Int) ≤ 122) = true := decide_eq_true (by omega)
    have d4 : decide (48 ≤ (c.toNat : Int)) = true := decide_eq_true (by omega)
    have d5 : decide ((c.toNat : Int) ≤ 57) = false := decide_eq_false (by omega)
    clear c0
    generalize labC c = R at *
    generalize (c.toNat : Int) = v at *
    go_enter Tryz.func68, Tryz.ntmps68
    go_wp2
    go_ret
    rw [HR.out]
    exact ⟨rfl, rfl⟩
  · have HR : Hid (labC c = true) := Lib.hid (by rw [hl]; simp; omega)
    clear hl
    have d0 : decide (65 ≤ (c.toNat : Int)) = true := decide_eq_true (by omega)
    have d1 : decide ((c.toNat : Int) ≤ 90) = true := decide_eq_true (by omega)
    have d2 : decide (97 ≤ (c.toNat : Int)) = false := decide_eq_false (by omega)
    have d3 : decide ((c.toNat : Int) ≤ 122) = true := decide_eq_true (by omega)
    have d4 : decide (48 ≤ (c.toNat : Int)) = true := decide_eq_true (by omega)
    have d5 : decide ((c.toNat : Int) ≤ 57) = false := decide_eq_false (by omega)
    clear c0
    generalize labC c = R at *
    generalize (c.toNat : Int) = v at *
    go_enter Tryz.func68, Tryz.ntmps68
    go_wp2
    go_ret
    rw [HR.out]
    exact ⟨rfl, rfl⟩
  · have HR : Hid (labC c = false) := Lib.hid (by rw [hl]; simp; omega)
    clear hl
    have d0 : decide (65 ≤ (c.toNat : Int)) = true := decide_eq_true (by omega)
    have d1 : decide ((c.toNat : Int) ≤ 90) = false := decide_eq_false (by omega)
    have d2 : decide (97 ≤ (c.toNat : Int)) = false := decide_eq_false (by omega)
    have d3 : decide ((c.toNat : Int) ≤ 122) = true := decide_eq_true (by omega)
    have d4 : decide (48 ≤ (c.toNat : Int)) = true := decide_eq_true (by omega)
    have d5 : decide ((c.toNat : Int) ≤ 57) = false := decide_eq_false (by omega)
    clear c0
    generalize labC c = R at *
    generalize (c.toNat : Int) = v at *
    go_enter Tryz.func68, Tryz.ntmps68
    go_wp2
    go_ret
    rw [HR.out]
    exact ⟨rfl, rfl⟩
  · have HR : Hid (labC c = true) := Lib.hid (by rw [hl]; simp; omega)
    clear hl
    have d0 : decide (65 ≤ (c.toNat : Int)) = true := decide_eq_true (by omega)
    have d1 : decide ((c.toNat : Int) ≤ 90) = false := decide_eq_false (by omega)
    have d2 : decide (97 ≤ (c.toNat : Int)) = true := decide_eq_true (by omega)
    have d3 : decide ((c.toNat : Int) ≤ 122) = true := decide_eq_true (by omega)
    have d4 : decide (48 ≤ (c.toNat : Int)) = true := decide_eq_true (by omega)
    have d5 : decide ((c.toNat : Int) ≤ 57) = false := decide_eq_false (by omega)
    clear c0
    generalize labC c = R at *
    generalize (c.toNat : Int) = v at *
    go_enter Tryz.func68, Tryz.ntmps68
    go_wp2
    go_ret
    rw [HR.out]
    exact ⟨rfl, rfl⟩
  · have HR : Hid (labC c = false) := Lib.hid (by rw [hl]; simp; omega)
    clear hl
    have d0 : decide (65 ≤ (c.toNat : Int)) = true := decide_eq_true (by omega)
    have d1 : decide ((c.toNat : Int) ≤ 90) = false := decide_eq_false (by omega)
    have d2 : decide (97 ≤ (c.toNat : Int)) = true := decide_eq_true (by omega)
    have d3 : decide ((c.toNat : Int) ≤ 122) = false := decide_eq_false (by omega)
    have d4 : decide (48 ≤ (c.toNat : Int)) = true := decide_eq_true (by omega)
    have d5 : decide ((c.toNat : Int) ≤ 57) = false := decide_eq_false (by omega)
    clear c0
    generalize labC c = R at *
    generalize (c.toNat : Int) = v at *
    go_enter Tryz.func68, Tryz.ntmps68
    go_wp2
    go_ret
    rw [HR.out]
    exact ⟨rfl, rfl⟩
theorem all_take (s : List UInt8) (k : Nat) (hk : k < s.length) : (s.take (k + 1)).all labC = ((s.take k).all labC && labC s[k]) := by
  rw [List.take_add_one, List.getElem?_eq_getElem hk, List.all_append]
  simp
set_option maxRecDepth 100000 in
set_option maxHeartbeats 4000000 in
theorem isLabel_any (s : ByteArray) : Calls Tryz.prog 38 #[.string s] w fun e w' => e = .returned (.bool (isLab s.data.toList)) ∧ w' = w := by
  have hlen : s.data.toList.length = s.size := Array.length_toList
  have hl : isLab s.data.toList = (decide (1 ≤ s.data.toList.length) && decide (s.data.toList.length ≤ 32) && s.data.toList.all labC) := rfl
  rw [hlen] at hl
  by_cases h1 : s.size < 1
  · have d1 : decide ((s.size : Int) < 1) = true := decide_eq_true (by omega)
    have HR : Hid (isLab s.data.toList = false) := Lib.hid (by rw [hl, decide_eq_false (by omega)]; rfl)
    clear hl
    go_enter Tryz.func38, Tryz.ntmps38
    go_wp2
    go_ret
    rw [HR.out]
    exact ⟨rfl, rfl⟩
  · have d1 : decide ((s.size : Int) < 1) = false := decide_eq_false (by omega)
    by_cases h2 : 32 < s.size
    · have d2 : decide (32 < (s.size : Int)) = true := decide_eq_true (by omega)
      have HR : Hid (isLab s.data.toList = false) := Lib.hid (by rw [hl, decide_eq_true (show 1 ≤ s.size by omega), decide_eq_false (show ¬ s.size ≤ 32 by omega)]; rfl)
      clear hl
      go_enter Tryz.func38, Tryz.ntmps38
      go_wp2
      go_ret
      rw [HR.out]
      exact ⟨rfl, rfl⟩
    · have d2 : decide (32 < (s.size : Int)) = false := decide_eq_false (by omega)
      have HR : Hid (isLab s.data.toList = s.data.toList.all labC) := Lib.hid (by rw [hl, decide_eq_true (show 1 ≤ s.size by omega), decide_eq_true (show s.size ≤ 32 by omega)]; rfl)
      have HT := Lib.hid fun k (hk : k < s.data.toList.length) => all_take s.data.toList k hk
      have HE : Hid ((s.data.toList.take s.size).all labC = s.data.toList.all labC) := Lib.hid (by rw [List.take_of_length_le (by omega)])
      have HB := Lib.hid fun (W : World) c => isLabelByte_any (w := W) c
      have HNO : Hid (∀ k (hk : k < s.data.toList.length), labC s.data.toList[k] = false → s.data.toList.all labC = false) := Lib.hid fun k hk h => by
        rw [List.all_eq_false]
        exact ⟨_, List.getElem_mem hk, by rw [h]; simp⟩
      clear hl
      go_enter Tryz.func38, Tryz.ntmps38
      go_wp2_with fail
      go_loopw [14] (fun ii wr => ∃ k : Nat, ii = .int .i64 (k : Nat) ∧ k ≤ s.size ∧ Hid ((s.data.toList.take k).all labC = true) ∧ wr = w) (fun ii _ => s.size - (intOf ii).toNat)
      case atStart => exact ⟨0, rfl, Nat.zero_le _, Lib.hid (by simp), rfl⟩
      case round =>
        obtain ⟨k, rfl, hk, HA, rfl⟩ := hrel
        by_cases hlt : k < s.size
        · have hk9 : k < s.data.toList.length := by omega
          have i0 : (0 : Int) ≤ (k : Int) := by omega
          have i1 : (k : Int) < (s.size : Int) := by omega
          obtain ⟨c, hcd⟩ : ∃ c, s.data.toList[k] = c := ⟨_, rfl⟩
          have hC : (s[k]'hlt).toNat = c.toNat := by rw [← hcd]; rfl
          have hT := HT.out k hk9
          have hN := HNO.out k hk9
          rw [hcd] at hT hN
          rw [HA.out] at hT
          have HT2 := Lib.hid hT
          have HN2 := Lib.hid hN
          clear hT hN hcd hk9
          go_wp2_with fail
          go_at_call 68
          refine (HB.out _ c).mono ?_
          rintro e w2 ⟨rfl, rfl⟩
          cases hq : labC c with
          | true =>
            rw [hq] at HT2
            have HT3 := HT2
            clear HN2
            go_wp2
            go_roundw
            case rel => exact ⟨k + 1, by go_num, by omega, Lib.hid (by simpa using HT3.out), by first | rfl | trivial⟩
            case measure => simp [intOf]; omega
          | false =>
            have HN3 := Lib.hid (HN2.out hq)
            clear HT2 HN2
            go_wp2
            go_ret
            rw [HR.out, HN3.out]
            exact ⟨rfl, rfl⟩
        · obtain rfl : k = s.size := by omega
          go_wp2
          go_ret
          rw [HR.out, ← HE.out, HA.out]
          exact ⟨rfl, rfl⟩
theorem pu_le {l : List UInt8} {u : Nat} (h : Lib.parseUintB 64 l = .ok u) : u < 18446744073709551616 := by
  have := Lib.parseUintB_le h
  omega
theorem pu_ok (s : ByteArray) (hs : s.size ≤ 65536) (v : Nat) (h : Lib.parseUintB 64 s.data.toList = .ok v) : Calls Tryz.prog 108 #[.string s, .int .i64 10, .int .i64 64] w fun e w' => e = .returned (.tuple #[.int .u64 v, .nilIface]) ∧ Below w.heap.size w w' := by
  refine (L_strconv_ParseUint_10_at64_ok s (by omega) v h w).mono ?_
  rintro e w' ⟨rfl, rfl | rfl⟩
  · exact ⟨rfl, Below.refl _ _⟩
  · exact ⟨rfl, Joins.below_bytesWorld _ _ _ _ (Nat.le_refl _)⟩
theorem pu_no (s : ByteArray) (hs : s.size ≤ 65536) (h : ∀ v, Lib.parseUintB 64 s.data.toList ≠ .ok v) (hL : Lw w) : Calls Tryz.prog 108 #[.string s, .int .i64 10, .int .i64 64] w fun e w' => ∃ m t N, e = .returned (.tuple #[.int .u64 m, .iface t (.pointer (some ⟨N, 0, none⟩))]) ∧ Below w.heap.size w w' := by
  rcases hc : Lib.parseUintB 64 s.data.toList with v | _ | _
  · exact absurd hc (h v)
  · obtain ⟨te, pe, h3⟩ := hL.syn
    refine (L_strconv_ParseUint_10_at64_syntax s (by omega) (hc.trans rfl) _ w h3 (.inr ⟨te, pe, rfl⟩)).mono ?_
    rintro e w' ⟨N, rfl, _, _, hb⟩
    exact ⟨_, _, N, rfl, hb⟩
  · obtain ⟨te, pe, h3⟩ := hL.rng
    refine (L_strconv_ParseUint_10_at64_range s (by omega) hc _ w h3 (.inr ⟨te, pe, rfl⟩)).mono ?_
    rintro e w' ⟨N, rfl, _, _, hb⟩
    exact ⟨_, _, N, rfl, hb⟩
def NumR (w : World) (s : ByteArray) (e : Ending) (w' : World) : Prop := e = .returned (.tuple #[.int .u64 ((numE s.data.toList).getD 0 : Nat), .bool (numE s.data.toList).isSome]) ∧ Below w.heap.size w w'
set_option maxRecDepth 100000 in
set_option maxHeartbeats 4000000 in
theorem numberOf_any (s : ByteArray) (hs : s.size ≤ 65536) (hL : Lw w) : Calls Tryz.prog 89 #[.string s] w fun e w' => NumR w s e w' := by
  unfold NumR
  by_cases hok : ∃ v, Lib.parseUintB 64 s.data.toList = .ok v
  · obtain ⟨v, hv⟩ := hok
    have HA := Lib.hid fun (w : World) => pu_ok (w := w) s hs v hv
    have hv64 := pu_le hv
    have HI := Lib.hid fun (w : World) hL => formatUint_any (w := w) (v : Int) (by omega) (by omega) hL
    simp only [Int.toNat_natCast] at HI
    have hT : numE s.data.toList = if digs v = s.data.toList then some v else none := by
      unfold numE
      rw [hv]
    by_cases he : digs v = s.data.toList
    · have e1 : ((bs (digs v)).toList == s.toList) = true := by rw [list_bytes, bs_data, decide_eq_true_eq]; exact he
      have e2 : ((bs (digs v)).toList != s.toList) = false := by simp [bne, e1]
      have HT : Hid (numE s.data.toList = some v) := Lib.hid (by rw [hT, if_pos he])
      clear hT hv he
      go_enter Tryz.func89, Tryz.ntmps89
      go_wp2_with fail
      go_at_call 108
      refine (HA.out _).mono ?_
      rintro e w1 ⟨rfl, hb_w1⟩
      obtain ⟨hc_w1, hf_w1⟩ := bcell hb_w1; have hs_w1 := hb_w1.size; (try simp only [World.size_alloc, World.size_setCell, World.size_drew, World.heap_drewN] at hs_w1)
      go_wp2_with fail
      go_at_call 78
      refine (HI.out _ (hL.later (by repeat (first | exact Below.refl _ _ | assumption | (refine below_drewN ?_ _) | (refine Below.drew ?_) | (refine Below.alloc ?_ (by first | omega | (simp; omega) | simp) _) | (refine Below.setCell ?_ (by first | omega | (simp; omega) | simp) _) | (refine below_trans ?_ (by assumption) (by first | omega | (simp; omega) | simp)))))).mono ?_
      rintro e w2 ⟨rfl, hb_w2⟩
      obtain ⟨hc_w2, hf_w2⟩ := bcell hb_w2; have hs_w2 := hb_w2.size; (try simp only [World.size_alloc, World.size_setCell, World.size_drew, World.heap_drewN] at hs_w2)
      go_wp2
      go_ret2
      rw [HT.out]
      exact ⟨rfl, (by repeat (first | exact Below.refl _ _ | assumption | (refine below_drewN ?_ _) | (refine Below.drew ?_) | (refine Below.alloc ?_ (by first | omega | (simp; omega) | simp) _) | (refine Below.setCell ?_ (by first | omega | (simp; omega) | simp) _) | (refine below_trans ?_ (by assumption) (by first | omega | (simp; omega) | simp))))⟩
    · have e1 : ((bs (digs v)).toList == s.toList) = false := by rw [list_bytes, bs_data, decide_eq_false_iff_not]; exact he
      have e2 : ((bs (digs v)).toList != s.toList) = true := by simp [bne, e1]
      have HT : Hid (numE s.data.toList = none) := Lib.hid (by rw [hT, if_neg he])
      clear hT hv he
      go_enter Tryz.func89, Tryz.ntmps89
      go_wp2_with fail
      go_at_call 108
      refine (HA.out _).mono ?_
      rintro e w1 ⟨rfl, hb_w1⟩
      obtain ⟨hc_w1, hf_w1⟩ := bcell hb_w1; have hs_w1 := hb_w1.size; (try simp only [World.size_alloc, World.size_setCell, World.size_drew, World.heap_drewN] at hs_w1)
      go_wp2_with fail
      go_at_call 78
      refine (HI.out _ (hL.later (by repeat (first | exact Below.refl _ _ | assumption | (refine below_drewN ?_ _) | (refine Below.drew ?_) | (refine Below.alloc ?_ (by first | omega | (simp; omega) | simp) _) | (refine Below.setCell ?_ (by first | omega | (simp; omega) | simp) _) | (refine below_trans ?_ (by assumption) (by first | omega | (simp; omega) | simp)))))).mono ?_
      rintro e w2 ⟨rfl, hb_w2⟩
      obtain ⟨hc_w2, hf_w2⟩ := bcell hb_w2; have hs_w2 := hb_w2.size; (try simp only [World.size_alloc, World.size_setCell, World.size_drew, World.heap_drewN] at hs_w2)
      go_wp2
      go_ret2
      rw [HT.out]
      exact ⟨rfl, (by repeat (first | exact Below.refl _ _ | assumption | (refine below_drewN ?_ _) | (refine Below.drew ?_) | (refine Below.alloc ?_ (by first | omega | (simp; omega) | simp) _) | (refine Below.setCell ?_ (by first | omega | (simp; omega) | simp) _) | (refine below_trans ?_ (by assumption) (by first | omega | (simp; omega) | simp))))⟩
  · have HA := Lib.hid fun (w : World) hL => pu_no (w := w) s hs (fun v hv => hok ⟨v, hv⟩) hL
    have HT : Hid (numE s.data.toList = none) := Lib.hid (by
      unfold numE
      split
      · rename_i u hu
        exact absurd ⟨u, hu⟩ hok
      · rfl)
    clear hok
    go_enter Tryz.func89, Tryz.ntmps89
    go_wp2_with fail
    go_at_call 108
    refine (HA.out _ hL).mono ?_
    rintro e w1 ⟨m, t, N, rfl, hb_w1⟩
    obtain ⟨hc_w1, hf_w1⟩ := bcell hb_w1; have hs_w1 := hb_w1.size; (try simp only [World.size_alloc, World.size_setCell, World.size_drew, World.heap_drewN] at hs_w1)
    go_wp2
    go_ret2
    rw [HT.out]
    exact ⟨rfl, (by repeat (first | exact Below.refl _ _ | assumption | (refine below_drewN ?_ _) | (refine Below.drew ?_) | (refine Below.alloc ?_ (by first | omega | (simp; omega) | simp) _) | (refine Below.setCell ?_ (by first | omega | (simp; omega) | simp) _) | (refine below_trans ?_ (by assumption) (by first | omega | (simp; omega) | simp))))⟩
end
end Go.Proofs.YtggaijdbaplfiaaGreatDoor
