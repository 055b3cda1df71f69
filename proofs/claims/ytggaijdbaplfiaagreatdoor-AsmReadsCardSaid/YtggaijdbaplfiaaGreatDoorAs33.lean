/- Contracts of the document's package: in, reg, Digits. -/
import Derived.Test.YtggaijdbaplfiaaGreatDoorAs25
import Derived.Laws.BytesArg
namespace Go.Proofs.YtggaijdbaplfiaaGreatDoor
open Go.RowKit
set_option linter.unusedVariables false
set_option linter.unusedSimpArgs false
theorem cont_take (s : List UInt8) (c : UInt8) (k : Nat) (hk : k < s.length) : (s.take (k + 1)).contains c = ((s.take k).contains c || c == s[k]) := by
  rw [List.take_add_one, List.getElem?_eq_getElem hk, Bool.eq_iff_iff]
  simp only [List.contains_iff_mem, Bool.or_eq_true, List.mem_append, Option.toList_some, List.mem_singleton, beq_iff_eq]
def regB (n : Int) (b : Bool) : Bool := if b then decide (0 ≤ n) && decide (n < 4) else decide (n = 0)
section
variable {w : World}
set_option maxRecDepth 100000 in
set_option maxHeartbeats 4000000 in
theorem xin_any (s : ByteArray) (hs : s.size ≤ 1000) (c : UInt8) : Calls Tryz.prog 61 #[.string s, .int .u8 (c.toNat : Nat)] w fun e w' => e = .returned (.bool (s.data.toList.contains c)) ∧ w' = w := by
  have hlen : s.data.toList.length = s.size := Array.length_toList
  have HT := Lib.hid fun k (hk : k < s.data.toList.length) => cont_take s.data.toList c k hk
  have HE : Hid ((s.data.toList.take s.size).contains c = s.data.toList.contains c) := Lib.hid (by rw [List.take_of_length_le (by omega)])
  have HY : Hid (∀ k (hk : k < s.data.toList.length), s.data.toList[k] = c → s.data.toList.contains c = true) := Lib.hid fun k hk h => by
    rw [List.contains_iff_mem, ← h]
    exact List.getElem_mem hk
  have HV := Lib.hid fun d : UInt8 => @UInt8.toNat_inj d c
  obtain ⟨v, hv⟩ : ∃ v, c.toNat = v := ⟨_, rfl⟩
  rw [hv]
  rw [hv] at HV
  clear hv
  go_enter Tryz.func61, Tryz.ntmps61
  go_wp2_with fail
  go_loopw [5] (fun ii wr => ∃ k : Nat, ii = .int .i64 (k : Nat) ∧ k ≤ s.size ∧ Hid ((s.data.toList.take k).contains c = false) ∧ wr = w) (fun ii _ => s.size - (intOf ii).toNat)
  case atStart => exact ⟨0, rfl, Nat.zero_le _, Lib.hid (by simp), rfl⟩
  case round =>
    obtain ⟨k, rfl, hk, HA, rfl⟩ := hrel
    by_cases hlt : k < s.size
    · have hk9 : k < s.data.toList.length := by omega
      have i0 : (0 : Int) ≤ (k : Int) := by omega
      have i1 : (k : Int) < (s.size : Int) := by omega
      obtain ⟨d, hd⟩ : ∃ d, s.data.toList[k] = d := ⟨_, rfl⟩
      have HT2 := HT.out k hk9
      have HY2 := Lib.hid (HY.out k hk9)
      rw [HA.out, hd] at HT2
      rw [hd] at HY2
      have HT3 := Lib.hid HT2
      clear HT2
      have HV2 := HV.out d
      obtain ⟨q, hq⟩ : ∃ q, d.toNat = q := ⟨_, rfl⟩
      have hC : (s[k]'hlt).toNat = q := by rw [← hq, ← hd]; rfl
      rw [hq] at HV2
      by_cases e : q = v
      · have hdc := HV2.1 e
        have HR := Lib.hid (HY2.out hdc)
        subst e
        clear HV2 HY2 HT3 hdc hq hd hk9
        go_wp2
        go_ret
        rw [HR.out]
        exact ⟨rfl, rfl⟩
      · have hdc : ¬ d = c := fun h => e (HV2.2 h)
        have HN : Hid ((s.data.toList.take (k + 1)).contains c = false) := Lib.hid (by rw [HT3.out]; simp; exact fun h => hdc h.symm)
        have e1 : ((q : Int) == (v : Int)) = false := by simp; omega
        have e2 : (q == v) = false := by simp; exact e
        clear HV2 HY2 HT3 hdc hq hd hk9 e
        go_wp2
        go_roundw
        case rel => exact ⟨k + 1, by go_num, by omega, HN, by first | rfl | trivial⟩
        case measure => simp [intOf]; omega
    · obtain rfl : k = s.size := by omega
      go_wp2
      go_ret
      rw [← HE.out, HA.out]
      exact ⟨rfl, rfl⟩
set_option maxRecDepth 100000 in
set_option maxHeartbeats 4000000 in
theorem xreg_lo (n : Int) (h : n < 0) : Calls Tryz.prog 60 #[.int .i64 n, .bool true] w fun e w' => e = .returned (.bool false) ∧ w' = w := by
  have d1 : decide (0 ≤ n) = false := decide_eq_false (by omega)
  go_enter Tryz.func60, Tryz.ntmps60
  go_wp2
  go_ret
  exact ⟨rfl, rfl⟩
set_option maxRecDepth 100000 in
set_option maxHeartbeats 4000000 in
theorem xreg_hi (n : Int) (h : 4 ≤ n) : Calls Tryz.prog 60 #[.int .i64 n, .bool true] w fun e w' => e = .returned (.bool false) ∧ w' = w := by
  have d1 : decide (0 ≤ n) = true := decide_eq_true (by omega)
  have d2 : decide (n < 4) = false := decide_eq_false (by omega)
  go_enter Tryz.func60, Tryz.ntmps60
  go_wp2
  go_ret
  exact ⟨rfl, rfl⟩
set_option maxRecDepth 100000 in
set_option maxHeartbeats 4000000 in
theorem xreg_in (n : Int) (h0 : 0 ≤ n) (h : n < 4) : Calls Tryz.prog 60 #[.int .i64 n, .bool true] w fun e w' => e = .returned (.bool true) ∧ w' = w := by
  have d1 : decide (0 ≤ n) = true := decide_eq_true (by omega)
  have d2 : decide (n < 4) = true := decide_eq_true (by omega)
  go_enter Tryz.func60, Tryz.ntmps60
  go_wp2
  go_ret
  exact ⟨rfl, rfl⟩
set_option maxRecDepth 100000 in
set_option maxHeartbeats 4000000 in
theorem xreg_no (n : Int) (h : ¬ n = 0) : Calls Tryz.prog 60 #[.int .i64 n, .bool false] w fun e w' => e = .returned (.bool false) ∧ w' = w := by
  have d1 : (n == 0) = false := by simp; exact h
  go_enter Tryz.func60, Tryz.ntmps60
  go_wp2
  go_ret
  exact ⟨rfl, rfl⟩
set_option maxRecDepth 100000 in
set_option maxHeartbeats 4000000 in
theorem xreg_none : Calls Tryz.prog 60 #[.int .i64 0, .bool false] w fun e w' => e = .returned (.bool true) ∧ w' = w := by
  go_enter Tryz.func60, Tryz.ntmps60
  go_wp2
  go_ret
  exact ⟨rfl, rfl⟩
theorem xreg_any (n : Int) (b : Bool) : Calls Tryz.prog 60 #[.int .i64 n, .bool b] w fun e w' => e = .returned (.bool (regB n b)) ∧ w' = w := by
  cases b with
  | true =>
    by_cases h0 : n < 0
    · have e : regB n true = false := by unfold regB; rw [if_pos rfl, decide_eq_false (by omega)]; rfl
      rw [e]; exact xreg_lo n h0
    · by_cases h4 : 4 ≤ n
      · have e : regB n true = false := by unfold regB; rw [if_pos rfl, decide_eq_true (by omega), decide_eq_false (by omega)]; rfl
        rw [e]; exact xreg_hi n h4
      · have e : regB n true = true := by unfold regB; rw [if_pos rfl, decide_eq_true (by omega), decide_eq_true (by omega)]; rfl
        rw [e]; exact xreg_in n (by omega) (by omega)
  | false =>
    by_cases h : n = 0
    · subst h; exact xreg_none
    · have e : regB n false = false := by unfold regB; rw [if_neg (by simp), decide_eq_false h]
      rw [e]; exact xreg_no n h
theorem dec_step (m : Nat) (h : ¬ m < 10) : Lib.decDigits m = Lib.decDigits (m / 10) ++ [UInt8.ofNat (48 + m % 10)] := by
  rw [Lib.decDigits, dif_neg h]
theorem dec_low (m : Nat) (h : m < 10) : Lib.decDigits m = [UInt8.ofNat (48 + m)] := by
  rw [Lib.decDigits, dif_pos h]
theorem conv_one (W : World) (x : Int) : (convert 86 9 (.slice (some ⟨W.heap.size, 0, none⟩) 1 1)).run Tryz.prog (W.alloc (.cells #[.int .u8 x] 5)) = .ok (.string (bs [UInt8.ofNat x.toNat])) (W.alloc (.cells #[.int .u8 x] 5)) := by
  have := run_convert_bytes_arg (P := Tryz.prog) (W.alloc (.cells #[.int .u8 x] 5)) 86 5 Tryz.underlying86 Tryz.underlying5 W.heap.size 0 1 1 [x] rfl (fun i hi => by
    obtain rfl : i = 0 := by omega
    simp [go_sem]) 9 Tryz.underlying9
  rw [this]
  rfl
theorem ofNat_up (m : Nat) : (48 + (m : Int)).toNat = 48 + m := by omega
set_option maxRecDepth 100000 in
set_option maxHeartbeats 4000000 in
theorem xdigits_any (n : Nat) (hn : n < 18446744073709551616) : Calls Tryz.prog 34 #[.int .u64 n] w fun r w' => r = .returned (.string (bs (digs n))) ∧ Below w.heap.size w w' := by
  have hd := digs_eq n hn
  have h20 := digF_len 20 n
  rw [← hd]
  have hl : (Lib.decDigits n).length ≤ 20 := by rw [hd]; exact h20
  clear hd h20
  generalize hDn : Lib.decDigits n = D at *
  go_enter Tryz.func34, Tryz.ntmps34
  go_wp2_with fail
  go_loopw [0, 3] (fun ii ss wr => ∃ (m : Nat) (s : List UInt8), ii = .int .u64 (m : Nat) ∧ m < 18446744073709551616 ∧ ss = .string (bs s) ∧ Lib.decDigits m ++ s = D ∧ Below w.heap.size w wr) (fun ii ss _ => (intOf ii).toNat)
  case atStart => exact ⟨n, [], rfl, hn, rfl, by simpa using hDn, (by repeat (first | exact Below.refl _ _ | assumption | (refine below_drewN ?_ _) | (refine Below.drew ?_) | (refine Below.alloc ?_ (by first | omega | (simp; omega) | simp) _) | (refine Below.setCell ?_ (by first | omega | (simp; omega) | simp) _) | (refine below_trans ?_ (by assumption) (by first | omega | (simp; omega) | simp))))⟩
  case round =>
    obtain ⟨m, s, rfl, hm, rfl, hD, hb_wr⟩ := hrel
    have hsr := hb_wr.size
    have hs20 : s.length ≤ 20 := by rw [← hD, List.length_append] at hl; omega
    by_cases hlt : m < 10
    · have d1 : decide ((9 : Int) < (m : Int)) = false := decide_eq_false (by omega)
      have hc := conv_one wr (48 + (m : Int))
      rw [dec_low m hlt] at hD
      have e1 : bs [UInt8.ofNat (48 + (m : Int)).toNat] ++ bs s = bs D := by rw [bs_append, ofNat_up, hD]
      have z1 : ¬ (9223372036854775807 < (bs [UInt8.ofNat (48 + (m : Int)).toNat]).size + (bs s).size) := by rw [bs_size, bs_size, List.length_singleton]; omega
      clear hD hl hs20
      generalize bs [UInt8.ofNat (48 + (m : Int)).toNat] = B1 at *
      generalize bs s = B2 at *
      go_wp2
      go_ret
      exact ⟨by rw [← e1]; rfl, (by repeat (first | exact Below.refl _ _ | assumption | (refine below_drewN ?_ _) | (refine Below.drew ?_) | (refine Below.alloc ?_ (by first | omega | (simp; omega) | simp) _) | (refine Below.setCell ?_ (by first | omega | (simp; omega) | simp) _) | (refine below_trans ?_ (by assumption) (by first | omega | (simp; omega) | simp))))⟩
    · have d1 : decide ((9 : Int) < (m : Int)) = true := decide_eq_true (by omega)
      have hc := conv_one wr (48 + (m : Int) % 10)
      rw [dec_step m hlt] at hD
      have e0 : (48 + (m : Int) % 10).toNat = 48 + m % 10 := by omega
      have z1 : ¬ (9223372036854775807 < (bs [UInt8.ofNat (48 + (m : Int) % 10).toNat]).size + (bs s).size) := by rw [bs_size, bs_size, List.length_singleton]; omega
      have e1 : bs [UInt8.ofNat (48 + (m : Int) % 10).toNat] ++ bs s = bs (UInt8.ofNat (48 + m % 10) :: s) := by rw [bs_append, e0]; rfl
      have hD' : Lib.decDigits (m / 10) ++ UInt8.ofNat (48 + m % 10) :: s = D := by rw [← hD]; simp
      clear hD hl hs20 e0
      generalize hB1 : bs [UInt8.ofNat (48 + (m : Int) % 10).toNat] = B1 at *
      generalize hB2 : bs s = B2 at *
      clear hB1 hB2
      generalize UInt8.ofNat (48 + m % 10) = c at *
      go_wp2
      go_roundw
      case rel => exact ⟨m / 10, c :: s, by go_num, by omega, rfl, hD', (by repeat (first | exact Below.refl _ _ | assumption | (refine below_drewN ?_ _) | (refine Below.drew ?_) | (refine Below.alloc ?_ (by first | omega | (simp; omega) | simp) _) | (refine Below.setCell ?_ (by first | omega | (simp; omega) | simp) _) | (refine below_trans ?_ (by assumption) (by first | omega | (simp; omega) | simp))))⟩
      case measure => simp [intOf]; omega
end
end Go.Proofs.YtggaijdbaplfiaaGreatDoor
