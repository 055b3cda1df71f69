/- Contracts of the document's package: Digits. -/
import Derived.Test.YtklbamkafldagaaDoorSe21
import Derived.Laws.BytesArg
namespace Go.Proofs.YtklbamkafldagaaDoor
open Go.RowKit
set_option linter.unusedVariables false
set_option linter.unusedSimpArgs false
section
variable {w : World}
theorem dec_step (m : Nat) (h : ¬ m < 10) : Lib.decDigits m = Lib.decDigits (m / 10) ++ [UInt8.ofNat (48 + m % 10)] := by
  rw [Lib.decDigits, dif_neg h]
theorem dec_low (m : Nat) (h : m < 10) : Lib.decDigits m = [UInt8.ofNat (48 + m)] := by
  rw [Lib.decDigits, dif_pos h]
theorem conv_one (W : World) (x : Int) : (convert 52 9 (.slice (some ⟨W.heap.size, 0, none⟩) 1 1)).run Tryd.prog (W.alloc (.cells #[.int .u8 x] 5)) = .ok (.string (bs [UInt8.ofNat x.toNat])) (W.alloc (.cells #[.int .u8 x] 5)) := by
  have := run_convert_bytes_arg (P := Tryd.prog) (W.alloc (.cells #[.int .u8 x] 5)) 52 5 Tryd.underlying52 Tryd.underlying5 W.heap.size 0 1 1 [x] rfl (fun i hi => by
    obtain rfl : i = 0 := by omega
    simp [go_sem]) 9 Tryd.underlying9
  rw [this]
  rfl
theorem ofNat_up (m : Nat) : (48 + (m : Int)).toNat = 48 + m := by omega
set_option maxRecDepth 100000 in
set_option maxHeartbeats 4000000 in
theorem digits_any (n : Nat) (hn : n < 18446744073709551616) : Calls Tryd.prog 43 #[.int .u64 n] w fun r w' => r = .returned (.string (bs (digs n))) ∧ Below w.heap.size w w' := by
  have hd := digs_eq n hn
  have h20 := digF_len 20 n
  rw [← hd]
  have hl : (Lib.decDigits n).length ≤ 20 := by rw [hd]; exact h20
  clear hd h20
  generalize hDn : Lib.decDigits n = D at *
  go_enter Tryd.func43, Tryd.ntmps43
  go_wp2_with fail
  go_loopw [0, 3] (fun ii ss wr => ∃ (m : Nat) (s : List UInt8), ii = .int .u64 (m : Nat) ∧ m < 18446744073709551616 ∧ ss = .string (bs s) ∧ Lib.decDigits m ++ s = D ∧ Below w.heap.size w wr) (fun ii ss _ => (intOf ii).toNat)
  case atStart => exact ⟨n, [], rfl, hn, rfl, by simpa using hDn, (by repeat (first | exact Below.refl _ _ | assumption | (refine below_drewN ?_ _) | (refine Below.drew ?_) | (refine Below.alloc ?_ (by first | omega | (simp; omega) | simp) _) | (refine Below.setCell ?_ (by first | omega | (simp; omega) | simp) _) | (refine below_trans ?_ (by assumption) (by first | omega | (simp; omega) | simp))))⟩
  case round =>
    obtain ⟨m, s, rfl, hm, rfl, hD, hb_wr⟩ := hrel
    have hsr := hb_wr.size
    have hs20 : s.length ≤ 20 := by rw [← hD, List.length_append] at hl; omega
    by_cases hlt : m < 10
    · have d1 : decide ((9 : Int) < (m : Int)) = false := decide_eq_false (by omega)
      have hc := conv_one wr (48 + (m : Int))
      rw [dec_low m hlt] at hD
      have e1 : bs [UInt8.ofNat (48 + (m : Int)).toNat] ++ bs s = bs D := by rw [bs_append, ofNat_up, hD]
      have z1 : ¬ (9223372036854775807 < (bs [UInt8.ofNat (48 + (m : Int)).toNat]).size + (bs s).size) := by rw [bs_size, bs_size, List.length_singleton]; omega
      clear hD hl hs20
      generalize bs [UInt8.ofNat (48 + (m : Int)).toNat] = B1 at *
      generalize bs s = B2 at *
      go_wp2
      go_ret
      exact ⟨by rw [← e1]; rfl, (by repeat (first | exact Below.refl _ _ | assumption | (refine below_drewN ?_ _) | (refine Below.drew ?_) | (refine Below.alloc ?_ (by first | omega | (simp; omega) | simp) _) | (refine Below.setCell ?_ (by first | omega | (simp; omega) | simp) _) | (refine below_trans ?_ (by assumption) (by first | omega | (simp; omega) | simp))))⟩
    · have d1 : decide ((9 : Int) < (m : Int)) = true := decide_eq_true (by omega)
      have hc := conv_one wr (48 + (m : Int) % 10)
      rw [dec_step m hlt] at hD
      have e0 : (48 + (m : Int) % 10).toNat = 48 + m % 10 := by omega
      have z1 : ¬ (9223372036854775807 < (bs [UInt8.ofNat (48 + (m : Int) % 10).toNat]).size + (bs s).size) := by rw [bs_size, bs_size, List.length_singleton]; omega
      have e1 : bs [UInt8.ofNat (48 + (m : Int) % 10).toNat] ++ bs s = bs (UInt8.ofNat (48 + m % 10) :: s) := by rw [bs_append, e0]; rfl
      have hD' : Lib.decDigits (m / 10) ++ UInt8.ofNat (48 + m % 10) :: s = D := by rw [← hD]; simp
      clear hD hl hs20 e0
      generalize hB1 : bs [UInt8.ofNat (48 + (m : Int) % 10).toNat] = B1 at *
      generalize hB2 : bs s = B2 at *
      clear hB1 hB2
      generalize UInt8.ofNat (48 + m % 10) = c at *
      go_wp2
      go_roundw
      case rel => exact ⟨m / 10, c :: s, by go_num, by omega, rfl, hD', (by repeat (first | exact Below.refl _ _ | assumption | (refine below_drewN ?_ _) | (refine Below.drew ?_) | (refine Below.alloc ?_ (by first | omega | (simp; omega) | simp) _) | (refine Below.setCell ?_ (by first | omega | (simp; omega) | simp) _) | (refine below_trans ?_ (by assumption) (by first | omega | (simp; omega) | simp))))⟩
      case measure => simp [intOf]; omega
end
end Go.Proofs.YtklbamkafldagaaDoor
