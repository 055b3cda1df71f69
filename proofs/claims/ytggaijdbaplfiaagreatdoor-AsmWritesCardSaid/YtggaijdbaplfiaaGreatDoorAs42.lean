/- Contracts of the document's package: label. -/
import Derived.Test.YtggaijdbaplfiaaGreatDoorAs41
namespace Go.Proofs.YtggaijdbaplfiaaGreatDoor
open Go.RowKit
set_option linter.unusedVariables false
set_option linter.unusedSimpArgs false
section
variable {w : World}
set_option maxRecDepth 100000 in
set_option maxHeartbeats 8000000 in
theorem xlabel_any {A : Option Addr} {l : List In} (cap : Nat) (hr : PRow w w.heap.size A l) (hl : l.length ≤ 256) (hx : ∀ x ∈ l, OpB x) (p : Nat) (hp : p ≤ 256) :
    Calls Tryz.prog 28 #[.slice A l.length cap, .int .i64 (p : Nat)] w fun e w' => e = .returned (.string (bs (lbD l p))) ∧ Below w.heap.size w w' := by
  have HJ := Lib.hid fun (W : World) k (hk : k < l.length) => xjumps_any (w := W) (nthI l k) (hx _ (nthI_mem l k hk)).o0 (hx _ (nthI_mem l k hk)).o1
  have HA := Lib.hid fun (i : Int) k (hk : k < l.length) => isG_next l i k hk
  have HC := Lib.hid fun k => cntG_next l k
  have HB := Lib.hid fun k => cntG_le l k
  have HE : Hid (∀ i : Int, isG (l.take l.length) i = isG l i) := Lib.hid fun i => by rw [List.take_length]
  have HD := Lib.hid fun (W : World) => xdigits_any (w := W) (cntG l p) (by have := cntG_le l p; omega)
  have HS := Lib.hid (digs_size (cntG l p))
  have HL1 : Hid (isG l (p : Int) = true → (⟨#[76]⟩ : ByteArray) ++ bs (digs (cntG l p)) = bs (lbD l p)) := Lib.hid fun h => by
    rw [show (⟨#[76]⟩ : ByteArray) = bs [76] from rfl, bs_append]
    unfold lbD
    rw [if_pos h]
    rfl
  have HL0 : Hid (isG l (p : Int) = false → lbD l p = []) := Lib.hid fun h => by
    unfold lbD
    rw [if_neg (by rw [h]; simp)]
  clear hx
  go_enter Tryz.func28, Tryz.ntmps28
  go_wp2_with fail
  go_loopw [5, 6] (fun nn ii wr => ∃ k : Nat, nn = .int .u64 (cntG l k : Nat) ∧ ii = .int .i64 (k : Nat) ∧ k ≤ p + 1 ∧ Hid (k = p + 1 → isG l (p : Int) = false) ∧ Below w.heap.size w wr) (fun nn ii _ => p + 1 - (intOf ii).toNat)
  case atStart => exact ⟨0, rfl, rfl, Nat.zero_le _, Lib.hid (fun h => by omega), (by repeat (first | exact Below.refl _ _ | assumption | (refine below_drewN ?_ _) | (refine Below.drew ?_) | (refine Below.alloc ?_ (by first | omega | (simp; omega) | simp) _) | (refine Below.setCell ?_ (by first | omega | (simp; omega) | simp) _) | (refine below_trans ?_ (by assumption) (by first | omega | (simp; omega) | simp))))⟩
  case round =>
    generalize wr = wA at *
    obtain ⟨k, rfl, rfl, hk, HP, hb_wA⟩ := hrel
    have hsA := hb_wA.size
    have hcn := HB.out k
    by_cases hlt : k ≤ p
    · have d1 : decide ((k : Int) ≤ (p : Int)) = true := decide_eq_true (by omega)
      have d1n : decide (k ≤ p) = true := decide_eq_true hlt
      have HCK := Lib.hid (HC.out k)
      have HEK := Lib.hid (HE.out (k : Int))
      have HDP : Hid (k = p → cntG l k = cntG l p) := Lib.hid fun h => by rw [h]
      have HGP : Hid (k = p → isG l (k : Int) = isG l (p : Int)) := Lib.hid fun h => by rw [h]
      generalize hN : cntG l k = N at *
      have HN := Lib.hid hN
      clear hN
      go_wp2_with fail
      go_loopw [7, 17] (fun vv jj wr => ∃ j : Nat, vv = .bool (isG (l.take j) (k : Int)) ∧ jj = .int .i64 (j : Nat) ∧ j ≤ l.length ∧ Below w.heap.size w wr) (fun vv jj _ => l.length - (intOf jj).toNat)
      case atStart => exact ⟨0, rfl, rfl, Nat.zero_le _, (by repeat (first | exact Below.refl _ _ | assumption | (refine below_drewN ?_ _) | (refine Below.drew ?_) | (refine Below.alloc ?_ (by first | omega | (simp; omega) | simp) _) | (refine Below.setCell ?_ (by first | omega | (simp; omega) | simp) _) | (refine below_trans ?_ (by assumption) (by first | omega | (simp; omega) | simp))))⟩
      case round =>
        clear hb_wA hsA
        generalize wr = wB at *
        obtain ⟨j, rfl, rfl, hj, hb_wB⟩ := hrel
        have hsB := hb_wB.size
        by_cases hjt : j < l.length
        · obtain ⟨b, off, rfl, hbb, hc⟩ := (hr.later hb_wB).at_ (by omega)
          have c5 := hc j hjt
          clear hc
          have hj0 : (0 : Int) ≤ (j : Int) := by omega
          have hj1 : (j : Int) < (l.length : Int) := by omega
          have HAJ := Lib.hid (HA.out (k : Int) j hjt)
          have HJJ := Lib.hid fun (W : World) => HJ.out W j hjt
          generalize hd : nthI l j = d at *
          clear hd
          unfold jumpsD at HAJ
          unfold inv at HJJ
          generalize isG (l.take j) (k : Int) = v0 at *
          generalize (hasF (formD d.kd d.op)).contains 116 = v1 at *
          obtain ⟨c0, c1, c2, c3, c4, c5, c6, c7, c8, c9, c10⟩ := c5
          cases v0 with
          | true =>
            have HR : Hid (isG (l.take (j + 1)) (k : Int) = true) := Lib.hid (by rw [HAJ.out]; rfl)
            clear HAJ
            go_wp2
            go_roundw
            case rel => exact ⟨j + 1, by rw [HR.out], by go_num, by omega, (by repeat (first | exact Below.refl _ _ | assumption | (refine below_drewN ?_ _) | (refine Below.drew ?_) | (refine Below.alloc ?_ (by first | omega | (simp; omega) | simp) _) | (refine Below.setCell ?_ (by first | omega | (simp; omega) | simp) _) | (refine below_trans ?_ (by assumption) (by first | omega | (simp; omega) | simp))))⟩
            case measure => simp [intOf]; omega
          | false =>
            cases v1 with
            | false =>
              have HR : Hid (isG (l.take (j + 1)) (k : Int) = false) := Lib.hid (by rw [HAJ.out]; rfl)
              clear HAJ
              go_wp2_with fail
              go_at_call 49
              refine (HJJ.out _).mono ?_
              rintro e w2 ⟨rfl, hb_w2⟩
              obtain ⟨hc_w2, hf_w2⟩ := bcell hb_w2; have hz_w2_wB_0 : wB.heap.size < w2.heap.size := (by have hzz := hb_w2.size; (try simp only [World.size_alloc, World.size_setCell, World.size_drew, World.heap_drewN] at hzz); omega); have hs_w2 := hb_w2.size; (try simp only [World.size_alloc, World.size_setCell, World.size_drew, World.heap_drewN] at hs_w2)
              go_wp2
              go_roundw
              case rel => exact ⟨j + 1, by rw [HR.out], by go_num, by omega, (by repeat (first | exact Below.refl _ _ | assumption | (refine below_drewN ?_ _) | (refine Below.drew ?_) | (refine Below.alloc ?_ (by first | omega | (simp; omega) | simp) _) | (refine Below.setCell ?_ (by first | omega | (simp; omega) | simp) _) | (refine below_trans ?_ (by assumption) (by first | omega | (simp; omega) | simp))))⟩
              case measure => simp [intOf]; omega
            | true =>
              have HD2 : Hid (In11 (wB.alloc (.cells #[.int .u8 d.kd, .int .u8 d.op, .int .i64 d.oa, .int .i64 d.ob, .int .i64 d.fd, .int .i64 d.n, .int .u64 d.m, .int .u64 d.w, .int .i64 d.a, .int .i64 d.b, .int .i64 d.to] 37)) wB.heap.size 0 d) := Lib.hid (In11.new wB d _)
              by_cases ht : d.to = (k : Int)
              · have e1 : (d.to == (k : Int)) = true := by simp [ht]
                have HR : Hid (isG (l.take (j + 1)) (k : Int) = true) := Lib.hid (by rw [HAJ.out, e1]; rfl)
                clear HAJ ht
                go_wp2_with fail
                go_at_call 49
                refine (HJJ.out _).mono ?_
                rintro e w2 ⟨rfl, hb_w2⟩
                obtain ⟨hc_w2, hf_w2⟩ := bcell hb_w2; have hz_w2_wB_0 : wB.heap.size < w2.heap.size := (by have hzz := hb_w2.size; (try simp only [World.size_alloc, World.size_setCell, World.size_drew, World.heap_drewN] at hzz); omega); have hs_w2 := hb_w2.size; (try simp only [World.size_alloc, World.size_setCell, World.size_drew, World.heap_drewN] at hs_w2)
                obtain ⟨e0, e1', e2, e3, e4, e5, e6, e7, e8, e9, e10⟩ := id (HD2.out.later hb_w2)
                simp only [Nat.zero_add] at e0 e1' e2 e3 e4 e5 e6 e7 e8 e9 e10
                go_wp2
                go_roundw
                case rel => exact ⟨j + 1, by rw [HR.out], by go_num, by omega, (by repeat (first | exact Below.refl _ _ | assumption | (refine below_drewN ?_ _) | (refine Below.drew ?_) | (refine Below.alloc ?_ (by first | omega | (simp; omega) | simp) _) | (refine Below.setCell ?_ (by first | omega | (simp; omega) | simp) _) | (refine below_trans ?_ (by assumption) (by first | omega | (simp; omega) | simp))))⟩
                case measure => simp [intOf]; omega
              · have e1 : (d.to == (k : Int)) = false := by simp [ht]
                have HR : Hid (isG (l.take (j + 1)) (k : Int) = false) := Lib.hid (by rw [HAJ.out, e1]; rfl)
                clear HAJ ht
                go_wp2_with fail
                go_at_call 49
                refine (HJJ.out _).mono ?_
                rintro e w2 ⟨rfl, hb_w2⟩
                obtain ⟨hc_w2, hf_w2⟩ := bcell hb_w2; have hz_w2_wB_0 : wB.heap.size < w2.heap.size := (by have hzz := hb_w2.size; (try simp only [World.size_alloc, World.size_setCell, World.size_drew, World.heap_drewN] at hzz); omega); have hs_w2 := hb_w2.size; (try simp only [World.size_alloc, World.size_setCell, World.size_drew, World.heap_drewN] at hs_w2)
                obtain ⟨e0, e1', e2, e3, e4, e5, e6, e7, e8, e9, e10⟩ := id (HD2.out.later hb_w2)
                simp only [Nat.zero_add] at e0 e1' e2 e3 e4 e5 e6 e7 e8 e9 e10
                go_wp2
                go_roundw
                case rel => exact ⟨j + 1, by rw [HR.out], by go_num, by omega, (by repeat (first | exact Below.refl _ _ | assumption | (refine below_drewN ?_ _) | (refine Below.drew ?_) | (refine Below.alloc ?_ (by first | omega | (simp; omega) | simp) _) | (refine Below.setCell ?_ (by first | omega | (simp; omega) | simp) _) | (refine below_trans ?_ (by assumption) (by first | omega | (simp; omega) | simp))))⟩
                case measure => simp [intOf]; omega
        · obtain rfl : j = l.length := by omega
          have HEK2 := HEK.out
          generalize isG (l.take l.length) (k : Int) = v0 at *
          subst HEK2
          by_cases hkp : k = p
          · have d2 : (k == p) = true := by simp [hkp]
            have d3 : ((k : Int) == (p : Int)) = true := by simp [hkp]
            have hNp := HDP.out hkp
            have hGp := HGP.out hkp
            have HS2 := HS.out
            rw [← hNp] at HS2
            have HD3 := HD.out
            rw [← hNp] at HD3
            have HD4 := Lib.hid HD3
            have HL2 := HL1.out
            rw [← hNp, ← hGp] at HL2
            have HL3 := Lib.hid HL2
            have HG3 := Lib.hid hGp
            have hkp2 := Lib.hid hkp
            clear HL2 HD3 HD HS HL1 hNp hGp HGP HDP hkp
            generalize hv0 : isG l (k : Int) = v0 at *
            cases v0 with
            | true =>
              have z1 : ¬ (9223372036854775807 < 1 + (bs (digs N)).size) := by have := HS2; omega
              have HL4 := Lib.hid (HL3.out rfl)
              clear hv0 HL3 HG3 HCK HS2
              generalize bs (digs N) = B2 at *
              go_wp2_with fail
              go_at_call 34
              refine (HD4.out _).mono ?_
              rintro e w3 ⟨rfl, hb_w3⟩
              obtain ⟨hc_w3, hf_w3⟩ := bcell hb_w3; have hs_w3 := hb_w3.size; (try simp only [World.size_alloc, World.size_setCell, World.size_drew, World.heap_drewN] at hs_w3)
              go_wp2
              go_ret
              rw [← HL4.out]
              exact ⟨rfl, (by repeat (first | exact Below.refl _ _ | assumption | (refine below_drewN ?_ _) | (refine Below.drew ?_) | (refine Below.alloc ?_ (by first | omega | (simp; omega) | simp) _) | (refine Below.setCell ?_ (by first | omega | (simp; omega) | simp) _) | (refine below_trans ?_ (by assumption) (by first | omega | (simp; omega) | simp))))⟩
            | false =>
              have HG4 : Hid (k + 1 = p + 1 → isG l (p : Int) = false) := Lib.hid fun _ => HG3.out.symm
              have HCK2 : Hid (cntG l (k + 1) = N) := Lib.hid (by rw [HCK.out]; rfl)
              clear hv0 HCK
              go_wp2
              go_roundw
              case rel => exact ⟨k + 1, by rw [HCK2.out], by go_num, by omega, HG4, (by repeat (first | exact Below.refl _ _ | assumption | (refine below_drewN ?_ _) | (refine Below.drew ?_) | (refine Below.alloc ?_ (by first | omega | (simp; omega) | simp) _) | (refine Below.setCell ?_ (by first | omega | (simp; omega) | simp) _) | (refine below_trans ?_ (by assumption) (by first | omega | (simp; omega) | simp))))⟩
              case measure => simp [intOf]; omega
          · have d2 : (k == p) = false := by simp [hkp]
            have d3 : ((k : Int) == (p : Int)) = false := by simp; omega
            have HG4 : Hid (k + 1 = p + 1 → isG l (p : Int) = false) := Lib.hid fun h => absurd (by omega) hkp
            clear HGP HDP hkp
            generalize hv0 : isG l (k : Int) = v0 at *
            cases v0 with
            | true =>
              have HCK2 : Hid (cntG l (k + 1) = N + 1) := Lib.hid (by rw [HCK.out]; rfl)
              clear hv0 HCK
              go_wp2
              go_roundw
              case rel => exact ⟨k + 1, by rw [HCK2.out]; go_num, by go_num, by omega, HG4, (by repeat (first | exact Below.refl _ _ | assumption | (refine below_drewN ?_ _) | (refine Below.drew ?_) | (refine Below.alloc ?_ (by first | omega | (simp; omega) | simp) _) | (refine Below.setCell ?_ (by first | omega | (simp; omega) | simp) _) | (refine below_trans ?_ (by assumption) (by first | omega | (simp; omega) | simp))))⟩
              case measure => simp [intOf]; omega
            | false =>
              have HCK2 : Hid (cntG l (k + 1) = N) := Lib.hid (by rw [HCK.out]; rfl)
              clear hv0 HCK
              go_wp2
              go_roundw
              case rel => exact ⟨k + 1, by rw [HCK2.out], by go_num, by omega, HG4, (by repeat (first | exact Below.refl _ _ | assumption | (refine below_drewN ?_ _) | (refine Below.drew ?_) | (refine Below.alloc ?_ (by first | omega | (simp; omega) | simp) _) | (refine Below.setCell ?_ (by first | omega | (simp; omega) | simp) _) | (refine below_trans ?_ (by assumption) (by first | omega | (simp; omega) | simp))))⟩
              case measure => simp [intOf]; omega
    · obtain rfl : k = p + 1 := by omega
      have d1 : decide (((p + 1 : Nat) : Int) ≤ (p : Int)) = false := decide_eq_false (by omega)
      have d1n : decide (p + 1 ≤ p) = false := decide_eq_false (by omega)
      have HL5 := Lib.hid (HL0.out (HP.out rfl))
      go_wp2
      go_ret
      rw [HL5.out]
      exact ⟨rfl, (by repeat (first | exact Below.refl _ _ | assumption | (refine below_drewN ?_ _) | (refine Below.drew ?_) | (refine Below.alloc ?_ (by first | omega | (simp; omega) | simp) _) | (refine Below.setCell ?_ (by first | omega | (simp; omega) | simp) _) | (refine below_trans ?_ (by assumption) (by first | omega | (simp; omega) | simp))))⟩
end
end Go.Proofs.YtggaijdbaplfiaaGreatDoor
