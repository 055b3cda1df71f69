/- Contracts of package ephem: find, place, free, used. -/
import Derived.Test.YtdeopodfpeeenaaDoorY3
namespace Go.Proofs.YtdeopodfpeeenaaDoor
open Go.RowKit
set_option linter.unusedVariables false
set_option linter.unusedSimpArgs false

section
variable {w : World} {A : Option Addr} {l : List Es} (cap : Nat)
theorem efind_any (key : Nat) (hT : Tz w) (hr : ERow w w.heap.size A l) (hz : l.length = 0 ∨ Sz l.length) :
    Calls Tryd.prog 17 #[wrk A l.length cap, .int .u64 (key : Nat)] w fun e w' => e = .returned (.int .i64 (toI l.length (fd l key))) ∧ Below w.heap.size w w' := by
  have HF := Lib.hid fun (w : World) hT hr b (hc : w.cell? ⟨b, 0, none⟩ = some (.int .u64 (key : Nat))) => esearch_any (w := w) (A := A) (l := l) cap key 35 #[.pointer (some ⟨b, 0, none⟩)] (stopB key) eg_find1 hT hr hz (says_find1 key b w hc)
  have hle := sa_le l (stopB key) (hm key l.length)
  obtain ⟨r, hR⟩ : ∃ r, Hid (toI l.length (fd l key) = r) := ⟨_, rfl⟩
  rw [hR.out]
  unfold fd at hR
  generalize sa l (stopB key) (hm key l.length) = a at *
  unfold wrk at *
  by_cases ha : a < l.length
  · rw [toI_lt ha] at HF
    obtain ⟨b, off, rfl, hbb, hc⟩ := hr.at_ (by omega)
    obtain ⟨c0, c1, c2⟩ := hc a ha
    have i1 : (a : Int) < (l.length : Int) := by omega
    have i2 : (0 : Int) ≤ (a : Int) := by omega
    have f1 : decide ((a : Int) < 0) = false := decide_eq_false (by omega)
    clear hc
    by_cases hs : (nthE l a).s = 0
    · obtain rfl : r = -1 := by rw [← hR.out, if_neg (by simp [hs]), toI_no (by omega)]
      rw [hs] at c0
      have c0 : w.cell? ⟨b, off + a * 3, none⟩ = some (.int .u8 0) := c0
      clear hs
      go_enter Tryd.func17, Tryd.ntmps17
      go_wp2_with fail
      go_at_call 34
      refine (HF.out _ (hT.later (by repeat (first | exact Below.refl _ _ | assumption | (refine below_drewN ?_ _) | (refine Below.drew ?_) | (refine Below.alloc ?_ (by first | omega | (simp; omega) | simp) _) | (refine Below.setCell ?_ (by first | omega | (simp; omega) | simp) _) | (refine below_trans ?_ (by assumption) (by first | omega | (simp; omega) | simp))))) (hr.later (by repeat (first | exact Below.refl _ _ | assumption | (refine below_drewN ?_ _) | (refine Below.drew ?_) | (refine Below.alloc ?_ (by first | omega | (simp; omega) | simp) _) | (refine Below.setCell ?_ (by first | omega | (simp; omega) | simp) _) | (refine below_trans ?_ (by assumption) (by first | omega | (simp; omega) | simp))))) _ (by simp [go_sem])).mono ?_
      rintro e w1 ⟨rfl, hb_w1⟩
      obtain ⟨hc_w1, hf_w1⟩ := bcell hb_w1; have hz_w1_w_0 : w.heap.size < w1.heap.size := (by have hzz := hb_w1.size; (try simp only [World.size_alloc, World.size_setCell, World.size_drew, World.heap_drewN] at hzz); omega); have hz_w1_w_1 : w.heap.size + 1 < w1.heap.size := (by have hzz := hb_w1.size; (try simp only [World.size_alloc, World.size_setCell, World.size_drew, World.heap_drewN] at hzz); omega); have hs_w1 := hb_w1.size; (try simp only [World.size_alloc, World.size_setCell, World.size_drew, World.heap_drewN] at hs_w1)
      have b1 : Below w.heap.size w w1 := (by repeat (first | exact Below.refl _ _ | assumption | (refine below_drewN ?_ _) | (refine Below.drew ?_) | (refine Below.alloc ?_ (by first | omega | (simp; omega) | simp) _) | (refine Below.setCell ?_ (by first | omega | (simp; omega) | simp) _) | (refine below_trans ?_ (by assumption) (by first | omega | (simp; omega) | simp))))
      have d0 := (b1.cell (p := ⟨b, off + a * 3, none⟩) hbb).trans c0
      go_wp2
      go_ret
      exact ⟨rfl, (by repeat (first | exact Below.refl _ _ | assumption | (refine below_drewN ?_ _) | (refine Below.drew ?_) | (refine Below.alloc ?_ (by first | omega | (simp; omega) | simp) _) | (refine Below.setCell ?_ (by first | omega | (simp; omega) | simp) _) | (refine below_trans ?_ (by assumption) (by first | omega | (simp; omega) | simp))))⟩
    · obtain rfl : r = (a : Int) := by rw [← hR.out, if_pos ⟨ha, hs⟩, toI_lt ha]
      have f2 : (((nthE l a).s : Int) == 0) = false := by simp; omega
      generalize (nthE l a).s = x at *
      clear hs
      go_enter Tryd.func17, Tryd.ntmps17
      go_wp2_with fail
      go_at_call 34
      refine (HF.out _ (hT.later (by repeat (first | exact Below.refl _ _ | assumption | (refine below_drewN ?_ _) | (refine Below.drew ?_) | (refine Below.alloc ?_ (by first | omega | (simp; omega) | simp) _) | (refine Below.setCell ?_ (by first | omega | (simp; omega) | simp) _) | (refine below_trans ?_ (by assumption) (by first | omega | (simp; omega) | simp))))) (hr.later (by repeat (first | exact Below.refl _ _ | assumption | (refine below_drewN ?_ _) | (refine Below.drew ?_) | (refine Below.alloc ?_ (by first | omega | (simp; omega) | simp) _) | (refine Below.setCell ?_ (by first | omega | (simp; omega) | simp) _) | (refine below_trans ?_ (by assumption) (by first | omega | (simp; omega) | simp))))) _ (by simp [go_sem])).mono ?_
      rintro e w1 ⟨rfl, hb_w1⟩
      obtain ⟨hc_w1, hf_w1⟩ := bcell hb_w1; have hz_w1_w_0 : w.heap.size < w1.heap.size := (by have hzz := hb_w1.size; (try simp only [World.size_alloc, World.size_setCell, World.size_drew, World.heap_drewN] at hzz); omega); have hz_w1_w_1 : w.heap.size + 1 < w1.heap.size := (by have hzz := hb_w1.size; (try simp only [World.size_alloc, World.size_setCell, World.size_drew, World.heap_drewN] at hzz); omega); have hs_w1 := hb_w1.size; (try simp only [World.size_alloc, World.size_setCell, World.size_drew, World.heap_drewN] at hs_w1)
      have b1 : Below w.heap.size w w1 := (by repeat (first | exact Below.refl _ _ | assumption | (refine below_drewN ?_ _) | (refine Below.drew ?_) | (refine Below.alloc ?_ (by first | omega | (simp; omega) | simp) _) | (refine Below.setCell ?_ (by first | omega | (simp; omega) | simp) _) | (refine below_trans ?_ (by assumption) (by first | omega | (simp; omega) | simp))))
      have d0 := (b1.cell (p := ⟨b, off + a * 3, none⟩) hbb).trans c0
      go_wp2
      go_ret
      exact ⟨rfl, (by repeat (first | exact Below.refl _ _ | assumption | (refine below_drewN ?_ _) | (refine Below.drew ?_) | (refine Below.alloc ?_ (by first | omega | (simp; omega) | simp) _) | (refine Below.setCell ?_ (by first | omega | (simp; omega) | simp) _) | (refine below_trans ?_ (by assumption) (by first | omega | (simp; omega) | simp))))⟩
  · rw [toI_no ha] at HF
    obtain rfl : r = -1 := by rw [← hR.out, if_neg (fun h => ha h.1), toI_no (by omega)]
    clear hR
    go_enter Tryd.func17, Tryd.ntmps17
    go_wp2_with fail
    go_at_call 34
    refine (HF.out _ (hT.later (by repeat (first | exact Below.refl _ _ | assumption | (refine below_drewN ?_ _) | (refine Below.drew ?_) | (refine Below.alloc ?_ (by first | omega | (simp; omega) | simp) _) | (refine Below.setCell ?_ (by first | omega | (simp; omega) | simp) _) | (refine below_trans ?_ (by assumption) (by first | omega | (simp; omega) | simp))))) (hr.later (by repeat (first | exact Below.refl _ _ | assumption | (refine below_drewN ?_ _) | (refine Below.drew ?_) | (refine Below.alloc ?_ (by first | omega | (simp; omega) | simp) _) | (refine Below.setCell ?_ (by first | omega | (simp; omega) | simp) _) | (refine below_trans ?_ (by assumption) (by first | omega | (simp; omega) | simp))))) _ (by simp [go_sem])).mono ?_
    rintro e w1 ⟨rfl, hb_w1⟩
    obtain ⟨hc_w1, hf_w1⟩ := bcell hb_w1; have hz_w1_w_0 : w.heap.size < w1.heap.size := (by have hzz := hb_w1.size; (try simp only [World.size_alloc, World.size_setCell, World.size_drew, World.heap_drewN] at hzz); omega); have hz_w1_w_1 : w.heap.size + 1 < w1.heap.size := (by have hzz := hb_w1.size; (try simp only [World.size_alloc, World.size_setCell, World.size_drew, World.heap_drewN] at hzz); omega); have hs_w1 := hb_w1.size; (try simp only [World.size_alloc, World.size_setCell, World.size_drew, World.heap_drewN] at hs_w1)
    go_wp2
    go_ret
    exact ⟨rfl, (by repeat (first | exact Below.refl _ _ | assumption | (refine below_drewN ?_ _) | (refine Below.drew ?_) | (refine Below.alloc ?_ (by first | omega | (simp; omega) | simp) _) | (refine Below.setCell ?_ (by first | omega | (simp; omega) | simp) _) | (refine below_trans ?_ (by assumption) (by first | omega | (simp; omega) | simp))))⟩
theorem eplace_any (key : Nat) (hT : Tz w) (hr : ERow w w.heap.size A l) (hz : l.length = 0 ∨ Sz l.length) :
    Calls Tryd.prog 36 #[wrk A l.length cap, .int .u64 (key : Nat)] w fun e w' => e = .returned (.int .i64 (toI l.length (pl l key))) ∧ Below w.heap.size w w' := by
  have HF := Lib.hid fun (w : World) hT hr => esearch_any (w := w) (A := A) (l := l) cap key 44 #[] openB eg_place1 hT hr hz (says_place1 w)
  unfold pl
  generalize toI l.length (sa l openB (hm key l.length)) = r at *
  unfold wrk at *
  clear hz
  go_enter Tryd.func36, Tryd.ntmps36
  go_wp2_with fail
  go_at_call 34
  refine (HF.out _ (hT.later (by repeat (first | exact Below.refl _ _ | assumption | (refine below_drewN ?_ _) | (refine Below.drew ?_) | (refine Below.alloc ?_ (by first | omega | (simp; omega) | simp) _) | (refine Below.setCell ?_ (by first | omega | (simp; omega) | simp) _) | (refine below_trans ?_ (by assumption) (by first | omega | (simp; omega) | simp))))) (hr.later (by repeat (first | exact Below.refl _ _ | assumption | (refine below_drewN ?_ _) | (refine Below.drew ?_) | (refine Below.alloc ?_ (by first | omega | (simp; omega) | simp) _) | (refine Below.setCell ?_ (by first | omega | (simp; omega) | simp) _) | (refine below_trans ?_ (by assumption) (by first | omega | (simp; omega) | simp)))))).mono ?_
  rintro e w1 ⟨rfl, hb_w1⟩
  obtain ⟨hc_w1, hf_w1⟩ := bcell hb_w1; have hz_w1_w_0 : w.heap.size < w1.heap.size := (by have hzz := hb_w1.size; (try simp only [World.size_alloc, World.size_setCell, World.size_drew, World.heap_drewN] at hzz); omega); have hs_w1 := hb_w1.size; (try simp only [World.size_alloc, World.size_setCell, World.size_drew, World.heap_drewN] at hs_w1)
  go_wp2
  go_ret
  exact ⟨rfl, (by repeat (first | exact Below.refl _ _ | assumption | (refine below_drewN ?_ _) | (refine Below.drew ?_) | (refine Below.alloc ?_ (by first | omega | (simp; omega) | simp) _) | (refine Below.setCell ?_ (by first | omega | (simp; omega) | simp) _) | (refine below_trans ?_ (by assumption) (by first | omega | (simp; omega) | simp))))⟩
set_option maxHeartbeats 1000000 in
theorem efree_any (hr : ERow w w.heap.size A l) (hl : l.length ≤ 5864062014805) :
    Calls Tryd.prog 32 #[wrk A l.length cap] w fun e w' => e = .returned (.int .i64 (frees l : Nat)) ∧ Below w.heap.size w w' := by
  unfold wrk
  go_enter Tryd.func32, Tryd.ntmps32
  go_wp2_with fail
  go_loopw [3, 10] (fun nn ii wr => ∃ k : Nat, ii = .int .i64 (k : Nat) ∧ k ≤ l.length ∧ nn = .int .i64 (frees (l.take k) : Nat) ∧ w.heap.size ≤ wr.heap.size ∧ Below w.heap.size w wr) (fun nn ii _ => l.length - (intOf ii).toNat)
  case atStart => exact ⟨0, rfl, Nat.zero_le _, rfl, (by first | omega | (simp; omega) | simp), (by repeat (first | exact Below.refl _ _ | assumption | (refine below_drewN ?_ _) | (refine Below.drew ?_) | (refine Below.alloc ?_ (by first | omega | (simp; omega) | simp) _) | (refine Below.setCell ?_ (by first | omega | (simp; omega) | simp) _) | (refine below_trans ?_ (by assumption) (by first | omega | (simp; omega) | simp))))⟩
  case round =>
    obtain ⟨k, rfl, hk, rfl, hsz, hb_wr⟩ := hrel
    have hsr := hb_wr.size
    have hfl := frees_le (l.take k)
    rw [List.length_take] at hfl
    by_cases hlt : k < l.length
    · obtain ⟨b, off, rfl, hbb, hc⟩ := (hr.later hb_wr).at_ (by omega)
      obtain ⟨c0, c1, c2⟩ := hc k hlt
      have hft := Lib.hid (frees_take l k hlt)
      have i1 : (k : Int) < (l.length : Int) := by omega
      have i2 : (0 : Int) ≤ (k : Int) := by omega
      generalize nthE l k = s at *
      obtain ⟨ss, sk, sv⟩ := s
      simp only at c0 c1 c2 hft
      generalize frees (l.take k) = f at *
      clear hc
      by_cases hs : ss = 0
      · subst hs
        go_wp2
        go_roundw
        case rel => exact ⟨k + 1, by go_num, by omega, by rw [hft.out, if_pos rfl]; go_num, (by first | omega | (simp; omega) | simp), (by repeat (first | exact Below.refl _ _ | assumption | (refine below_drewN ?_ _) | (refine Below.drew ?_) | (refine Below.alloc ?_ (by first | omega | (simp; omega) | simp) _) | (refine Below.setCell ?_ (by first | omega | (simp; omega) | simp) _) | (refine below_trans ?_ (by assumption) (by first | omega | (simp; omega) | simp))))⟩
        case measure => simp [intOf]; omega
      · have f2 : ((ss : Int) == 0) = false := by simp; omega
        have hft2 := Lib.hid (show frees (l.take (k + 1)) = f by rw [hft.out, if_neg hs]; omega)
        clear hs
        go_wp2
        go_roundw
        case rel => exact ⟨k + 1, by go_num, by omega, by rw [hft2.out], (by first | omega | (simp; omega) | simp), (by repeat (first | exact Below.refl _ _ | assumption | (refine below_drewN ?_ _) | (refine Below.drew ?_) | (refine Below.alloc ?_ (by first | omega | (simp; omega) | simp) _) | (refine Below.setCell ?_ (by first | omega | (simp; omega) | simp) _) | (refine below_trans ?_ (by assumption) (by first | omega | (simp; omega) | simp))))⟩
        case measure => simp [intOf]; omega
    · obtain rfl : k = l.length := by omega
      have HX := Lib.hid (List.take_length (l := l))
      go_wp2
      go_ret
      exact ⟨by rw [HX.out]; rfl, (by repeat (first | exact Below.refl _ _ | assumption | (refine below_drewN ?_ _) | (refine Below.drew ?_) | (refine Below.alloc ?_ (by first | omega | (simp; omega) | simp) _) | (refine Below.setCell ?_ (by first | omega | (simp; omega) | simp) _) | (refine below_trans ?_ (by assumption) (by first | omega | (simp; omega) | simp))))⟩
/-- the slots that bear a key, in a row that can be appended to -/
def UsedE (w : World) (l : List Es) (e : Ending) (w' : World) : Prop := ∃ (A : Option Addr) (cap : Nat), e = .returned (.slice A (l.filter (fun s => s.s == 1)).length cap) ∧ OwnsE w' w.heap.size (.slice A (l.filter (fun s => s.s == 1)).length cap) (l.filter (fun s => s.s == 1)) ∧ Below w.heap.size w w'
theorem filt_take (l : List Es) (k : Nat) (h : k < l.length) : (l.take (k + 1)).filter (fun s => s.s == 1) = (l.take k).filter (fun s => s.s == 1) ++ if (nthE l k).s = 1 then [nthE l k] else [] := by
  rw [take_nthE l k h, List.filter_append]
  by_cases e : (nthE l k).s = 1 <;> simp [e]
end
end Go.Proofs.YtdeopodfpeeenaaDoor
