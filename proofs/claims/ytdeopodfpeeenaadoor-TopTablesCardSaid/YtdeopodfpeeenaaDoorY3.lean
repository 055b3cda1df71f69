/- Contracts of package ephem: the search for a slot. -/
import Derived.Test.YtdeopodfpeeenaaDoorY2
import Derived.Shelf.Abstract
namespace Go.Proofs.YtdeopodfpeeenaaDoor
open Go.RowKit
set_option linter.unusedVariables false
set_option linter.unusedSimpArgs false

/-- an index, or -1 -/
def toI (n a : Nat) : Int := if a < n then (a : Int) else -1
theorem toI_lt {n a : Nat} (h : a < n) : toI n a = a := if_pos h
theorem toI_no {n a : Nat} (h : ¬ a < n) : toI n a = -1 := if_neg h
/-- what is handed in says q of each slot -/
def SaysE (g : FuncId) (lb : Array Value) (q : Es → Bool) (w : World) : Prop :=
  ∀ (W : World) (s : Es), Below w.heap.size w W → Calls Tryd.prog g (#[ecv s] ++ lb) W fun e W' => e = .returned (.bool (q s)) ∧ Below W.heap.size W W'
theorem place1_any (s : Es) (w : World) :
    Calls Tryd.prog 44 #[ecv s] w fun e w' => e = .returned (.bool (openB s)) ∧ Below w.heap.size w w' := by
  obtain ⟨a, k, v⟩ := s
  unfold ecv openB
  simp only
  by_cases h : a = 1
  · subst h
    go_enter Tryd.func44, Tryd.ntmps44
    go_wp2
    go_ret
    exact ⟨rfl, (by repeat (first | exact Below.refl _ _ | assumption | (refine below_drewN ?_ _) | (refine Below.drew ?_) | (refine Below.alloc ?_ (by first | omega | (simp; omega) | simp) _) | (refine Below.setCell ?_ (by first | omega | (simp; omega) | simp) _) | (refine below_trans ?_ (by assumption) (by first | omega | (simp; omega) | simp))))⟩
  · have f1 : ((a : Int) != 1) = true := by simp; omega
    have f2 : (a == 1) = false := by simpa using h
    rw [f2]
    clear h f2
    go_enter Tryd.func44, Tryd.ntmps44
    go_wp2
    go_ret
    exact ⟨rfl, (by repeat (first | exact Below.refl _ _ | assumption | (refine below_drewN ?_ _) | (refine Below.drew ?_) | (refine Below.alloc ?_ (by first | omega | (simp; omega) | simp) _) | (refine Below.setCell ?_ (by first | omega | (simp; omega) | simp) _) | (refine below_trans ?_ (by assumption) (by first | omega | (simp; omega) | simp))))⟩
theorem find1_any (s : Es) (key b : Nat) (w : World) (hc : w.cell? ⟨b, 0, none⟩ = some (.int .u64 (key : Nat))) :
    Calls Tryd.prog 35 #[ecv s, .pointer (some ⟨b, 0, none⟩)] w fun e w' => e = .returned (.bool (stopB key s)) ∧ Below w.heap.size w w' := by
  obtain ⟨a, k, v⟩ := s
  have hb : b < w.heap.size := World.block_lt_of_cell? w _ hc
  unfold ecv stopB isK
  simp only
  by_cases h0 : a = 0
  · subst h0
    go_enter Tryd.func35, Tryd.ntmps35
    go_wp2
    go_ret
    exact ⟨rfl, (by repeat (first | exact Below.refl _ _ | assumption | (refine below_drewN ?_ _) | (refine Below.drew ?_) | (refine Below.alloc ?_ (by first | omega | (simp; omega) | simp) _) | (refine Below.setCell ?_ (by first | omega | (simp; omega) | simp) _) | (refine below_trans ?_ (by assumption) (by first | omega | (simp; omega) | simp))))⟩
  · by_cases h1 : a = 1
    · subst h1
      by_cases hk : k = key
      · subst hk
        have f3 : ((k : Int) == (k : Int)) = true := by simp
        have HB : Hid ((1 == 0 || 1 == 1 && k == k) = true) := Lib.hid (by simp)
        go_enter Tryd.func35, Tryd.ntmps35
        go_wp2
        go_ret
        exact ⟨by rw [HB.out]; rfl, (by repeat (first | exact Below.refl _ _ | assumption | (refine below_drewN ?_ _) | (refine Below.drew ?_) | (refine Below.alloc ?_ (by first | omega | (simp; omega) | simp) _) | (refine Below.setCell ?_ (by first | omega | (simp; omega) | simp) _) | (refine below_trans ?_ (by assumption) (by first | omega | (simp; omega) | simp))))⟩
      · have f3 : ((k : Int) == (key : Int)) = false := by simp; omega
        have HB : Hid ((1 == 0 || 1 == 1 && k == key) = false) := Lib.hid (by simpa using hk)
        clear hk
        go_enter Tryd.func35, Tryd.ntmps35
        go_wp2
        go_ret
        exact ⟨by rw [HB.out]; rfl, (by repeat (first | exact Below.refl _ _ | assumption | (refine below_drewN ?_ _) | (refine Below.drew ?_) | (refine Below.alloc ?_ (by first | omega | (simp; omega) | simp) _) | (refine Below.setCell ?_ (by first | omega | (simp; omega) | simp) _) | (refine below_trans ?_ (by assumption) (by first | omega | (simp; omega) | simp))))⟩
    · have f1 : ((a : Int) == 1) = false := by simp; omega
      have f0 : ((a : Int) == 0) = false := by simp; omega
      have HB : Hid ((a == 0 || a == 1 && k == key) = false) := Lib.hid (by simp [h0, h1])
      clear h0 h1
      go_enter Tryd.func35, Tryd.ntmps35
      go_wp2
      go_ret
      exact ⟨by rw [HB.out]; rfl, (by repeat (first | exact Below.refl _ _ | assumption | (refine below_drewN ?_ _) | (refine Below.drew ?_) | (refine Below.alloc ?_ (by first | omega | (simp; omega) | simp) _) | (refine Below.setCell ?_ (by first | omega | (simp; omega) | simp) _) | (refine below_trans ?_ (by assumption) (by first | omega | (simp; omega) | simp))))⟩
theorem eg_place1 : ∀ args w, (callFunc 44 args).run Tryd.prog w = .ok (.enter 44 args) w := enters_of Tryd.func44 (by kernel_rfl) rfl
theorem eg_find1 : ∀ args w, (callFunc 35 args).run Tryd.prog w = .ok (.enter 35 args) w := enters_of Tryd.func35 (by kernel_rfl) rfl
theorem says_place1 (w : World) : SaysE 44 #[] openB w := fun W s hb => place1_any s W
theorem says_find1 (key b : Nat) (w : World) (hc : w.cell? ⟨b, 0, none⟩ = some (.int .u64 (key : Nat))) : SaysE 35 #[.pointer (some ⟨b, 0, none⟩)] (stopB key) w :=
  fun W s hb => find1_any s key b W ((hb.cell (p := ⟨b, 0, none⟩) (World.block_lt_of_cell? w _ hc)).trans hc)
section
variable {w : World} {A : Option Addr} {l : List Es} (cap : Nat)
set_option maxHeartbeats 1000000 in
theorem esearch_any (key : Nat) (g : FuncId) (lb : Array Value) (q : Es → Bool) (eg : ∀ args w, (callFunc g args).run Tryd.prog w = .ok (.enter g args) w) (hT : Tz w) (hr : ERow w w.heap.size A l) (hz : l.length = 0 ∨ Sz l.length) (hs : SaysE g lb q w) :
    Calls Tryd.prog 34 #[wrk A l.length cap, .int .u64 (key : Nat), .func (.func g) #[] lb] w fun e w' => e = .returned (.int .i64 (toI l.length (sa l q (hm key l.length)))) ∧ Below w.heap.size w w' := by
  have HS := Lib.hid hs
  clear hs
  obtain ⟨r, hR⟩ : ∃ r : Int, Hid (toI l.length (sa l q (hm key l.length)) = r) := ⟨_, rfl⟩
  rw [hR.out]
  have hl64 : l.length ≤ 64 := by rcases hz with h | h; omega; exact h.le
  have HH : Hid (0 < l.length → hm key l.length < l.length) := Lib.hid (fun h0 => by
    rcases hz with h | h
    · omega
    · exact hm_lt key h)
  have HM := Lib.hid fun (h0 : 0 < l.length) (w : World) hT => home_any key l.length (hz.resolve_left (by omega)) w hT
  clear hz
  generalize hm key l.length = h at *
  unfold wrk
  go_enter Tryd.func34, Tryd.ntmps34
  go_wp2_with fail
  go_loopw [15] (fun ii wr => ∃ k : Nat, ii = .int .i64 (k : Nat) ∧ k ≤ l.length ∧ Hid (∀ j, j < k → q (nthE l ((h + j) % l.length)) = false) ∧ w.heap.size + 1 ≤ wr.heap.size ∧ wr.cell? ⟨w.heap.size, 0, none⟩ = some (.slice A l.length cap) ∧ Below w.heap.size w wr) (fun ii _ => l.length - (intOf ii).toNat)
  case atStart => exact ⟨0, rfl, Nat.zero_le _, Lib.hid (fun j hj => by omega), (by first | omega | (simp; omega) | simp), by simp [go_sem], (by repeat (first | exact Below.refl _ _ | assumption | (refine below_drewN ?_ _) | (refine Below.drew ?_) | (refine Below.alloc ?_ (by first | omega | (simp; omega) | simp) _) | (refine Below.setCell ?_ (by first | omega | (simp; omega) | simp) _) | (refine below_trans ?_ (by assumption) (by first | omega | (simp; omega) | simp))))⟩
  case round =>
    obtain ⟨k, rfl, hk, hA, hsz, kb, hb_wr⟩ := hrel
    have hsr := hb_wr.size
    by_cases hlt : k < l.length
    · have HHK := HH.out (by omega)
      have HMK := Lib.hid (HM.out (by omega))
      obtain ⟨p, hp⟩ : ∃ p, Hid ((h + k) % l.length = p) := ⟨_, rfl⟩
      have hpl : p < l.length := by rw [← hp.out]; exact Nat.mod_lt _ (by omega)
      obtain ⟨b, off, rfl, hbb, hc⟩ := (hr.later hb_wr).at_ (by omega)
      obtain ⟨c0, c1, c2⟩ := hc p hpl
      have e1 : ((h : Int) + (k : Int)) % (l.length : Int) = (p : Int) := by rw [← hp.out]; simp
      have i1 : (p : Int) < (l.length : Int) := by omega
      have i2 : (0 : Int) ≤ (p : Int) := by omega
      have HC := HS.out wr (nthE l p) hb_wr
      have HQ : Hid (nthE l ((h + k) % l.length) = nthE l p) := Lib.hid (by rw [hp.out])
      unfold ecv at HC
      generalize nthE l p = s at *
      obtain ⟨ss, sk, sv⟩ := s
      simp only at c0 c1 c2 HC
      clear hc
      rcases hq : q ⟨ss, sk, sv⟩ with _ | _
      · rw [hq] at HC
        have HC := Lib.hid HC
        have HN : Hid (∀ j, j < k + 1 → q (nthE l ((h + j) % l.length)) = false) := Lib.hid fun j hj => by
          by_cases e : j = k
          · rw [e, HQ.out]; exact hq
          · exact hA.out j (by omega)
        clear hq
        go_wp2_with fail
        go_at_call 43
        refine (HMK.out _ (hT.below hT.lt hb_wr)).mono ?_
        rintro e w1 ⟨rfl, rfl⟩
        go_wp2_with fail
        refine HC.out.mono ?_
        rintro e w2 ⟨rfl, hb_w2⟩
        obtain ⟨hc_w2, hf_w2⟩ := bcell hb_w2; have hs_w2 := hb_w2.size; (try simp only [World.size_alloc, World.size_setCell, World.size_drew, World.heap_drewN] at hs_w2)
        have kb2 : w2.cell? ⟨w.heap.size, 0, none⟩ = some (.slice (some ⟨b, off, none⟩) l.length cap) := (hc_w2 _ _ (by first | omega | (simp; omega) | simp)).trans kb
        clear hc_w2 hf_w2
        go_wp2
        go_roundw
        case rel => exact ⟨k + 1, by go_num, by omega, HN, (by first | omega | (simp; omega) | simp), kb2, (by repeat (first | exact Below.refl _ _ | assumption | (refine below_drewN ?_ _) | (refine Below.drew ?_) | (refine Below.alloc ?_ (by first | omega | (simp; omega) | simp) _) | (refine Below.setCell ?_ (by first | omega | (simp; omega) | simp) _) | (refine below_trans ?_ (by assumption) (by first | omega | (simp; omega) | simp))))⟩
        case measure => simp [intOf]; omega
      · rw [hq] at HC
        have HC := Lib.hid HC
        obtain rfl : r = (p : Int) := (by
          have e9 : sr l q h = k := fst1_eq hlt (by rw [HQ.out]; exact hq) fun j hj => hA.out j hj
          rw [← hR.out]
          unfold sa
          rw [if_pos (by omega), e9, hp.out, toI_lt hpl])
        clear hq
        go_wp2_with fail
        go_at_call 43
        refine (HMK.out _ (hT.below hT.lt hb_wr)).mono ?_
        rintro e w1 ⟨rfl, rfl⟩
        go_wp2_with fail
        refine HC.out.mono ?_
        rintro e w2 ⟨rfl, hb_w2⟩
        obtain ⟨hc_w2, hf_w2⟩ := bcell hb_w2; have hs_w2 := hb_w2.size; (try simp only [World.size_alloc, World.size_setCell, World.size_drew, World.heap_drewN] at hs_w2)
        go_wp2
        go_ret
        exact ⟨rfl, (by repeat (first | exact Below.refl _ _ | assumption | (refine below_drewN ?_ _) | (refine Below.drew ?_) | (refine Below.alloc ?_ (by first | omega | (simp; omega) | simp) _) | (refine Below.setCell ?_ (by first | omega | (simp; omega) | simp) _) | (refine below_trans ?_ (by assumption) (by first | omega | (simp; omega) | simp))))⟩
    · obtain rfl : r = -1 := (by
        have e9 : sr l q h = l.length := fst1_none fun j hj => hA.out j (by omega)
        rw [← hR.out]
        unfold sa
        rw [if_neg (by omega), toI_no (by omega)])
      go_wp2
      go_ret
      exact ⟨rfl, (by repeat (first | exact Below.refl _ _ | assumption | (refine below_drewN ?_ _) | (refine Below.drew ?_) | (refine Below.alloc ?_ (by first | omega | (simp; omega) | simp) _) | (refine Below.setCell ?_ (by first | omega | (simp; omega) | simp) _) | (refine below_trans ?_ (by assumption) (by first | omega | (simp; omega) | simp))))⟩
end
end Go.Proofs.YtdeopodfpeeenaaDoor
