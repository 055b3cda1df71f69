/- Contracts of package ephem: rebuilt. -/
import Derived.Test.YtdeopodfpeeenaaDoorY7
namespace Go.Proofs.YtdeopodfpeeenaaDoor
open Go.RowKit
set_option linter.unusedVariables false
set_option linter.unusedSimpArgs false

def Sz2 (n : Nat) : Prop := n = 8 ∨ n = 16 ∨ n = 32 ∨ n = 64 ∨ n = 128
theorem szN_cases (u : Nat) : (szN u = 8 ∧ 2 * (u + 1) ≤ 8) ∨ (szN u = 16 ∧ 8 < 2 * (u + 1) ∧ 2 * (u + 1) ≤ 16) ∨ (szN u = 32 ∧ 16 < 2 * (u + 1) ∧ 2 * (u + 1) ≤ 32) ∨ (szN u = 64 ∧ 32 < 2 * (u + 1) ∧ 2 * (u + 1) ≤ 64) ∨ (szN u = 128 ∧ 64 < 2 * (u + 1)) := by
  unfold szN
  repeat' split
  all_goals omega
theorem szN_set (u : Nat) : Sz2 (szN u) := by
  have := szN_cases u
  unfold Sz2
  omega
theorem szN_step {m u : Nat} (h : Sz2 m) (hm : m ≤ szN u) (hu : u ≤ 63) (hl : m < 2 * (u + 1)) : Sz2 (m * 2) ∧ m * 2 ≤ szN u := by
  have := szN_cases u
  unfold Sz2 at *
  omega
theorem szN_stop {m u : Nat} (h : Sz2 m) (hm : m ≤ szN u) (hl : ¬ m < 2 * (u + 1)) : m = szN u := by
  have := szN_cases u
  unfold Sz2 at *
  omega
theorem szN_lo (u : Nat) : 8 ≤ szN u := by
  have := szN_cases u
  omega
theorem szN_sz {u : Nat} (h : szN u ≤ 64) : Sz (szN u) := by
  have := szN_cases u
  unfold Sz
  omega
theorem szN_u {u : Nat} (h : szN u ≤ 64) : 2 * (u + 1) ≤ szN u := by
  have := szN_cases u
  omega
theorem made_slots (n : Nat) : madeCells #[Value.int .u8 0, Value.int .u64 0, Value.int .u64 0] (n * 3) = (eflat (List.replicate n es0)).toArray := by
  apply Array.ext'
  apply List.ext_getElem?
  intro j
  by_cases hj : j < n * 3
  · obtain ⟨f0, f1, f2⟩ := eflat_at (List.replicate n es0) (j / 3) (by simp; omega)
    rw [nthE_rep] at f0 f1 f2
    have h3 : j % 3 = 0 ∨ j % 3 = 1 ∨ j % 3 = 2 := by omega
    rcases h3 with h3 | h3 | h3
    · rw [show j / 3 * 3 = j by omega] at f0
      show _ = (eflat (List.replicate n es0))[j]?
      rw [f0]
      simp [madeCells, hj, h3, es0]
    · rw [show j / 3 * 3 + 1 = j by omega] at f1
      show _ = (eflat (List.replicate n es0))[j]?
      rw [f1]
      simp [madeCells, hj, h3, es0]
    · rw [show j / 3 * 3 + 2 = j by omega] at f2
      show _ = (eflat (List.replicate n es0))[j]?
      rw [f2]
      simp [madeCells, hj, h3, es0]
  · have hlen := length_eflat (List.replicate n es0)
    rw [List.length_replicate] at hlen
    rw [List.getElem?_eq_none, List.getElem?_eq_none]
    · simp; omega
    · simp [size_madeCells]; omega
theorem run_make_slots (n : Nat) (hn : n ≤ 64) (W : World) :
    (Instr.makeSlice 24 (.int .i64 (n : Int)) (.int .i64 (n : Int))).run Tryd.prog W = .ok (.slice (some ⟨W.heap.size, 0, none⟩) n n) (W.alloc (.cells (eflat (List.replicate n es0)).toArray 58)) := by
  obtain ⟨i0, hi, hz0, hz1, hz2⟩ := info_parts info_es
  have h := run_make (P := Tryd.prog) W 24 58 i0 _ Tryd.underlying24 hi hz0 .i64 .i64 (n : Int) (n : Int) (by omega) (by omega) (by rw [hz2]; omega) (by omega)
  rw [h, hz1, Int.toNat_natCast, ← made_slots]
  rfl
theorem EOwn.of_block {w : World} {B g : Nat} {l : List Es} (h : w.heap[g]? = some (.cells (eflat l).toArray 58 (0, 0))) (hB : B ≤ g) (hw : ∀ s ∈ l, EW s) : EOwn w B (some ⟨g, 0, none⟩) l :=
  ⟨hw, fun _ => ⟨g, rfl, hB, heap_lt h, fun i hi => by
    obtain ⟨f0, f1, f2⟩ := eflat_at l i hi
    have hat : ∀ j v, (eflat l)[j]? = some v → w.cell? ⟨g, j, none⟩ = some v := fun j v hv => by
      rw [cell_of_row w g j _ _ (0, 0) h, List.getElem?_toArray, hv]
    exact ⟨hat _ _ f0, hat _ _ f1, hat _ _ f2⟩, fun j => by simp [World.frozen?, h]⟩⟩
/-- what rebuilt answers -/
def RebE (w : World) (l : List Es) (e : Ending) (w' : World) : Prop := ∃ g : Nat, e = .returned (.tuple #[wrk (some ⟨g, 0, none⟩) (szN (us l).length) (szN (us l).length), .int .i64 0]) ∧ EOwn w' w.heap.size (some ⟨g, 0, none⟩) (reb l (szN (us l).length)) ∧ Below w.heap.size w w'
section
variable {w : World} {A : Option Addr} {l : List Es} (cap : Nat)
set_option maxHeartbeats 1000000 in
theorem ereb_full (hr : ERow w w.heap.size A l) (hl : l.length ≤ 64) (hu : (us l).length ≤ 63) (hn : 64 < szN (us l).length) :
    Calls Tryd.prog 19 #[wrk A l.length cap] w fun e w' => e = .returned (.tuple #[wrk none 0 0, .int .i64 6]) ∧ Below w.heap.size w w' := by
  have HU := Lib.hid fun (w : World) hr => eused_any (w := w) (A := A) (l := l) cap hr (by omega)
  unfold UsedE at HU
  change Hid (∀ (w : World) (hr : ERow w w.heap.size A l), Calls Tryd.prog _ _ w fun e w' => ∃ (A : Option Addr) (cap : Nat), e = .returned (.slice A (us l).length cap) ∧ OwnsE w' w.heap.size (.slice A (us l).length cap) (us l) ∧ Below w.heap.size w w') at HU
  generalize us l = us at *
  have HS := Lib.hid fun m => szN_step (m := m) (u := us.length)
  have HX := Lib.hid fun m => szN_stop (m := m) (u := us.length)
  have HLO := Lib.hid (szN_lo us.length)
  have HN := Lib.hid hn
  generalize us.length = u at *
  unfold wrk at *
  go_enter Tryd.func19, Tryd.ntmps19
  go_wp2_with fail
  go_at_call 37
  refine (HU.out _ (hr.later (by repeat (first | exact Below.refl _ _ | assumption | (refine below_drewN ?_ _) | (refine Below.drew ?_) | (refine Below.alloc ?_ (by first | omega | (simp; omega) | simp) _) | (refine Below.setCell ?_ (by first | omega | (simp; omega) | simp) _) | (refine below_trans ?_ (by assumption) (by first | omega | (simp; omega) | simp)))))).mono ?_
  rintro e w1 ⟨Au, cu, rfl, ou, hb_w1⟩
  obtain ⟨hc_w1, hf_w1⟩ := bcell hb_w1; have hz_w1_w_0 : w.heap.size < w1.heap.size := (by have hzz := hb_w1.size; (try simp only [World.size_alloc, World.size_setCell, World.size_drew, World.heap_drewN] at hzz); omega); have hz_w1_w_1 : w.heap.size + 1 < w1.heap.size := (by have hzz := hb_w1.size; (try simp only [World.size_alloc, World.size_setCell, World.size_drew, World.heap_drewN] at hzz); omega); have hs_w1 := hb_w1.size; (try simp only [World.size_alloc, World.size_setCell, World.size_drew, World.heap_drewN] at hs_w1)
  have k0 : w1.cell? ⟨w.heap.size + 1, 0, none⟩ = some (.slice none 0 0) := (hc_w1 _ _ (by first | omega | (simp; omega) | simp)).trans (by simp [go_sem])
  have k1 : w1.frozen? ⟨w.heap.size + 1, 0, none⟩ = false := (hf_w1 _ _ (by first | omega | (simp; omega) | simp)).trans (by simp [go_sem])
  have b1 : Below w.heap.size w w1 := (by repeat (first | exact Below.refl _ _ | assumption | (refine below_drewN ?_ _) | (refine Below.drew ?_) | (refine Below.alloc ?_ (by first | omega | (simp; omega) | simp) _) | (refine Below.setCell ?_ (by first | omega | (simp; omega) | simp) _) | (refine below_trans ?_ (by assumption) (by first | omega | (simp; omega) | simp))))
  clear hc_w1 hf_w1
  go_wp2_with fail
  go_loop [5] (fun nn => ∃ m : Nat, nn = .int .i64 (m : Nat) ∧ Hid (Sz2 m) ∧ m ≤ 128 ∧ Hid (m ≤ szN u)) (fun nn => 128 - (intOf nn).toNat)
  case atStart => exact ⟨8, rfl, Lib.hid (.inl rfl), by omega, HLO⟩
  case round =>
    obtain ⟨m, rfl, h1, h2, h3⟩ := hrel
    by_cases hm : m < 2 * (u + 1)
    · obtain ⟨g1, g2⟩ := HS.out m h1.out h3.out hu hm
      have G1 := Lib.hid g1
      have G2 := Lib.hid g2
      have g3 : m * 2 ≤ 128 := by unfold Sz2 at g1; omega
      have g4 : 0 < m := by have := h1.out; unfold Sz2 at this; omega
      have f1 : decide ((m : Int) < 2 * ((u : Int) + 1)) = true := decide_eq_true (by omega)
      clear g1 g2 hm
      go_wp2
      go_round
      case rel => exact ⟨m * 2, by go_num, G1, g3, G2⟩
      case measure => simp [intOf]; omega
    · have e := HX.out m h1.out h3.out hm
      have f1 : decide ((m : Int) < 2 * ((u : Int) + 1)) = false := decide_eq_false (by omega)
      have f2 : decide ((64 : Int) < (m : Int)) = true := decide_eq_true (by have := HN.out; omega)
      clear e hm
      go_wp2
      exact bodyPost_ret (res_e2 rfl rfl (g := w.heap.size + 1) (v0 := .slice none 0 0) (by first | (simp [go_sem, k0]; done) | exact World.cell?_setCell_same _ _ _ k0)) rfl ⟨rfl, (by repeat (first | exact Below.refl _ _ | assumption | (refine below_drewN ?_ _) | (refine Below.drew ?_) | (refine Below.alloc ?_ (by first | omega | (simp; omega) | simp) _) | (refine Below.setCell ?_ (by first | omega | (simp; omega) | simp) _) | (refine below_trans ?_ (by assumption) (by first | omega | (simp; omega) | simp))))⟩
theorem ew_rep (n : Nat) : ∀ s ∈ List.replicate n es0, EW s := fun s hs => by rw [List.eq_of_mem_replicate hs]; exact ew0
theorem us_ew (hr : ERow w w.heap.size A l) (s : Es) (hs : s ∈ us l) : EW s := hr.wd s (by unfold us at hs; exact (List.mem_filter.1 hs).1)
set_option maxHeartbeats 4000000 in
theorem ereb_any (hT : Tz w) (hr : ERow w w.heap.size A l) (hl : l.length ≤ 64) (hu : (us l).length ≤ 63) (hn : szN (us l).length ≤ 64) (hG : 0 < (us l).length → GoodT l) :
    Calls Tryd.prog 19 #[wrk A l.length cap] w fun e w' => RebE w l e w' := by
  have HU := Lib.hid fun (w : World) hr => eused_any (w := w) (A := A) (l := l) cap hr (by omega)
  unfold UsedE at HU
  change Hid (∀ (w : World) (hr : ERow w w.heap.size A l), Calls Tryd.prog _ _ w fun e w' => ∃ (A : Option Addr) (cap : Nat), e = .returned (.slice A (us l).length cap) ∧ OwnsE w' w.heap.size (.slice A (us l).length cap) (us l) ∧ Below w.heap.size w w') at HU
  have HW := Lib.hid (us_ew hr)
  unfold RebE
  have HSZ := szN_sz hn
  have h2u := szN_u hn
  have HR0 : Hid (rebK l (szN (us l).length) 0 = List.replicate (szN (us l).length) es0) := Lib.hid rfl
  have HRN : Hid (reb l (szN (us l).length) = rebK l (szN (us l).length) (us l).length) := Lib.hid rfl
  have HRS := Lib.hid fun k hk => rebK_succ l (szN (us l).length) k hk
  have HRL := Lib.hid fun k => rebK_len l (szN (us l).length) k
  have HPL : Hid (∀ k, k < (us l).length → pl (rebK l (szN (us l).length) k) (nthE (us l) k).k < szN (us l).length) := Lib.hid fun k hk => by
    have hg := hG (by omega)
    obtain ⟨g, u, _, _⟩ := rebK_inv hg HSZ (by omega) k (by omega)
    have hlen := rebK_len l (szN (us l).length) k
    have := (pl_spec g.sz (useds_lt (by omega)) (nthE (us l) k).k).1
    omega
  have HS := Lib.hid fun m => szN_step (m := m) (u := (us l).length)
  have HX := Lib.hid fun m => szN_stop (m := m) (u := (us l).length)
  have HLO := Lib.hid (szN_lo (us l).length)
  generalize rebK l (szN (us l).length) = RB at *
  generalize reb l (szN (us l).length) = RR at *
  generalize us l = us at *
  generalize hun : us.length = u at *
  have HUN := Lib.hid hun
  generalize hN : szN u = N at *
  clear hG hun hN
  have HMK := Lib.hid fun (W : World) => run_make_slots N (by have := HSZ.le; omega) W
  unfold wrk at *
  go_enter Tryd.func19, Tryd.ntmps19
  go_wp2_with fail
  go_at_call 37
  refine (HU.out _ (hr.later (by repeat (first | exact Below.refl _ _ | assumption | (refine below_drewN ?_ _) | (refine Below.drew ?_) | (refine Below.alloc ?_ (by first | omega | (simp; omega) | simp) _) | (refine Below.setCell ?_ (by first | omega | (simp; omega) | simp) _) | (refine below_trans ?_ (by assumption) (by first | omega | (simp; omega) | simp)))))).mono ?_
  rintro e w1 ⟨Au, cu, rfl, ou, hb_w1⟩
  obtain ⟨hc_w1, hf_w1⟩ := bcell hb_w1; have hz_w1_w_0 : w.heap.size < w1.heap.size := (by have hzz := hb_w1.size; (try simp only [World.size_alloc, World.size_setCell, World.size_drew, World.heap_drewN] at hzz); omega); have hz_w1_w_1 : w.heap.size + 1 < w1.heap.size := (by have hzz := hb_w1.size; (try simp only [World.size_alloc, World.size_setCell, World.size_drew, World.heap_drewN] at hzz); omega); have hs_w1 := hb_w1.size; (try simp only [World.size_alloc, World.size_setCell, World.size_drew, World.heap_drewN] at hs_w1)
  have k0 : w1.cell? ⟨w.heap.size + 1, 0, none⟩ = some (.slice none 0 0) := (hc_w1 _ _ (by first | omega | (simp; omega) | simp)).trans (by simp [go_sem])
  have k1 : w1.frozen? ⟨w.heap.size + 1, 0, none⟩ = false := (hf_w1 _ _ (by first | omega | (simp; omega) | simp)).trans (by simp [go_sem])
  have b1 : Below w.heap.size w w1 := (by repeat (first | exact Below.refl _ _ | assumption | (refine below_drewN ?_ _) | (refine Below.drew ?_) | (refine Below.alloc ?_ (by first | omega | (simp; omega) | simp) _) | (refine Below.setCell ?_ (by first | omega | (simp; omega) | simp) _) | (refine below_trans ?_ (by assumption) (by first | omega | (simp; omega) | simp))))
  have eu : EOwn w1 (w.heap.size + 2) Au us := (EOwn.of_owns (l := us) (by rw [HUN.out]; exact ou) HW.out).mono (by simp)
  have ru := eu.row
  have hT1 := hT.later b1
  clear hc_w1 hf_w1 ou eu
  go_wp2_with fail
  go_loop [5] (fun nn => ∃ m : Nat, nn = .int .i64 (m : Nat) ∧ Hid (Sz2 m) ∧ m ≤ 128 ∧ Hid (m ≤ N)) (fun nn => 128 - (intOf nn).toNat)
  case atStart => exact ⟨8, rfl, Lib.hid (.inl rfl), by omega, HLO⟩
  case round =>
    obtain ⟨m, rfl, h1, h2, h3⟩ := hrel
    by_cases hm : m < 2 * (u + 1)
    · obtain ⟨g1, g2⟩ := HS.out m h1.out h3.out hu hm
      have G1 := Lib.hid g1
      have G2 := Lib.hid g2
      have g3 : m * 2 ≤ 128 := by unfold Sz2 at g1; omega
      have g4 : 0 < m := by have := h1.out; unfold Sz2 at this; omega
      have f1 : decide ((m : Int) < 2 * ((u : Int) + 1)) = true := decide_eq_true (by omega)
      clear g1 g2 hm
      go_wp2
      go_round
      case rel => exact ⟨m * 2, by go_num, G1, g3, G2⟩
      case measure => simp [intOf]; omega
    · obtain rfl := HX.out m h1.out h3.out hm
      have f1 : decide ((m : Int) < 2 * ((u : Int) + 1)) = false := decide_eq_false (by omega)
      have f2 : decide ((64 : Int) < (m : Int)) = false := decide_eq_false (by omega)
      have hmk := HMK.out
      clear hm
      go_wp2_with fail
      have HBG : Hid (EOwn ((w1.alloc (Obj.cells (eflat (List.replicate m es0)).toArray 58)).alloc (Obj.cells #[Value.slice (some ⟨w1.heap.size, 0, none⟩) m m] 51)) w1.heap.size (some ⟨w1.heap.size, 0, none⟩) (RB 0)) := Lib.hid (by
        rw [HR0.out]
        exact (EOwn.of_block (heap_alloc_new w1 _) (Nat.le_refl _) (ew_rep _)).later ((Below.refl _ _).alloc (Nat.le_refl _) _))
      generalize hgg : w1.heap.size = G at *
      have hG1 : w1.heap.size ≤ G := by omega
      clear hmk
      go_loopw [28] (fun ii wr => ∃ k : Nat, ii = .int .i64 (k : Nat) ∧ k ≤ u ∧ EOwn wr G (some ⟨G, 0, none⟩) (RB k) ∧ G + 2 ≤ wr.heap.size ∧ wr.cell? ⟨G + 1, 0, none⟩ = some (.slice (some ⟨G, 0, none⟩) m m) ∧ Below G w1 wr) (fun ii _ => u - (intOf ii).toNat)
      case atStart => exact ⟨0, rfl, Nat.zero_le _, HBG.out, (by first | omega | (simp; omega) | simp), by simp [go_sem, hgg], by subst hgg; exact (by repeat (first | exact Below.refl _ _ | assumption | (refine below_drewN ?_ _) | (refine Below.drew ?_) | (refine Below.alloc ?_ (by first | omega | (simp; omega) | simp) _) | (refine Below.setCell ?_ (by first | omega | (simp; omega) | simp) _) | (refine below_trans ?_ (by assumption) (by first | omega | (simp; omega) | simp))))⟩
      case round =>
        obtain ⟨k, rfl, hk, eo, hsz, kb, hb_wr⟩ := hrel
        have hlen := Lib.hid (HRL.out k)
        have EO := Lib.hid eo
        clear eo
        by_cases hlt : k < u
        · have ruw := ru.below hb_wr
          obtain ⟨b, off, rfl, hbb, hc⟩ := ruw.at_ (by rw [HUN.out]; omega)
          obtain ⟨c0, c1, c2⟩ := hc k (by rw [HUN.out]; omega)
          obtain ⟨_, ek, ev⟩ := ruw.nthW k
          have HP := HPL.out k hlt
          have HS1 := Lib.hid (HRS.out k hlt)
          have i1 : (k : Int) < (u : Int) := by omega
          have i2 : (0 : Int) ≤ (k : Int) := by omega
          have hTr : Tz wr := hT1.below (B := G) (by have := hT1.lt; omega) hb_wr
          generalize nthE us k = s at *
          obtain ⟨ss, sk, sv⟩ := s
          simp only at c0 c1 c2 ek ev HP HS1
          have HIN := Lib.hid fun (W : World) hT ho => einsert_any (w := W) (l := RB k) m (B := G) (g := G) sk sv ek ev hT ho (by rw [hlen.out]; exact HSZ) (by rw [hlen.out]; exact HP)
          rw [hlen.out] at HIN
          unfold InsE wrk at HIN
          have hgs : G < wr.heap.size := by omega
          have hgt : G + 1 < wr.heap.size := by omega
          clear hc ruw HP
          go_wp2_with fail
          go_at_call 20
          refine (HIN.out _ (hTr.later (by repeat (first | exact Below.refl _ _ | assumption | (refine below_drewN ?_ _) | (refine Below.drew ?_) | (refine Below.alloc ?_ (by first | omega | (simp; omega) | simp) _) | (refine Below.setCell ?_ (by first | omega | (simp; omega) | simp) _) | (refine below_trans ?_ (by assumption) (by first | omega | (simp; omega) | simp))))) (EO.out.later (by repeat (first | exact Below.refl _ _ | assumption | (refine below_drewN ?_ _) | (refine Below.drew ?_) | (refine Below.alloc ?_ (by first | omega | (simp; omega) | simp) _) | (refine Below.setCell ?_ (by first | omega | (simp; omega) | simp) _) | (refine below_trans ?_ (by assumption) (by first | omega | (simp; omega) | simp)))))).mono ?_
          rintro e w2 ⟨rfl, hg2, eo2⟩
          have hs2 := hg2.size
          simp only [World.size_alloc] at hs2
          have kb2 : w2.cell? ⟨G + 1, 0, none⟩ = some (.slice (some ⟨G, 0, none⟩) m m) := (World.cell?_of_block (hg2.block (G + 1) (by first | omega | (simp; omega) | simp) (by simp))).trans (by first | exact kb | (exact (World.cell?_alloc_lt _ _ ⟨_, _, _⟩ (by first | omega | (simp; omega) | simp)).trans kb) | (exact (World.cell?_alloc_lt _ _ ⟨_, _, _⟩ (by first | omega | (simp; omega) | simp)).trans ((World.cell?_alloc_lt _ _ ⟨_, _, _⟩ (by first | omega | (simp; omega) | simp)).trans kb)) | (simp [go_sem, kb]; done))
          have hb2 : Below G w1 w2 := Below.grown (show Below G w1 _ from (by repeat (first | exact Below.refl _ _ | assumption | (refine below_drewN ?_ _) | (refine Below.drew ?_) | (refine Below.alloc ?_ (by first | omega | (simp; omega) | simp) _) | (refine Below.setCell ?_ (by first | omega | (simp; omega) | simp) _) | (refine below_trans ?_ (by assumption) (by first | omega | (simp; omega) | simp))))) hg2 (by first | omega | (simp; omega) | simp) (fun j hj => by injection hj with hj; omega)
          have EO2 := Lib.hid (show EOwn w2 G (some ⟨G, 0, none⟩) (RB (k + 1)) by rw [HS1.out]; exact eo2)
          clear eo2 hg2
          go_wp2
          go_roundw
          case rel => exact ⟨k + 1, by go_num, by omega, EO2.out, (by first | omega | (simp; omega) | simp), kb2, hb2⟩
          case measure => simp [intOf]; omega
        · obtain rfl : k = u := by omega
          have q0 : wr.cell? ⟨w.heap.size + 1, 0, none⟩ = some (.slice none 0 0) := (hb_wr.cell (p := ⟨w.heap.size + 1, 0, none⟩) (by show w.heap.size + 1 < G; omega)).trans k0
          have q1 : wr.frozen? ⟨w.heap.size + 1, 0, none⟩ = false := (hb_wr.frozen (p := ⟨w.heap.size + 1, 0, none⟩) (by show w.heap.size + 1 < G; omega)).trans k1
          have hbw : Below w.heap.size w wr := below_trans b1 hb_wr (by omega)
          go_wp2
          refine bodyPost_ret (res_e2 rfl rfl (g := w.heap.size + 1) (v0 := .slice (some ⟨G, 0, none⟩) m m) (by first | (simp [go_sem, q0]; done) | exact World.cell?_setCell_same _ _ _ q0)) rfl ⟨G, rfl, ?_, (by repeat (first | exact Below.refl _ _ | assumption | (refine below_drewN ?_ _) | (refine Below.drew ?_) | (refine Below.alloc ?_ (by first | omega | (simp; omega) | simp) _) | (refine Below.setCell ?_ (by first | omega | (simp; omega) | simp) _) | (refine below_trans ?_ (by assumption) (by first | omega | (simp; omega) | simp))))⟩
          rw [HRN.out]
          exact (EO.out.off rfl (by show w.heap.size + 1 ≠ G; omega) _).mono (by omega)
end
end Go.Proofs.YtdeopodfpeeenaaDoor
