/- Contracts of package pages: the longest run that is free. -/
import Derived.Test.YthikpamjeckfcaaDoorP2
namespace Go.Proofs.YthikpamjeckfcaaDoor
open Go.RowKit
set_option linter.unusedVariables false
set_option linter.unusedSimpArgs false

set_option maxHeartbeats 1000000 in
theorem longest_ok {n : Int} {A : Option Addr} {ws : List Nat} {w : World} (cap : Nat) (hr : Row w w.heap.size A ws) (h : Right n ws) :
    Calls Tryd.prog 11 #[.agg #[.int .i64 n, .slice A ws.length cap]] w fun e w' => e = .returned (.tuple #[.int .i64 (best ws n.toNat : Nat), .int .i64 0]) ∧ Below w.heap.size w w' := by
  have hn := h.1
  have hn2 := h.2.1
  have hR := Lib.hid h
  clear h
  go_enter Tryd.func11, Tryd.ntmps11
  go_wp2_with (go_at_call 22; refine (pview_ok _ (hr.later (by repeat (first | exact Below.refl _ _ | assumption | (refine below_drewN ?_ _) | (refine Below.drew ?_) | (refine Below.alloc ?_ (by first | omega | (simp; omega) | simp) _) | (refine Below.setCell ?_ (by first | omega | (simp; omega) | simp) _) | (refine below_trans ?_ (by assumption) (by first | omega | (simp; omega) | simp))))) hR.out).mono ?_; rintro e w1 ⟨rfl, hb_w1⟩; obtain ⟨hc_w1, hf_w1⟩ := bcell hb_w1; have hz_w1_w_0 : w.heap.size < w1.heap.size := (by have hzz := hb_w1.size; (try simp only [World.size_alloc, World.size_setCell, World.size_drew, World.heap_drewN] at hzz); omega))
  go_loopw [6, 7] (fun be i wr => ∃ k : Nat, i = .int .i64 k ∧ (k : Int) ≤ n ∧ be = .int .i64 (best ws k : Nat) ∧ (k = 0 ∨ (k : Int) = n ∨ tb ws k = true) ∧ wr.cell? ⟨w1.heap.size, 0, none⟩ = some (.int .i64 n) ∧ wr.cell? ⟨w1.heap.size, 1, none⟩ = some (.slice A ws.length cap) ∧ w1.heap.size + 1 ≤ wr.heap.size ∧ Below w1.heap.size w1 wr) (fun _ i _ => n.toNat - (intOf i).toNat)
  case atStart => exact ⟨0, rfl, hn, rfl, .inl rfl, by simp [go_sem], by simp [go_sem], (by first | omega | (simp; omega) | simp), (by repeat (first | exact Below.refl _ _ | assumption | (refine below_drewN ?_ _) | (refine Below.drew ?_) | (refine Below.alloc ?_ (by first | omega | (simp; omega) | simp) _) | (refine Below.setCell ?_ (by first | omega | (simp; omega) | simp) _) | (refine below_trans ?_ (by assumption) (by first | omega | (simp; omega) | simp))))⟩
  case round =>
    obtain ⟨k, rfl, hk, rfl, hE, q0, q1, hsz, hb_wr⟩ := hrel
    have HE := Lib.hid hE
    clear hE
    have hbl := best_le ws k
    have hz_wr1 := hb_wr.size
    by_cases hlt : (k : Int) < n
    · go_wp2_with fail
      go_at_call 27
      refine (pnext_any cap (k : Nat) false ((hr.later (w' := w1) (by repeat (first | exact Below.refl _ _ | assumption | (refine below_drewN ?_ _) | (refine Below.drew ?_) | (refine Below.alloc ?_ (by first | omega | (simp; omega) | simp) _) | (refine Below.setCell ?_ (by first | omega | (simp; omega) | simp) _) | (refine below_trans ?_ (by assumption) (by first | omega | (simp; omega) | simp))))).later hb_wr) hR.out (by omega) (by omega)).mono ?_
      rintro e w2 ⟨⟨t, rfl, t1, t2, t3, t4⟩, hb_w2⟩
      obtain ⟨hc_w2, hf_w2⟩ := bcell hb_w2
      have hs_w2 := hb_w2.size
      have x0 := (hc_w2 w1.heap.size 0 (by omega)).trans q0
      have x1 := (hc_w2 w1.heap.size 1 (by omega)).trans q1
      obtain ⟨t, rfl⟩ := Int.eq_ofNat_of_zero_le (show 0 ≤ t by omega)
      have HT := Lib.hid t3
      have HT2 := Lib.hid t4
      clear t3 t4
      go_wp2_with fail
      go_at_call 27
      refine (pnext_any cap (t : Nat) true (((hr.later (w' := w1) (by repeat (first | exact Below.refl _ _ | assumption | (refine below_drewN ?_ _) | (refine Below.drew ?_) | (refine Below.alloc ?_ (by first | omega | (simp; omega) | simp) _) | (refine Below.setCell ?_ (by first | omega | (simp; omega) | simp) _) | (refine below_trans ?_ (by assumption) (by first | omega | (simp; omega) | simp))))).later hb_wr).later hb_w2) hR.out (by omega) (by omega)).mono ?_
      rintro e w3 ⟨⟨u, rfl, u1, u2, u3, u4⟩, hb_w3⟩
      obtain ⟨hc_w3, hf_w3⟩ := bcell hb_w3
      have hs_w3 := hb_w3.size
      have y0 := (hc_w3 w1.heap.size 0 (by omega)).trans x0
      have y1 := (hc_w3 w1.heap.size 1 (by omega)).trans x1
      obtain ⟨u, rfl⟩ := Int.eq_ofNat_of_zero_le (show 0 ≤ u by omega)
      have HU := Lib.hid u3
      have HU2 := Lib.hid u4
      clear u3 u4
      have HM : Hid (best ws u = max (best ws k) (u - t)) := Lib.hid (best_round ws n.toNat k t u (by
          rcases HE.out with e | e | e
          · exact .inl e
          · omega
          · exact .inr e) (by omega) (by omega) (by omega) (fun j j1 j2 => by
            have := HT.out j (by omega) (by omega)
            cases hb : tb ws j
            · exact absurd hb this
            · rfl) (fun j j1 j2 => by
            have := HU.out j (by omega) (by omega)
            cases hb : tb ws j
            · rfl
            · exact absurd hb this))
      have hgo : k < u := by
        by_cases e : (t : Int) < n
        · have a1 := HT2.out e
          have a2 : t < u := by
            by_cases e2 : t < u
            · exact e2
            · have e3 : u = t := by omega
              have a3 := HU2.out (by omega)
              rw [e3, Int.toNat_natCast] at a3
              rw [Int.toNat_natCast] at a1
              rw [a1] at a3
              cases a3
          omega
        · omega
      go_wp2
      go_roundw
      case rel => exact ⟨u, rfl, by omega, by rw [HM.out]; simp only [Value.int.injEq, true_and]; omega, by
          by_cases e : (u : Int) = n
          · exact .inr (.inl e)
          · exact .inr (.inr (by have := HU2.out (by omega); rwa [Int.toNat_natCast] at this)), y0, y1, by omega, (by repeat (first | exact Below.refl _ _ | assumption | (refine below_drewN ?_ _) | (refine Below.drew ?_) | (refine Below.alloc ?_ (by first | omega | (simp; omega) | simp) _) | (refine Below.setCell ?_ (by first | omega | (simp; omega) | simp) _) | (refine below_trans ?_ (by assumption) (by first | omega | (simp; omega) | simp))))⟩
      case measure => simp [intOf]; omega
    · have hkn : n.toNat = k := by omega
      go_wp2
      go_ret2
      exact ⟨rfl, (by repeat (first | exact Below.refl _ _ | assumption | (refine below_drewN ?_ _) | (refine Below.drew ?_) | (refine Below.alloc ?_ (by first | omega | (simp; omega) | simp) _) | (refine Below.setCell ?_ (by first | omega | (simp; omega) | simp) _) | (refine below_trans ?_ (by assumption) (by first | omega | (simp; omega) | simp))))⟩
end Go.Proofs.YthikpamjeckfcaaDoor
