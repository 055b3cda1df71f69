/- The walk of the law EphemFull. -/
import Derived.Test.YtkjpimhjmeigeaaDoorY21
import Derived.Test.YtkjpimhjmeigeaaDoorY22
namespace Go.Proofs.YtkjpimhjmeigeaaDoor
open Go.RowKit
set_option linter.unusedVariables false
set_option linter.unusedSimpArgs false

set_option maxHeartbeats 1000000 in
set_option maxRecDepth 100000 in
theorem ephemFull_walk (K : Option Addr) (ck : Nat) (ks : List Nat) (more : Nat) (w : World) (hT : Tz w) (hq : Row w w.heap.size K ks) (hkl : ks.length ≤ 17592186044416) (hmore : more < W64) :
    Calls Tryd.prog 6 #[.slice K ks.length ck, .int .u64 (more : Nat)] w fun e w' => e = .returned (.bool true) ∧ Below w.heap.size w w' := by
  have HP := Lib.hid fun (w : World) (A : Option Addr) (cap : Nat) (l : List Es) (key val : Nat) (r : List Es) (y : Int) hT hr hl hn hkey hval hE => eput_any (w := w) (A := A) (l := l) cap hT hr hl hn key val hkey hval r y hE
  unfold PutR at HP
  have HKW : Hid (∀ k, k < ks.length → ks.getD k 0 < W64) := Lib.hid fun k hk => hq.1 _ (by rw [List.getD_eq_getElem?_getD, List.getElem?_eq_getElem hk]; exact List.getElem_mem hk)
  have h1W : 1 < W64 := by decide
  unfold eph at *
  go_enter Tryd.func6, Tryd.ntmps6
  go_wp2_with fail
  go_at_call 15
  refine (elives_any _ (hT.later (by repeat (first | exact Below.refl _ _ | assumption | (refine below_drewN ?_ _) | (refine Below.drew ?_) | (refine Below.alloc ?_ (by first | omega | (simp; omega) | simp) _) | (refine Below.setCell ?_ (by first | omega | (simp; omega) | simp) _) | (refine below_trans ?_ (by assumption) (by first | omega | (simp; omega) | simp)))))).mono ?_
  rintro e w1 ⟨rfl, hb_w1⟩
  obtain ⟨hc_w1, hf_w1⟩ := bcell hb_w1; have hs_w1 := hb_w1.size; (try simp only [World.size_alloc, World.size_setCell, World.size_drew, World.heap_drewN] at hs_w1)
  have b1 : Below w.heap.size w w1 := (by repeat (first | exact Below.refl _ _ | assumption | (refine below_drewN ?_ _) | (refine Below.drew ?_) | (refine Below.alloc ?_ (by first | omega | (simp; omega) | simp) _) | (refine Below.setCell ?_ (by first | omega | (simp; omega) | simp) _) | (refine below_trans ?_ (by assumption) (by first | omega | (simp; omega) | simp))))
  have P' := Lib.hid (Bx.new w1 (.slice none 0 0) 24)
  clear hc_w1 hf_w1
  go_wp2_with fail
  go_loopw [17] (fun ii wr => ∃ (k : Nat) (A : Option Addr) (cap : Nat) (l : List Es), ii = .int .i64 (k : Nat) ∧ k ≤ ks.length ∧ k ≤ 31 ∧ ETab wr (w1.heap.size + 1) A cap l ∧ OkT l ∧ useds l ≤ k ∧ Bx wr w1.heap.size (.slice A l.length cap) ∧ w1.heap.size + 1 ≤ wr.heap.size ∧ Below w.heap.size w wr) (fun ii _ => ks.length - (intOf ii).toNat)
  case atStart => exact ⟨0, none, 0, [], rfl, Nat.zero_le _, Nat.zero_le _, ETab.nil _ _, okT_nil, Nat.zero_le _, P'.out, (by first | omega | (simp; omega) | simp), (by repeat (first | exact Below.refl _ _ | assumption | (refine below_drewN ?_ _) | (refine Below.drew ?_) | (refine Below.alloc ?_ (by first | omega | (simp; omega) | simp) _) | (refine Below.setCell ?_ (by first | omega | (simp; omega) | simp) _) | (refine below_trans ?_ (by assumption) (by first | omega | (simp; omega) | simp))))⟩
  case round =>
    clear P' hb_w1
    obtain ⟨k, A, cap, l, rfl, hk, hk31, eo, hok, hu, P, hsz, hb_wr⟩ := hrel
    have hsr := hb_wr.size
    have hTr := hT.later hb_wr
    have hl64 := hok.le
    obtain ⟨p0, p1⟩ := id P
    have hnil := Lib.hid eo.nil_
    have er := eo.row
    by_cases hgo : k < ks.length ∧ k ≠ 31
    · obtain ⟨hlt, hne⟩ := hgo
      obtain ⟨b, off, rfl, hbb, hcc⟩ := (hq.later hb_wr).cellAt (k := k) hlt
      have i1 : (k : Int) < (ks.length : Int) := by omega
      have i2 : (0 : Int) ≤ (k : Int) := by omega
      have f31 : ((k : Int) == 31) = false := by rw [beq_eq_false_iff_ne]; omega
      have hkw := HKW.out k hlt
      generalize ks.getD k 0 = key at *
      obtain ⟨r, y, hE⟩ := PutT.ex l key key
      have HPK := Lib.hid fun (w : World) (A : Option Addr) (cap : Nat) hT hr hn => HP.out w A cap l key key r y hT hr (by omega) hn hkw hkw hE
      by_cases hy : y = 0
      · have hp := hE.ok hy
        have h1 := hp.okr
        have h2 : useds r ≤ k + 1 := by
          by_cases hh : ∃ v, Has l key v
          · have := hp.old hh; omega
          · have := hp.new hh; omega
        have f3 : ((key : Int) != 0) = true := by have := hp.k0; rw [bne_iff_ne]; omega
        subst hy
        clear hE hp
        go_wp2_with fail
        go_at_call 11
        refine (HPK.out _ _ _ (hTr.later (by repeat (first | exact Below.refl _ _ | assumption | (refine below_drewN ?_ _) | (refine Below.drew ?_) | (refine Below.alloc ?_ (by first | omega | (simp; omega) | simp) _) | (refine Below.setCell ?_ (by first | omega | (simp; omega) | simp) _) | (refine below_trans ?_ (by assumption) (by first | omega | (simp; omega) | simp))))) (er.later (by repeat (first | exact Below.refl _ _ | assumption | (refine below_drewN ?_ _) | (refine Below.drew ?_) | (refine Below.alloc ?_ (by first | omega | (simp; omega) | simp) _) | (refine Below.setCell ?_ (by first | omega | (simp; omega) | simp) _) | (refine below_trans ?_ (by assumption) (by first | omega | (simp; omega) | simp))))) hnil.out).mono ?_
        rintro e w3 ⟨B2, c2, rfl, o2, hb_w3⟩
        obtain ⟨hc_w3, hf_w3⟩ := bcell hb_w3; have hs_w3 := hb_w3.size; (try simp only [World.size_alloc, World.size_setCell, World.size_drew, World.heap_drewN] at hs_w3)
        have P3 := (P.later hb_w3 : Bx w3 _ _)
        have P4 := Lib.hid ((P3.set (.slice B2 r.length c2)).alloc (.cells #[.slice B2 r.length c2] 24))
        have O4 := Lib.hid (((o2.mono (B' := w1.heap.size + 1) (by omega)).far (p := ⟨w1.heap.size, 0, none⟩) (by show w1.heap.size < _; omega) (.slice B2 r.length c2)).later ((Below.refl _ _).alloc (Nat.le_refl _) (.cells #[.slice B2 r.length c2] 24)))
        have p3l := P3.lt
        obtain ⟨p30, p31⟩ := P3
        clear hc_w3 hf_w3 o2 p0 p1 P
        go_wp2
        go_roundw
        case rel => exact ⟨k + 1, B2, c2, r, by go_num, by omega, by omega, O4.out, h1, h2, P4.out, (by first | omega | (simp; omega) | simp), (by repeat (first | exact Below.refl _ _ | assumption | (refine below_drewN ?_ _) | (refine Below.drew ?_) | (refine Below.alloc ?_ (by first | omega | (simp; omega) | simp) _) | (refine Below.setCell ?_ (by first | omega | (simp; omega) | simp) _) | (refine below_trans ?_ (by assumption) (by first | omega | (simp; omega) | simp))))⟩
        case measure => simp [intOf]; omega
      · have hk0 : key = 0 := Classical.byContradiction fun h => hy (hE.room hok h (by omega))
        have f1 : (y != 0) = true := bne_iff_ne.2 hy
        have f2 : (y == 0) = false := beq_eq_false_iff_ne.2 hy
        clear hy
        clear hE
        subst hk0
        go_wp2_with fail
        go_at_call 11
        refine (HPK.out _ _ _ (hTr.later (by repeat (first | exact Below.refl _ _ | assumption | (refine below_drewN ?_ _) | (refine Below.drew ?_) | (refine Below.alloc ?_ (by first | omega | (simp; omega) | simp) _) | (refine Below.setCell ?_ (by first | omega | (simp; omega) | simp) _) | (refine below_trans ?_ (by assumption) (by first | omega | (simp; omega) | simp))))) (er.later (by repeat (first | exact Below.refl _ _ | assumption | (refine below_drewN ?_ _) | (refine Below.drew ?_) | (refine Below.alloc ?_ (by first | omega | (simp; omega) | simp) _) | (refine Below.setCell ?_ (by first | omega | (simp; omega) | simp) _) | (refine below_trans ?_ (by assumption) (by first | omega | (simp; omega) | simp))))) hnil.out).mono ?_
        rintro e w3 ⟨B2, c2, rfl, o2, hb_w3⟩
        obtain ⟨hc_w3, hf_w3⟩ := bcell hb_w3; have hs_w3 := hb_w3.size; (try simp only [World.size_alloc, World.size_setCell, World.size_drew, World.heap_drewN] at hs_w3)
        have P3 := Lib.hid (P.later hb_w3 : Bx w3 _ _)
        have P4 := Lib.hid (P3.out.alloc (.cells #[.slice B2 r.length c2] 24))
        have O4 := Lib.hid (eo.later (show Below wr.heap.size wr (w3.alloc (.cells #[.slice B2 r.length c2] 24)) from (by repeat (first | exact Below.refl _ _ | assumption | (refine below_drewN ?_ _) | (refine Below.drew ?_) | (refine Below.alloc ?_ (by first | omega | (simp; omega) | simp) _) | (refine Below.setCell ?_ (by first | omega | (simp; omega) | simp) _) | (refine below_trans ?_ (by assumption) (by first | omega | (simp; omega) | simp))))))
        clear hc_w3 hf_w3 o2 p0 p1 P eo
        go_wp2
        go_roundw
        case rel => exact ⟨k + 1, A, cap, l, by go_num, by omega, by omega, O4.out, hok, by omega, P4.out, (by first | omega | (simp; omega) | simp), (by repeat (first | exact Below.refl _ _ | assumption | (refine below_drewN ?_ _) | (refine Below.drew ?_) | (refine Below.alloc ?_ (by first | omega | (simp; omega) | simp) _) | (refine Below.setCell ?_ (by first | omega | (simp; omega) | simp) _) | (refine below_trans ?_ (by assumption) (by first | omega | (simp; omega) | simp))))⟩
        case measure => simp [intOf]; omega
    · obtain ⟨r, y, hE⟩ := PutT.ex l more 1
      have HPK := Lib.hid fun (w : World) (A : Option Addr) (cap : Nat) hT hr hn => HP.out w A cap l more 1 r y hT hr (by omega) hn hmore h1W hE
      have hfin : ((y == 0) = true) ∨ ((y == 0) = false ∧ ((more : Int) == 0) = true) := by
        by_cases hy : y = 0
        · exact .inl (by simp [hy])
        · have : more = 0 := Classical.byContradiction fun h => hy (hE.room hok h (by omega))
          exact .inr ⟨beq_eq_false_iff_ne.2 hy, by rw [this]; rfl⟩
      have hcase : (k = ks.length) ∨ (k < ks.length ∧ k = 31) := by omega
      clear hE hgo
      rcases hcase with hcase | ⟨hlt, hcase⟩
      · subst hcase
        rcases hfin with f1 | ⟨f1, f2⟩
        all_goals
          go_wp2_with fail
          go_at_call 11
          refine (HPK.out _ _ _ (hTr.later (by repeat (first | exact Below.refl _ _ | assumption | (refine below_drewN ?_ _) | (refine Below.drew ?_) | (refine Below.alloc ?_ (by first | omega | (simp; omega) | simp) _) | (refine Below.setCell ?_ (by first | omega | (simp; omega) | simp) _) | (refine below_trans ?_ (by assumption) (by first | omega | (simp; omega) | simp))))) (er.later (by repeat (first | exact Below.refl _ _ | assumption | (refine below_drewN ?_ _) | (refine Below.drew ?_) | (refine Below.alloc ?_ (by first | omega | (simp; omega) | simp) _) | (refine Below.setCell ?_ (by first | omega | (simp; omega) | simp) _) | (refine below_trans ?_ (by assumption) (by first | omega | (simp; omega) | simp))))) hnil.out).mono ?_
          rintro e w3 ⟨B2, c2, rfl, o2, hb_w3⟩
          obtain ⟨hc_w3, hf_w3⟩ := bcell hb_w3; have hs_w3 := hb_w3.size; (try simp only [World.size_alloc, World.size_setCell, World.size_drew, World.heap_drewN] at hs_w3)
          clear hc_w3 hf_w3
          go_wp2
          go_ret
          exact ⟨rfl, (by repeat (first | exact Below.refl _ _ | assumption | (refine below_drewN ?_ _) | (refine Below.drew ?_) | (refine Below.alloc ?_ (by first | omega | (simp; omega) | simp) _) | (refine Below.setCell ?_ (by first | omega | (simp; omega) | simp) _) | (refine below_trans ?_ (by assumption) (by first | omega | (simp; omega) | simp))))⟩
      · obtain ⟨b, off, rfl, hbb, hcc⟩ := (hq.later hb_wr).cellAt (k := k) hlt
        have i1 : (k : Int) < (ks.length : Int) := by omega
        have i2 : (0 : Int) ≤ (k : Int) := by omega
        have f31 : ((k : Int) == 31) = true := by rw [hcase]; rfl
        clear hcase
        rcases hfin with f1 | ⟨f1, f2⟩
        all_goals
          go_wp2_with fail
          go_at_call 11
          refine (HPK.out _ _ _ (hTr.later (by repeat (first | exact Below.refl _ _ | assumption | (refine below_drewN ?_ _) | (refine Below.drew ?_) | (refine Below.alloc ?_ (by first | omega | (simp; omega) | simp) _) | (refine Below.setCell ?_ (by first | omega | (simp; omega) | simp) _) | (refine below_trans ?_ (by assumption) (by first | omega | (simp; omega) | simp))))) (er.later (by repeat (first | exact Below.refl _ _ | assumption | (refine below_drewN ?_ _) | (refine Below.drew ?_) | (refine Below.alloc ?_ (by first | omega | (simp; omega) | simp) _) | (refine Below.setCell ?_ (by first | omega | (simp; omega) | simp) _) | (refine below_trans ?_ (by assumption) (by first | omega | (simp; omega) | simp))))) hnil.out).mono ?_
          rintro e w3 ⟨B2, c2, rfl, o2, hb_w3⟩
          obtain ⟨hc_w3, hf_w3⟩ := bcell hb_w3; have hs_w3 := hb_w3.size; (try simp only [World.size_alloc, World.size_setCell, World.size_drew, World.heap_drewN] at hs_w3)
          clear hc_w3 hf_w3
          go_wp2
          go_ret
          exact ⟨rfl, (by repeat (first | exact Below.refl _ _ | assumption | (refine below_drewN ?_ _) | (refine Below.drew ?_) | (refine Below.alloc ?_ (by first | omega | (simp; omega) | simp) _) | (refine Below.setCell ?_ (by first | omega | (simp; omega) | simp) _) | (refine below_trans ?_ (by assumption) (by first | omega | (simp; omega) | simp))))⟩
end Go.Proofs.YtkjpimhjmeigeaaDoor
