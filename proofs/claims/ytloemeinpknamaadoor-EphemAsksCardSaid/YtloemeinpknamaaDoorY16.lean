/- Contracts of the document's own answers for tables: Del; Put, whole. -/
import Derived.Test.YtloemeinpknamaaDoorY15c
namespace Go.Proofs.YtloemeinpknamaaDoor
open Go.RowKit
set_option linter.unusedVariables false
set_option linter.unusedSimpArgs false

section
variable {w : World} {A K : Option Addr} {l : List Es} {ks : List Nat} (cap ck : Nat)
set_option maxHeartbeats 4000000 in
theorem exdel_any (hr : ERow w w.heap.size A l) (hl : l.length ≤ 5864062014805) (hq : Row w w.heap.size K ks) (hkl : ks.length ≤ 17592186044416) (r : List Es) (n : Nat) (y : Int) (hE : DelT l ks r n y) :
    Calls Tryd.prog 14 #[eph A l.length cap, .slice K ks.length ck] w fun e w' => DelR w r n y e w' := by
  unfold DelR
  rcases hE with ⟨hok, rfl, rfl, rfl⟩ | ⟨hok, rfl, rfl, rfl⟩
  · have HV := Lib.hid fun (w : World) hr => excheck_any (w := w) (A := A) (l := l) cap hr hl 2 (.inr ⟨hok, rfl⟩)
    clear hok
    unfold eph at *
    go_enter Tryd.func14, Tryd.ntmps14
    go_wp2_with fail
    go_at_call 25
    refine (HV.out _ (hr.later (by repeat (first | exact Below.refl _ _ | assumption | (refine below_drewN ?_ _) | (refine Below.drew ?_) | (refine Below.alloc ?_ (by first | omega | (simp; omega) | simp) _) | (refine Below.setCell ?_ (by first | omega | (simp; omega) | simp) _) | (refine below_trans ?_ (by assumption) (by first | omega | (simp; omega) | simp)))))).mono ?_
    rintro e w1 ⟨rfl, hb_w1⟩
    obtain ⟨hc_w1, hf_w1⟩ := bcell hb_w1; have hz_w1_w_0 : w.heap.size < w1.heap.size := (by have hzz := hb_w1.size; (try simp only [World.size_alloc, World.size_setCell, World.size_drew, World.heap_drewN] at hzz); omega); have hz_w1_w_1 : w.heap.size + 1 < w1.heap.size := (by have hzz := hb_w1.size; (try simp only [World.size_alloc, World.size_setCell, World.size_drew, World.heap_drewN] at hzz); omega); have hs_w1 := hb_w1.size; (try simp only [World.size_alloc, World.size_setCell, World.size_drew, World.heap_drewN] at hs_w1)
    have Q := ((Bx.new (w.alloc _) _ _).later hb_w1 : Bx w1 _ _)
    simp only [World.size_alloc] at Q
    obtain ⟨q0, q1⟩ := Q
    clear hc_w1 hf_w1
    go_wp2
    exact bodyPost_ret (res_p3 rfl rfl (g := w.heap.size + 1) (v0 := .slice none 0 0) (by first | exact World.cell?_setCell_same _ _ _ q0 | exact World.cell?_setCell_same _ _ _ (by first | exact q0 | (exact (World.cell?_alloc_lt _ _ ⟨_, _, _⟩ (by first | omega | (simp; omega) | simp)).trans q0) | (exact (World.cell?_alloc_lt _ _ ⟨_, _, _⟩ (by first | omega | (simp; omega) | simp)).trans ((World.cell?_alloc_lt _ _ ⟨_, _, _⟩ (by first | omega | (simp; omega) | simp)).trans q0)) | (simp [go_sem, q0]; done)) | exact (World.cell?_alloc_lt _ _ ⟨_, _, _⟩ (by first | omega | (simp; omega) | simp)).trans (World.cell?_setCell_same _ _ _ q0) | (simp [go_sem, q0]; done))) rfl ⟨none, 0, rfl, ETab.nil _ _, (by repeat (first | exact Below.refl _ _ | assumption | (refine below_drewN ?_ _) | (refine Below.drew ?_) | (refine Below.alloc ?_ (by first | omega | (simp; omega) | simp) _) | (refine Below.setCell ?_ (by first | omega | (simp; omega) | simp) _) | (refine below_trans ?_ (by assumption) (by first | omega | (simp; omega) | simp))))⟩
  · have HV := Lib.hid fun (w : World) hr => excheck_any (w := w) (A := A) (l := l) cap hr hl 0 (.inl ⟨hok, rfl⟩)
    have HTW := Lib.hid fun (w : World) hr => excopy_any (w := w) (A := A) (l := l) cap hr hl
    unfold CopR at HTW
    have HF : Hid (∀ (k : Nat) (w : World) (A : Option Addr) (cap : Nat) (hr : ERow w w.heap.size A (dlK l ks k)) (key : Nat), Calls Tryd.prog 32 #[eph A (dlK l ks k).length cap, .int .u64 (key : Nat)] w fun e w' => e = .returned (.int .i64 (toI (dlK l ks k).length (fd (dlK l ks k) key))) ∧ Below w.heap.size w w') := Lib.hid fun k w A cap hr key => by
      rw [(hok.dlK ks k).same]
      exact exfind_any cap key hr (by rw [dlK_len]; exact hl)
    have HLN := Lib.hid fun k => dlK_len l ks k
    have HS0 : Hid (dlK l ks 0 = l) := Lib.hid rfl
    have HN0 : Hid (dnK l ks 0 = 0) := Lib.hid rfl
    have HSY : Hid (∀ k, fd (dlK l ks k) (ks.getD k 0) < l.length → dlK l ks (k + 1) = (dlK l ks k).set (fd (dlK l ks k) (ks.getD k 0)) esG ∧ dnK l ks (k + 1) = dnK l ks k + 1) := Lib.hid fun k h => ⟨by rw [dlK, delK, if_pos (by rw [dlK_len]; exact h)]; rfl, by rw [dnK, if_pos h]⟩
    have HSN : Hid (∀ k, ¬ fd (dlK l ks k) (ks.getD k 0) < l.length → dlK l ks (k + 1) = dlK l ks k ∧ dnK l ks (k + 1) = dnK l ks k) := Lib.hid fun k h => ⟨by rw [dlK, delK, if_neg (by rw [dlK_len]; exact h)], by rw [dnK, if_neg h]; rfl⟩
    have HNL := Lib.hid fun k => dnK_le l ks k
    rw [HLN.out]
    generalize dlK l ks = D at *
    generalize dnK l ks = N at *
    clear hok
    unfold eph at *
    go_enter Tryd.func14, Tryd.ntmps14
    go_wp2_with fail
    go_at_call 25
    refine (HV.out _ (hr.later (by repeat (first | exact Below.refl _ _ | assumption | (refine below_drewN ?_ _) | (refine Below.drew ?_) | (refine Below.alloc ?_ (by first | omega | (simp; omega) | simp) _) | (refine Below.setCell ?_ (by first | omega | (simp; omega) | simp) _) | (refine below_trans ?_ (by assumption) (by first | omega | (simp; omega) | simp)))))).mono ?_
    rintro e w1 ⟨rfl, hb_w1⟩
    obtain ⟨hc_w1, hf_w1⟩ := bcell hb_w1; have hz_w1_w_0 : w.heap.size < w1.heap.size := (by have hzz := hb_w1.size; (try simp only [World.size_alloc, World.size_setCell, World.size_drew, World.heap_drewN] at hzz); omega); have hz_w1_w_1 : w.heap.size + 1 < w1.heap.size := (by have hzz := hb_w1.size; (try simp only [World.size_alloc, World.size_setCell, World.size_drew, World.heap_drewN] at hzz); omega); have hs_w1 := hb_w1.size; (try simp only [World.size_alloc, World.size_setCell, World.size_drew, World.heap_drewN] at hs_w1)
    have b1 : Below w.heap.size w w1 := (by repeat (first | exact Below.refl _ _ | assumption | (refine below_drewN ?_ _) | (refine Below.drew ?_) | (refine Below.alloc ?_ (by first | omega | (simp; omega) | simp) _) | (refine Below.setCell ?_ (by first | omega | (simp; omega) | simp) _) | (refine below_trans ?_ (by assumption) (by first | omega | (simp; omega) | simp))))
    have P := (((Bx.new w _ _).alloc _).later hb_w1 : Bx w1 _ _)
    have Q := ((Bx.new (w.alloc _) _ _).later hb_w1 : Bx w1 _ _)
    simp only [World.size_alloc] at P Q
    obtain ⟨p0, p1⟩ := P
    clear hc_w1 hf_w1
    go_wp2_with fail
    go_at_call 10
    refine (HTW.out _ ((hr.later b1).later (by repeat (first | exact Below.refl _ _ | assumption | (refine below_drewN ?_ _) | (refine Below.drew ?_) | (refine Below.alloc ?_ (by first | omega | (simp; omega) | simp) _) | (refine Below.setCell ?_ (by first | omega | (simp; omega) | simp) _) | (refine below_trans ?_ (by assumption) (by first | omega | (simp; omega) | simp)))))).mono ?_
    rintro e w2 ⟨B2, c2, rfl, o2, hb_w2⟩
    obtain ⟨hc_w2, hf_w2⟩ := bcell hb_w2; have hz_w2_w_0 : w.heap.size < w2.heap.size := (by have hzz := hb_w2.size; (try simp only [World.size_alloc, World.size_setCell, World.size_drew, World.heap_drewN] at hzz); omega); have hz_w2_w_1 : w.heap.size + 1 < w2.heap.size := (by have hzz := hb_w2.size; (try simp only [World.size_alloc, World.size_setCell, World.size_drew, World.heap_drewN] at hzz); omega); have hs_w2 := hb_w2.size; (try simp only [World.size_alloc, World.size_setCell, World.size_drew, World.heap_drewN] at hs_w2)
    have b2 : Below w.heap.size w w2 := (by repeat (first | exact Below.refl _ _ | assumption | (refine below_drewN ?_ _) | (refine Below.drew ?_) | (refine Below.alloc ?_ (by first | omega | (simp; omega) | simp) _) | (refine Below.setCell ?_ (by first | omega | (simp; omega) | simp) _) | (refine below_trans ?_ (by assumption) (by first | omega | (simp; omega) | simp))))
    have P := ((Bx.mk p0 p1).later hb_w2 : Bx w2 _ _)
    have Q := (Q.later hb_w2 : Bx w2 _ _)
    clear p0 p1
    have hnil := Lib.hid o2.nil_
    have P' := Lib.hid (P.set (.slice B2 l.length c2))
    have Q' := Lib.hid (Q.far (p := ⟨w.heap.size, 0, none⟩) (by show w.heap.size ≠ _; omega) (.slice B2 l.length c2))
    have o2' := Lib.hid (o2.own.far (p := ⟨w.heap.size, 0, none⟩) (by show w.heap.size < _; omega) (.slice B2 l.length c2))
    obtain ⟨p0, p1⟩ := P
    clear hc_w2 hf_w2 Q o2
    go_wp2_with fail
    go_loopw [7, 19] (fun nn ii wr => ∃ k : Nat, ii = .int .i64 (k : Nat) ∧ k ≤ ks.length ∧ nn = .int .i64 (N k : Nat) ∧ EOwn wr w1.heap.size B2 (D k) ∧ Bx wr w.heap.size (.slice B2 l.length c2) ∧ Bx wr (w.heap.size + 1) (.slice none 0 0) ∧ w1.heap.size ≤ wr.heap.size ∧ Below w.heap.size w wr) (fun nn ii _ => ks.length - (intOf ii).toNat)
    case atStart => exact ⟨0, rfl, Nat.zero_le _, by rw [HN0.out]; rfl, by rw [HS0.out]; exact o2'.out, P'.out, Q'.out, (by first | omega | (simp; omega) | simp), (by repeat (first | exact Below.refl _ _ | assumption | (refine below_drewN ?_ _) | (refine Below.drew ?_) | (refine Below.alloc ?_ (by first | omega | (simp; omega) | simp) _) | (refine Below.setCell ?_ (by first | omega | (simp; omega) | simp) _) | (refine below_trans ?_ (by assumption) (by first | omega | (simp; omega) | simp))))⟩
    case round =>
      clear P' Q' o2' hb_w2 hz_w2_w_0 hz_w2_w_1 hs_w2
      obtain ⟨k, rfl, hk, rfl, eo, P, Q, hsz, hb_wr⟩ := hrel
      have hNk := HNL.out k
      have hsr := hb_wr.size
      by_cases hlt : k < ks.length
      · obtain ⟨b, off, rfl, hbb, hcc⟩ := (hq.later hb_wr).cellAt (k := k) hlt
        have i1 : (k : Int) < (ks.length : Int) := by omega
        have i2 : (0 : Int) ≤ (k : Int) := by omega
        have HFK := Lib.hid fun w A cap hr key => HF.out k w A cap hr key
        rw [HLN.out] at HFK
        have HY := HSY.out k
        have HX := HSN.out k
        generalize ks.getD k 0 = key at *
        have p0 := P.c
        by_cases hf : fd (D k) key < l.length
        · obtain ⟨e1, e2⟩ := HY hf
          have HFK := Lib.hid fun w A cap hr => HFK.out w A cap hr key
          rw [toI_lt hf] at HFK
          have E2 := Lib.hid e2
          have hDl := HLN.out k
          have HSET := Lib.hid fun (W : World) (g : Nat) (h : EOwn W w1.heap.size (some ⟨g, 0, none⟩) (D k)) => h.set rfl (a := fd (D k) key) (by omega) esG ⟨by decide, by unfold W64; decide, by unfold W64; decide⟩
          rw [← e1] at HSET
          generalize hfd : fd (D k) key = a at *
          have j1 : (a : Int) < (l.length : Int) := by omega
          have j2 : (0 : Int) ≤ (a : Int) := by omega
          have f2 : decide ((0 : Int) ≤ (a : Int)) = true := decide_eq_true (by omega)
          obtain ⟨g, rfl, hgB, hgl, _⟩ := eo.at_ (by omega)
          clear HY HX e1 e2 hfd
          go_wp2_with fail
          go_at_call 32
          refine (HFK.out _ _ _ (eo.row.later (by repeat (first | exact Below.refl _ _ | assumption | (refine below_drewN ?_ _) | (refine Below.drew ?_) | (refine Below.alloc ?_ (by first | omega | (simp; omega) | simp) _) | (refine Below.setCell ?_ (by first | omega | (simp; omega) | simp) _) | (refine below_trans ?_ (by assumption) (by first | omega | (simp; omega) | simp)))))).mono ?_
          rintro e w3 ⟨rfl, hb_w3⟩
          obtain ⟨hc_w3, hf_w3⟩ := bcell hb_w3; have hs_w3 := hb_w3.size; (try simp only [World.size_alloc, World.size_setCell, World.size_drew, World.heap_drewN] at hs_w3)
          have P3 := (P.later hb_w3 : Bx w3 _ _)
          have Q3 := (Q.later hb_w3 : Bx w3 _ _)
          have o3 := eo.later hb_w3
          obtain ⟨g', e, _, hg3, hcc3, hff⟩ := o3.at_ (by omega)
          injection e with e
          injection e with e
          subst e
          obtain ⟨d0, d1, d2⟩ := hcc3 a (by omega)
          have fz0 := hff (a * 3)
          have fz1 := hff (a * 3 + 1)
          have fz2 := hff (a * 3 + 2)
          have n3 : ¬ (g = w.heap.size) := by omega
          have n4 : ¬ (w.heap.size = g) := by omega
          have OF := Lib.hid (HSET.out _ _ o3)
          have P4 := Lib.hid (((P3.far (p := ⟨g, a * 3, none⟩) (by show g ≠ _; omega) (.int .u8 (esG.s : Nat))).far (p := ⟨g, a * 3 + 1, none⟩) (by show g ≠ _; omega) (.int .u64 (esG.k : Nat))).far (p := ⟨g, a * 3 + 2, none⟩) (by show g ≠ _; omega) (.int .u64 (esG.v : Nat)))
          have Q4 := Lib.hid (((Q3.far (p := ⟨g, a * 3, none⟩) (by show g ≠ _; omega) (.int .u8 (esG.s : Nat))).far (p := ⟨g, a * 3 + 1, none⟩) (by show g ≠ _; omega) (.int .u64 (esG.k : Nat))).far (p := ⟨g, a * 3 + 2, none⟩) (by show g ≠ _; omega) (.int .u64 (esG.v : Nat)))
          have p30 := P3.c
          clear hc_w3 hf_w3 hcc3 hff P3 Q3 o3 p0 HSET
          go_wp2
          go_roundw
          case rel => exact ⟨k + 1, by go_num, by omega, by rw [E2.out]; go_num, OF.out, P4.out, Q4.out, (by first | omega | (simp; omega) | simp), (by repeat (first | exact Below.refl _ _ | assumption | (refine below_drewN ?_ _) | (refine Below.drew ?_) | (refine Below.alloc ?_ (by first | omega | (simp; omega) | simp) _) | (refine Below.setCell ?_ (by first | omega | (simp; omega) | simp) _) | (refine below_trans ?_ (by assumption) (by first | omega | (simp; omega) | simp))))⟩
          case measure => simp [intOf]; omega
        · obtain ⟨e1, e2⟩ := HX hf
          have HFK := Lib.hid fun w A cap hr => HFK.out w A cap hr key
          rw [toI_no hf] at HFK
          have E1 := Lib.hid e1
          have E2 := Lib.hid e2
          clear HY HX e1 e2 hf
          go_wp2_with fail
          go_at_call 32
          refine (HFK.out _ _ _ (eo.row.later (by repeat (first | exact Below.refl _ _ | assumption | (refine below_drewN ?_ _) | (refine Below.drew ?_) | (refine Below.alloc ?_ (by first | omega | (simp; omega) | simp) _) | (refine Below.setCell ?_ (by first | omega | (simp; omega) | simp) _) | (refine below_trans ?_ (by assumption) (by first | omega | (simp; omega) | simp)))))).mono ?_
          rintro e w3 ⟨rfl, hb_w3⟩
          obtain ⟨hc_w3, hf_w3⟩ := bcell hb_w3; have hs_w3 := hb_w3.size; (try simp only [World.size_alloc, World.size_setCell, World.size_drew, World.heap_drewN] at hs_w3)
          have P3 := Lib.hid (P.later hb_w3 : Bx w3 _ _)
          have Q3 := Lib.hid (Q.later hb_w3 : Bx w3 _ _)
          have o3 := Lib.hid (eo.later hb_w3)
          clear hc_w3 hf_w3
          go_wp2
          go_roundw
          case rel => exact ⟨k + 1, by go_num, by omega, by rw [E2.out], by rw [E1.out]; exact o3.out, P3.out, Q3.out, (by first | omega | (simp; omega) | simp), (by repeat (first | exact Below.refl _ _ | assumption | (refine below_drewN ?_ _) | (refine Below.drew ?_) | (refine Below.alloc ?_ (by first | omega | (simp; omega) | simp) _) | (refine Below.setCell ?_ (by first | omega | (simp; omega) | simp) _) | (refine below_trans ?_ (by assumption) (by first | omega | (simp; omega) | simp))))⟩
          case measure => simp [intOf]; omega
      · obtain rfl : k = ks.length := by omega
        obtain ⟨p0, p1⟩ := P
        obtain ⟨q0, q1⟩ := Q
        go_wp2
        exact bodyPost_ret (res_p3 rfl rfl (g := w.heap.size + 1) (v0 := .slice B2 l.length c2) (by first | exact World.cell?_setCell_same _ _ _ q0 | exact World.cell?_setCell_same _ _ _ (by first | exact q0 | (exact (World.cell?_alloc_lt _ _ ⟨_, _, _⟩ (by first | omega | (simp; omega) | simp)).trans q0) | (exact (World.cell?_alloc_lt _ _ ⟨_, _, _⟩ (by first | omega | (simp; omega) | simp)).trans ((World.cell?_alloc_lt _ _ ⟨_, _, _⟩ (by first | omega | (simp; omega) | simp)).trans q0)) | (simp [go_sem, q0]; done)) | exact (World.cell?_alloc_lt _ _ ⟨_, _, _⟩ (by first | omega | (simp; omega) | simp)).trans (World.cell?_setCell_same _ _ _ q0) | (simp [go_sem, q0]; done))) rfl ⟨B2, c2, rfl, ⟨(eo.far (by show w.heap.size + 1 < _; omega) _).mono (by omega), hnil.out⟩, (by repeat (first | exact Below.refl _ _ | assumption | (refine below_drewN ?_ _) | (refine Below.drew ?_) | (refine Below.alloc ?_ (by first | omega | (simp; omega) | simp) _) | (refine Below.setCell ?_ (by first | omega | (simp; omega) | simp) _) | (refine below_trans ?_ (by assumption) (by first | omega | (simp; omega) | simp))))⟩
theorem exput_any (hr : ERow w w.heap.size A l) (hl : l.length ≤ 5864062014805) (key val : Nat) (hkey : key < W64) (hval : val < W64) (r : List Es) (y : Int) (hE : PutT l key val r y) :
    Calls Tryd.prog 12 #[eph A l.length cap, .int .u64 (key : Nat), .int .u64 (val : Nat)] w fun e w' => PutR w r y e w' := by
  rcases hE with h | h | h | ⟨hok, h0, hf, ha, rfl, rfl⟩ | ⟨hok, h0, hf, ha, hs, rfl, rfl⟩ | ⟨hok, h0, hf, ha, hs, rfl, rfl⟩
  · exact exput_first cap hr hl key val hkey hval r y (.inl h)
  · exact exput_first cap hr hl key val hkey hval r y (.inr (.inl h))
  · exact exput_first cap hr hl key val hkey hval r y (.inr (.inr h))
  · exact exput_lay cap hr hl key val hkey hval hok h0 hf ha
  · exact exput_full cap hr hl key val hkey hval hok h0 hf ha hs
  · exact exput_reb cap hr hl key val hkey hval hok h0 hf ha hs
end
end Go.Proofs.YtloemeinpknamaaDoor
