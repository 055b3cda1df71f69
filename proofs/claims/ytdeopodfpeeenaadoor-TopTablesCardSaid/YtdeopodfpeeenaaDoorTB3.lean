/- The walk of the law TopTables. -/
import Derived.Test.YtdeopodfpeeenaaDoorTB2
namespace Go.Proofs.YtdeopodfpeeenaaDoor
open Go.RowKit
set_option linter.unusedVariables false
set_option linter.unusedSimpArgs false

set_option maxHeartbeats 8000000 in
set_option maxRecDepth 100000 in
theorem topTables_walk (X G : Option Addr) (cx cg : Nat) (xs gs : List Nat) (w : World) (hT : Tz w) (hx : Row w w.heap.size X xs) (hxl : xs.length ≤ 17592186044416) (hq : Row w w.heap.size G gs) (hgl : gs.length ≤ 17592186044416) :
    Calls Tryd.prog 3 #[.slice X xs.length cx, .slice G gs.length cg] w fun e w' => e = .returned (.bool true) ∧ Below w.heap.size w w' := by
  have HP := Lib.hid fun (w : World) (A : Option Addr) (cap : Nat) (l : List Es) (key val : Nat) (r : List Es) (y : Int) hT hr hl hn hkey hval hE => eput_any (w := w) (A := A) (l := l) cap hT hr hl hn key val hkey hval r y hE
  unfold PutR at HP
  have HXW : Hid (∀ k, k < xs.length → xs.getD k 0 < W64) := Lib.hid fun k hk => hx.1 _ (by rw [List.getD_eq_getElem?_getD, List.getElem?_eq_getElem hk]; exact List.getElem_mem hk)
  have HZ := Lib.hid (Both2.zero xs)
  unfold eph at *
  go_enter Tryd.func3, Tryd.ntmps3
  go_wp2_with fail
  go_at_call 4
  refine (begins_any _).mono ?_
  rintro e w1 ⟨rfl, hb_w1⟩
  obtain ⟨hc_w1, hf_w1⟩ := bcell hb_w1; have hs_w1 := hb_w1.size; (try simp only [World.size_alloc, World.size_setCell, World.size_drew, World.heap_drewN] at hs_w1)
  have b1 : Below w.heap.size w w1 := (by repeat (first | exact Below.refl _ _ | assumption | (refine below_drewN ?_ _) | (refine Below.drew ?_) | (refine Below.alloc ?_ (by first | omega | (simp; omega) | simp) _) | (refine Below.setCell ?_ (by first | omega | (simp; omega) | simp) _) | (refine below_trans ?_ (by assumption) (by first | omega | (simp; omega) | simp))))
  have P' := Lib.hid (Bx.new w1 (.slice none 0 0) 26)
  clear hc_w1 hf_w1
  go_wp2_with fail
  go_loopw [6, 29] (fun ww ii wr => ∃ (k : Nat) (A : Option Addr) (cap : Nat) (l : List Es) (Aw : Option Addr) (cw : Nat) (t : List Nat), ii = .int .i64 (k : Nat) ∧ k ≤ xs.length ∧ k ≤ 25 ∧ Hid (Both2 xs k l t) ∧ ETab wr (w1.heap.size + 1) A cap l ∧ ww = .slice Aw t.length cw ∧ OwnsN wr (w1.heap.size + 1) Aw t.length cw t ∧ Bx wr w1.heap.size (.slice A l.length cap) ∧ w1.heap.size + 1 ≤ wr.heap.size ∧ Below w.heap.size w wr) (fun _ ii _ => xs.length - (intOf ii).toNat)
  case atStart => exact ⟨0, none, 0, [], none, 0, [], rfl, Nat.zero_le _, Nat.zero_le _, Lib.hid HZ.out, ETab.nil _ _, rfl, OwnsN.nil _ _, P'.out, (by first | omega | (simp; omega) | simp), (by repeat (first | exact Below.refl _ _ | assumption | (refine below_drewN ?_ _) | (refine Below.drew ?_) | (refine Below.alloc ?_ (by first | omega | (simp; omega) | simp) _) | (refine Below.setCell ?_ (by first | omega | (simp; omega) | simp) _) | (refine below_trans ?_ (by assumption) (by first | omega | (simp; omega) | simp))))⟩
  case round =>
    clear P' hb_w1
    obtain ⟨k, A, cap, l, Aw, cw, t, rfl, hk, hk25, H2, eo, rfl, wo, P, hsz, b_wr⟩ := hrel
    have hsr := b_wr.size
    have hTr := hT.later b_wr
    have hl64 := H2.out.okt.le
    have htl : t.length ≤ k := H2.out.le
    have hul : useds l ≤ 25 := by rw [H2.out.len]; omega
    obtain ⟨p0, p1⟩ := id P
    have hnil := Lib.hid eo.nil_
    have er := eo.row
    have wcap := wo.cap_
    have wnil := Lib.hid wo.nil_
    by_cases hgo : k < xs.length ∧ k ≠ 25
    · obtain ⟨hlt, hne⟩ := hgo
      obtain ⟨b, off, hXA, hbb, hcc⟩ := (hx.later b_wr).cellAt (k := k) hlt
      subst hXA
      have i1 : (k : Int) < (xs.length : Int) := by omega
      have i2 : (0 : Int) ≤ (k : Int) := by omega
      have f25 : ((k : Int) == 25) = false := by rw [beq_eq_false_iff_ne]; omega
      have hXW := HXW.out k hlt
      have hkW : k < W64 := by unfold W64; omega
      have HK := Lib.hid (u64_of (k := k) (by omega))
      have hSK := fun h => H2.out.skip hlt h
      have hST := fun r u v hh ha hp hw => H2.out.step (r := r) (u := u) (v := v) (hh := hh) hlt ha hp hw
      generalize xs.getD k 0 = a at *
      by_cases ha : a = 0
      · have H3 := Lib.hid (hSK ha)
        subst ha
        have HPK := Lib.hid fun (w : World) hT hr => HP.out w A cap l 0 k l 7 hT hr (by omega) hnil.out hXW hkW (.inr (.inl ⟨H2.out.okt, rfl, rfl, rfl⟩))
        have HM := Lib.hid fun (w : World) hr => wmake_any (w := w) (A := Aw) (t := t) cw hr wcap (by omega) wnil.out 0 hXW t 0 7 (.inr (.inl ⟨H2.out.okh.1, rfl, rfl, rfl, rfl⟩))
        clear hSK hST
        go_wp2_with fail
        try simp only [HK.out]
        go_at_call 5
        refine (HPK.out _ (hTr.later (by repeat (first | exact Below.refl _ _ | assumption | (refine below_drewN ?_ _) | (refine Below.drew ?_) | (refine Below.alloc ?_ (by first | omega | (simp; omega) | simp) _) | (refine Below.setCell ?_ (by first | omega | (simp; omega) | simp) _) | (refine below_trans ?_ (by assumption) (by first | omega | (simp; omega) | simp))))) (er.later (by repeat (first | exact Below.refl _ _ | assumption | (refine below_drewN ?_ _) | (refine Below.drew ?_) | (refine Below.alloc ?_ (by first | omega | (simp; omega) | simp) _) | (refine Below.setCell ?_ (by first | omega | (simp; omega) | simp) _) | (refine below_trans ?_ (by assumption) (by first | omega | (simp; omega) | simp)))))).mono ?_
        rintro e w3 ⟨B2, c2, rfl, o2, hb_w3⟩
        obtain ⟨hc_w3, hf_w3⟩ := bcell hb_w3; have hs_w3 := hb_w3.size; (try simp only [World.size_alloc, World.size_setCell, World.size_drew, World.heap_drewN] at hs_w3)
        have k3 : Below wr.heap.size wr w3 := (by repeat (first | exact Below.refl _ _ | assumption | (refine below_drewN ?_ _) | (refine Below.drew ?_) | (refine Below.alloc ?_ (by first | omega | (simp; omega) | simp) _) | (refine Below.setCell ?_ (by first | omega | (simp; omega) | simp) _) | (refine below_trans ?_ (by assumption) (by first | omega | (simp; omega) | simp))))
        clear hc_w3 hf_w3 o2
        have rw3 := (wo.later k3).row.later ((Below.refl w3.heap.size w3).alloc (Nat.le_refl _) (.cells #[.slice B2 l.length c2] 26))
        go_wp2_with fail
        go_at_call 6
        refine (HM.out _ (rw3.later (by repeat (first | exact Below.refl _ _ | assumption | (refine below_drewN ?_ _) | (refine Below.drew ?_) | (refine Below.alloc ?_ (by first | omega | (simp; omega) | simp) _) | (refine Below.setCell ?_ (by first | omega | (simp; omega) | simp) _) | (refine below_trans ?_ (by assumption) (by first | omega | (simp; omega) | simp)))))).mono ?_
        rintro e w4 ⟨B4, c4, rfl, o4, hb_w4⟩
        obtain ⟨hc_w4, hf_w4⟩ := bcell hb_w4; have hz_w4_w3_0 : w3.heap.size < w4.heap.size := (by have hzz := hb_w4.size; (try simp only [World.size_alloc, World.size_setCell, World.size_drew, World.heap_drewN] at hzz); omega); have hs_w4 := hb_w4.size; (try simp only [World.size_alloc, World.size_setCell, World.size_drew, World.heap_drewN] at hs_w4)
        have k4 : Below wr.heap.size wr w4 := below_trans k3 (show Below w3.heap.size w3 w4 from (by repeat (first | exact Below.refl _ _ | assumption | (refine below_drewN ?_ _) | (refine Below.drew ?_) | (refine Below.alloc ?_ (by first | omega | (simp; omega) | simp) _) | (refine Below.setCell ?_ (by first | omega | (simp; omega) | simp) _) | (refine below_trans ?_ (by assumption) (by first | omega | (simp; omega) | simp))))) (by first | omega | (simp; omega) | simp)
        have P4 := Lib.hid (P.later k4)
        have O4 := Lib.hid (eo.later k4)
        have WO4 := Lib.hid (wo.later k4)
        clear hc_w4 hf_w4 o4 p0 p1 P eo wo
        go_wp2
        go_roundw
        case rel => exact ⟨k + 1, A, cap, l, Aw, cw, t, by go_num, by omega, by omega, Lib.hid H3.out, O4.out, rfl, WO4.out, P4.out, (by first | omega | (simp; omega) | simp), below_trans b_wr k4 (by first | omega | (simp; omega) | simp)⟩
        case measure => simp [intOf]; omega
      · obtain ⟨r, y, hE⟩ := PutT.ex l a k
        obtain rfl := hE.room H2.out.okt ha (by omega)
        obtain ⟨u, hh, y, hM⟩ := MkE.ex t a
        obtain rfl := hM.zero H2.out.okh.1 ha (by omega)
        obtain ⟨h3, hh1⟩ := hST r u k hh ha (hE.ok rfl) hM
        have H3 := Lib.hid h3
        have HPK := Lib.hid fun (w : World) hT hr => HP.out w A cap l a k r 0 hT hr (by omega) hnil.out hXW hkW hE
        have HM := Lib.hid fun (w : World) hr => wmake_any (w := w) (A := Aw) (t := t) cw hr wcap (by omega) wnil.out a hXW u hh 0 hM
        have d1 : ((a : Int) == 0) = false := by rw [beq_eq_false_iff_ne]; omega
        have d2 : decide ((hh : Int) < 1) = false := decide_eq_false (by omega)
        have d3 : decide (hh < 1) = false := decide_eq_false (by omega)
        clear hSK hST hE hM h3
        go_wp2_with fail
        try simp only [HK.out]
        go_at_call 5
        refine (HPK.out _ (hTr.later (by repeat (first | exact Below.refl _ _ | assumption | (refine below_drewN ?_ _) | (refine Below.drew ?_) | (refine Below.alloc ?_ (by first | omega | (simp; omega) | simp) _) | (refine Below.setCell ?_ (by first | omega | (simp; omega) | simp) _) | (refine below_trans ?_ (by assumption) (by first | omega | (simp; omega) | simp))))) (er.later (by repeat (first | exact Below.refl _ _ | assumption | (refine below_drewN ?_ _) | (refine Below.drew ?_) | (refine Below.alloc ?_ (by first | omega | (simp; omega) | simp) _) | (refine Below.setCell ?_ (by first | omega | (simp; omega) | simp) _) | (refine below_trans ?_ (by assumption) (by first | omega | (simp; omega) | simp)))))).mono ?_
        rintro e w3 ⟨B2, c2, rfl, o2, hb_w3⟩
        obtain ⟨hc_w3, hf_w3⟩ := bcell hb_w3; have hs_w3 := hb_w3.size; (try simp only [World.size_alloc, World.size_setCell, World.size_drew, World.heap_drewN] at hs_w3)
        have k3 : Below wr.heap.size wr w3 := (by repeat (first | exact Below.refl _ _ | assumption | (refine below_drewN ?_ _) | (refine Below.drew ?_) | (refine Below.alloc ?_ (by first | omega | (simp; omega) | simp) _) | (refine Below.setCell ?_ (by first | omega | (simp; omega) | simp) _) | (refine below_trans ?_ (by assumption) (by first | omega | (simp; omega) | simp))))
        clear hc_w3 hf_w3
        have rw3 := (wo.later k3).row.later ((Below.refl w3.heap.size w3).alloc (Nat.le_refl _) (.cells #[.slice B2 r.length c2] 26))
        have q3 := Bx.new w3 (.slice B2 r.length c2) 26
        go_wp2_with fail
        go_at_call 6
        refine (HM.out _ (rw3.later (by repeat (first | exact Below.refl _ _ | assumption | (refine below_drewN ?_ _) | (refine Below.drew ?_) | (refine Below.alloc ?_ (by first | omega | (simp; omega) | simp) _) | (refine Below.setCell ?_ (by first | omega | (simp; omega) | simp) _) | (refine below_trans ?_ (by assumption) (by first | omega | (simp; omega) | simp)))))).mono ?_
        rintro e w4 ⟨B4, c4, rfl, o4, hb_w4⟩
        obtain ⟨hc_w4, hf_w4⟩ := bcell hb_w4; have hz_w4_w3_0 : w3.heap.size < w4.heap.size := (by have hzz := hb_w4.size; (try simp only [World.size_alloc, World.size_setCell, World.size_drew, World.heap_drewN] at hzz); omega); have hs_w4 := hb_w4.size; (try simp only [World.size_alloc, World.size_setCell, World.size_drew, World.heap_drewN] at hs_w4)
        have k334 : Below w3.heap.size w3 w4 := (by repeat (first | exact Below.refl _ _ | assumption | (refine below_drewN ?_ _) | (refine Below.drew ?_) | (refine Below.alloc ?_ (by first | omega | (simp; omega) | simp) _) | (refine Below.setCell ?_ (by first | omega | (simp; omega) | simp) _) | (refine below_trans ?_ (by assumption) (by first | omega | (simp; omega) | simp))))
        have k34 : Below (w3.alloc (.cells #[.slice B2 r.length c2] 26)).heap.size (w3.alloc (.cells #[.slice B2 r.length c2] 26)) w4 := (by repeat (first | exact Below.refl _ _ | assumption | (refine below_drewN ?_ _) | (refine Below.drew ?_) | (refine Below.alloc ?_ (by first | omega | (simp; omega) | simp) _) | (refine Below.setCell ?_ (by first | omega | (simp; omega) | simp) _) | (refine below_trans ?_ (by assumption) (by first | omega | (simp; omega) | simp))))
        have k4 : Below wr.heap.size wr w4 := below_trans k3 k334 (by first | omega | (simp; omega) | simp)
        have q4 := q3.later k34
        obtain ⟨q40, q41⟩ := q4
        have P4 := P.later k4
        have p4l := P4.lt
        obtain ⟨p40, p41⟩ := id P4
        have P5 := Lib.hid (P4.set (.slice B2 r.length c2))
        have O4 := Lib.hid (((o2.later k334).mono (B' := w1.heap.size + 1) (by omega)).far (p := ⟨w1.heap.size, 0, none⟩) (by show w1.heap.size < _; omega) (.slice B2 r.length c2))
        have WO4 := Lib.hid ((o4.mono (B' := w1.heap.size + 1) (by simp; omega)).far (p := ⟨w1.heap.size, 0, none⟩) (by show w1.heap.size < _; omega) (.slice B2 r.length c2))
        clear hc_w4 hf_w4 o4 o2 p0 p1 P P4 eo wo rw3 q3
        go_wp2
        go_roundw
        case rel => exact ⟨k + 1, B2, c2, r, B4, c4, u, by go_num, by omega, by omega, Lib.hid H3.out, O4.out, rfl, WO4.out, P5.out, (by first | omega | (simp; omega) | simp), (by repeat (first | exact Below.refl _ _ | assumption | (refine below_drewN ?_ _) | (refine Below.drew ?_) | (refine Below.alloc ?_ (by first | omega | (simp; omega) | simp) _) | (refine Below.setCell ?_ (by first | omega | (simp; omega) | simp) _) | (refine below_trans ?_ (by assumption) (by first | omega | (simp; omega) | simp))))⟩
        case measure => simp [intOf]; omega
    · have hcase : (k = xs.length) ∨ (k < xs.length ∧ k = 25) := by omega
      clear hgo
      obtain ⟨r2, u2, ls, hDe, hCe, hr2, hu2, hask⟩ := H2.out.after gs
      have HASK := Lib.hid hask
      have hr264 := hr2.le
      have hu264 := hu2.1
      have HD := Lib.hid fun (w : World) hT hr hn hq => edel_any (w := w) (A := A) (K := G) (l := l) (ks := gs) cap cg hT hr (by omega) hn hq hgl r2 ls.length 0 hDe
      have HC := Lib.hid fun (w : World) hr hq => wclear_any (w := w) (A := Aw) (t := t) (G := G) (gs := gs) cw cg hr wcap (by omega) wnil.out hq hgl u2 ls 0 hCe
      unfold DelR eph at HD
      clear hask hDe hCe H2
      rcases hcase with hcase | ⟨hlt, hcase⟩
      · subst hcase
        obtain ⟨K, hK, hK2⟩ : ∃ K, Hid (xs.length = K) ∧ xs.length ≤ K := ⟨_, Lib.hid rfl, Nat.le_refl _⟩
        rw [hK.out] at HASK
        go_wp2_with fail
        go_at_call 7
        refine (HD.out _ (hTr.later (by repeat (first | exact Below.refl _ _ | assumption | (refine below_drewN ?_ _) | (refine Below.drew ?_) | (refine Below.alloc ?_ (by first | omega | (simp; omega) | simp) _) | (refine Below.setCell ?_ (by first | omega | (simp; omega) | simp) _) | (refine below_trans ?_ (by assumption) (by first | omega | (simp; omega) | simp))))) (er.later (by repeat (first | exact Below.refl _ _ | assumption | (refine below_drewN ?_ _) | (refine Below.drew ?_) | (refine Below.alloc ?_ (by first | omega | (simp; omega) | simp) _) | (refine Below.setCell ?_ (by first | omega | (simp; omega) | simp) _) | (refine below_trans ?_ (by assumption) (by first | omega | (simp; omega) | simp))))) hnil.out ((hq.later b_wr).later (by repeat (first | exact Below.refl _ _ | assumption | (refine below_drewN ?_ _) | (refine Below.drew ?_) | (refine Below.alloc ?_ (by first | omega | (simp; omega) | simp) _) | (refine Below.setCell ?_ (by first | omega | (simp; omega) | simp) _) | (refine below_trans ?_ (by assumption) (by first | omega | (simp; omega) | simp)))))).mono ?_
        rintro e w5 ⟨A2, c2, rfl, o2, hb_w5⟩
        obtain ⟨hc_w5, hf_w5⟩ := bcell hb_w5; have hs_w5 := hb_w5.size; (try simp only [World.size_alloc, World.size_setCell, World.size_drew, World.heap_drewN] at hs_w5)
        have P5 := (P.later hb_w5 : Bx w5 _ _)
        have W5o := wo.later (show Below wr.heap.size wr w5 from (by repeat (first | exact Below.refl _ _ | assumption | (refine below_drewN ?_ _) | (refine Below.drew ?_) | (refine Below.alloc ?_ (by first | omega | (simp; omega) | simp) _) | (refine Below.setCell ?_ (by first | omega | (simp; omega) | simp) _) | (refine below_trans ?_ (by assumption) (by first | omega | (simp; omega) | simp)))))
        have b5 : Below w.heap.size w w5 := below_trans b_wr (show Below wr.heap.size wr w5 from (by repeat (first | exact Below.refl _ _ | assumption | (refine below_drewN ?_ _) | (refine Below.drew ?_) | (refine Below.alloc ?_ (by first | omega | (simp; omega) | simp) _) | (refine Below.setCell ?_ (by first | omega | (simp; omega) | simp) _) | (refine below_trans ?_ (by assumption) (by first | omega | (simp; omega) | simp))))) (by first | omega | (simp; omega) | simp)
        have P6 := P5.set (.slice A2 r2.length c2)
        have o6 := ((o2.mono (B' := w1.heap.size + 1) (by omega)).far (p := ⟨w1.heap.size, 0, none⟩) (by show w1.heap.size < _; omega) (.slice A2 r2.length c2))
        have wo6 := W5o.far (p := ⟨w1.heap.size, 0, none⟩) (by show w1.heap.size < _; omega) (.slice A2 r2.length c2)
        have b6 : Below w.heap.size w (w5.setCell ⟨w1.heap.size, 0, none⟩ (.slice A2 r2.length c2)) := (by repeat (first | exact Below.refl _ _ | assumption | (refine below_drewN ?_ _) | (refine Below.drew ?_) | (refine Below.alloc ?_ (by first | omega | (simp; omega) | simp) _) | (refine Below.setCell ?_ (by first | omega | (simp; omega) | simp) _) | (refine below_trans ?_ (by assumption) (by first | omega | (simp; omega) | simp))))
        have hs6 : (w5.setCell ⟨w1.heap.size, 0, none⟩ (.slice A2 r2.length c2)).heap.size = w5.heap.size := by simp
        have hs56 := hs_w5
        have p5l := P5.lt
        obtain ⟨p50, p51⟩ := P5
        have n2 := Lib.hid o2.nil_
        have P6' := Lib.hid P6
        have O6 := Lib.hid o6
        have WO6 := Lib.hid wo6
        have WC6 := wo6.cap_
        have B6 := Lib.hid b6
        clear hc_w5 hf_w5 o2 p0 p1 P P6 o6 wo6 b6 W5o
        go_wp2_with fail
        go_at_call 8
        refine (HC.out _ (WO6.out.row.later (by repeat (first | exact Below.refl _ _ | assumption | (refine below_drewN ?_ _) | (refine Below.drew ?_) | (refine Below.alloc ?_ (by first | omega | (simp; omega) | simp) _) | (refine Below.setCell ?_ (by first | omega | (simp; omega) | simp) _) | (refine below_trans ?_ (by assumption) (by first | omega | (simp; omega) | simp))))) ((hq.later B6.out).later (by repeat (first | exact Below.refl _ _ | assumption | (refine below_drewN ?_ _) | (refine Below.drew ?_) | (refine Below.alloc ?_ (by first | omega | (simp; omega) | simp) _) | (refine Below.setCell ?_ (by first | omega | (simp; omega) | simp) _) | (refine below_trans ?_ (by assumption) (by first | omega | (simp; omega) | simp)))))).mono ?_
        rintro e w7 ⟨W2, cw2, C7, cc7, rfl, oc7, lc7, hl7, hb_w7⟩
        obtain ⟨hc_w7, hf_w7⟩ := bcell hb_w7; have hs_w7 := hb_w7.size; (try simp only [World.size_alloc, World.size_setCell, World.size_drew, World.heap_drewN] at hs_w7)
        have k7 : Below (w5.setCell ⟨w1.heap.size, 0, none⟩ (.slice A2 r2.length c2)).heap.size (w5.setCell ⟨w1.heap.size, 0, none⟩ (.slice A2 r2.length c2)) w7 := (by repeat (first | exact Below.refl _ _ | assumption | (refine below_drewN ?_ _) | (refine Below.drew ?_) | (refine Below.alloc ?_ (by first | omega | (simp; omega) | simp) _) | (refine Below.setCell ?_ (by first | omega | (simp; omega) | simp) _) | (refine below_trans ?_ (by assumption) (by first | omega | (simp; omega) | simp))))
        have PF := P6'.out.later k7
        have bF : Below w.heap.size w w7 := below_trans B6.out k7 (by simp; omega)
        have rF := (O6.out.later k7).row
        have hF := oc7.row
        have hcap2 := oc7.cap_
        have hsF := bF.size
        have d7 : ((ls.length : Int) != (ls.length : Int)) = false := by simp
        clear hc_w7 hf_w7 k7 P6' O6 WO6 B6 lc7 oc7 p50 p51 p5l hb_w5
        generalize w7 = wF at *
        go_wp2_with fail
        go_loopw [100] (fun ii wr => ∃ j : Nat, ii = .int .i64 (j : Nat) ∧ j ≤ xs.length ∧ j ≤ 25 ∧ wF.heap.size ≤ wr.heap.size ∧ Below wF.heap.size wF wr) (fun ii _ => xs.length - (intOf ii).toNat)
        case atStart => exact ⟨0, rfl, Nat.zero_le _, Nat.zero_le _, (by first | omega | (simp; omega) | simp), (by repeat (first | exact Below.refl _ _ | assumption | (refine below_drewN ?_ _) | (refine Below.drew ?_) | (refine Below.alloc ?_ (by first | omega | (simp; omega) | simp) _) | (refine Below.setCell ?_ (by first | omega | (simp; omega) | simp) _) | (refine below_trans ?_ (by assumption) (by first | omega | (simp; omega) | simp))))⟩
        case round =>
          obtain ⟨j, rfl, hj, hj25, hszj, hb_wr⟩ := hrel
          have hsr := hb_wr.size
          have b_wr : Below w.heap.size w wr := below_trans bF hb_wr (by first | omega | (simp; omega) | simp)
          have PJ := PF.later hb_wr
          obtain ⟨p0, p1⟩ := id PJ
          have hTr := hT.later b_wr
          have rrj := rF.later hb_wr
          have wwj := hF.later hb_wr
          by_cases hgo : j < xs.length ∧ j ≠ 25
          · obtain ⟨hlt, hne⟩ := hgo
            obtain ⟨b, off, hXA, hbb, hcc⟩ := (hx.later b_wr).cellAt (k := j) hlt
            subst hXA
            have i1 : (j : Int) < (xs.length : Int) := by omega
            have i2 : (0 : Int) ≤ (j : Int) := by omega
            have f25 : ((j : Int) == 25) = false := by rw [beq_eq_false_iff_ne]; omega
            have hXW := HXW.out j hlt
            have hmem := mem_take_of hlt (by omega : j < K)
            generalize xs.getD j 0 = a at *
            obtain ⟨v9, y1, hG⟩ := GetT.ex r2 a
            obtain ⟨h9, y2, hH⟩ := HanE.ex u2 a
            obtain ⟨e12, hcase⟩ := HASK.out a v9 h9 y1 y2 hG hH hmem
            subst e12
            have HGT := Lib.hid fun (w : World) hT hr => eget_any (w := w) (A := A2) (l := r2) c2 hT hr (by omega) n2.out a v9 y1 hG
            have HHN := Lib.hid fun (w : World) hr => whan_any (w := w) (A := W2) (t := u2) cw2 hr hcap2 (by omega) a h9 y1 hH
            unfold eph at HGT
            have d1 : (y1 != y1) = false := by simp
            clear hG hH
            by_cases ha : a = 0
            · have d2 : ((a : Int) != 0) = false := by rw [ha]; rfl
              clear hcase
              have HA0 := Lib.hid ha
              clear ha
              go_wp2_with fail
              go_at_call 9
              refine (HGT.out _ (hTr.later (by repeat (first | exact Below.refl _ _ | assumption | (refine below_drewN ?_ _) | (refine Below.drew ?_) | (refine Below.alloc ?_ (by first | omega | (simp; omega) | simp) _) | (refine Below.setCell ?_ (by first | omega | (simp; omega) | simp) _) | (refine below_trans ?_ (by assumption) (by first | omega | (simp; omega) | simp))))) (rrj.later (by repeat (first | exact Below.refl _ _ | assumption | (refine below_drewN ?_ _) | (refine Below.drew ?_) | (refine Below.alloc ?_ (by first | omega | (simp; omega) | simp) _) | (refine Below.setCell ?_ (by first | omega | (simp; omega) | simp) _) | (refine below_trans ?_ (by assumption) (by first | omega | (simp; omega) | simp)))))).mono ?_
              rintro e w8 ⟨rfl, hb_w8⟩
              obtain ⟨hc_w8, hf_w8⟩ := bcell hb_w8; have hs_w8 := hb_w8.size; (try simp only [World.size_alloc, World.size_setCell, World.size_drew, World.heap_drewN] at hs_w8)
              have k8 : Below wr.heap.size wr w8 := (by repeat (first | exact Below.refl _ _ | assumption | (refine below_drewN ?_ _) | (refine Below.drew ?_) | (refine Below.alloc ?_ (by first | omega | (simp; omega) | simp) _) | (refine Below.setCell ?_ (by first | omega | (simp; omega) | simp) _) | (refine below_trans ?_ (by assumption) (by first | omega | (simp; omega) | simp))))
              clear hc_w8 hf_w8
              go_wp2_with fail
              go_at_call 10
              refine (HHN.out _ ((wwj.later k8).later (by repeat (first | exact Below.refl _ _ | assumption | (refine below_drewN ?_ _) | (refine Below.drew ?_) | (refine Below.alloc ?_ (by first | omega | (simp; omega) | simp) _) | (refine Below.setCell ?_ (by first | omega | (simp; omega) | simp) _) | (refine below_trans ?_ (by assumption) (by first | omega | (simp; omega) | simp)))))).mono ?_
              rintro e w9 ⟨rfl, hb_w9⟩
              obtain ⟨hc_w9, hf_w9⟩ := bcell hb_w9; have hs_w9 := hb_w9.size; (try simp only [World.size_alloc, World.size_setCell, World.size_drew, World.heap_drewN] at hs_w9)
              have k9 : Below wr.heap.size wr w9 := below_trans k8 (show Below w8.heap.size w8 w9 from (by repeat (first | exact Below.refl _ _ | assumption | (refine below_drewN ?_ _) | (refine Below.drew ?_) | (refine Below.alloc ?_ (by first | omega | (simp; omega) | simp) _) | (refine Below.setCell ?_ (by first | omega | (simp; omega) | simp) _) | (refine below_trans ?_ (by assumption) (by first | omega | (simp; omega) | simp))))) (by first | omega | (simp; omega) | simp)
              clear hc_w9 hf_w9
              go_wp2
              go_roundw
              case rel => exact ⟨j + 1, by go_num, by omega, by omega, (by first | omega | (simp; omega) | simp), (by repeat (first | exact Below.refl _ _ | assumption | (refine below_drewN ?_ _) | (refine Below.drew ?_) | (refine Below.alloc ?_ (by first | omega | (simp; omega) | simp) _) | (refine Below.setCell ?_ (by first | omega | (simp; omega) | simp) _) | (refine below_trans ?_ (by assumption) (by first | omega | (simp; omega) | simp))))⟩
              case measure => simp [intOf]; omega
            · have d2 : ((a : Int) != 0) = true := by rw [bne_iff_ne]; omega
              have hiff := hcase ha
              obtain ⟨bh, hbh, d3⟩ : ∃ bh : Bool, ((bh = true ∧ a ∈ gs) ∨ (bh = false ∧ ¬ a ∈ gs)) ∧ (bh == (y1 == 0)) = false := by
                by_cases hm : a ∈ gs
                · exact ⟨true, .inl ⟨rfl, hm⟩, by have : (y1 == 0) = false := beq_eq_false_iff_ne.2 (fun e => hiff.1 e hm); rw [this]; rfl⟩
                · exact ⟨false, .inr ⟨rfl, hm⟩, by have : (y1 == 0) = true := beq_iff_eq.2 (hiff.2 hm); rw [this]; rfl⟩
              have HHS := Lib.hid fun (w : World) hq => hasL_any (w := w) (G := G) (gs := gs) cg hq hgl a bh hbh
              have HB9 := Lib.hid d3
              clear hcase hiff hbh ha
              go_wp2_with fail
              go_at_call 9
              refine (HGT.out _ (hTr.later (by repeat (first | exact Below.refl _ _ | assumption | (refine below_drewN ?_ _) | (refine Below.drew ?_) | (refine Below.alloc ?_ (by first | omega | (simp; omega) | simp) _) | (refine Below.setCell ?_ (by first | omega | (simp; omega) | simp) _) | (refine below_trans ?_ (by assumption) (by first | omega | (simp; omega) | simp))))) (rrj.later (by repeat (first | exact Below.refl _ _ | assumption | (refine below_drewN ?_ _) | (refine Below.drew ?_) | (refine Below.alloc ?_ (by first | omega | (simp; omega) | simp) _) | (refine Below.setCell ?_ (by first | omega | (simp; omega) | simp) _) | (refine below_trans ?_ (by assumption) (by first | omega | (simp; omega) | simp)))))).mono ?_
              rintro e w8 ⟨rfl, hb_w8⟩
              obtain ⟨hc_w8, hf_w8⟩ := bcell hb_w8; have hs_w8 := hb_w8.size; (try simp only [World.size_alloc, World.size_setCell, World.size_drew, World.heap_drewN] at hs_w8)
              have k8 : Below wr.heap.size wr w8 := (by repeat (first | exact Below.refl _ _ | assumption | (refine below_drewN ?_ _) | (refine Below.drew ?_) | (refine Below.alloc ?_ (by first | omega | (simp; omega) | simp) _) | (refine Below.setCell ?_ (by first | omega | (simp; omega) | simp) _) | (refine below_trans ?_ (by assumption) (by first | omega | (simp; omega) | simp))))
              clear hc_w8 hf_w8
              go_wp2_with fail
              go_at_call 10
              refine (HHN.out _ ((wwj.later k8).later (by repeat (first | exact Below.refl _ _ | assumption | (refine below_drewN ?_ _) | (refine Below.drew ?_) | (refine Below.alloc ?_ (by first | omega | (simp; omega) | simp) _) | (refine Below.setCell ?_ (by first | omega | (simp; omega) | simp) _) | (refine below_trans ?_ (by assumption) (by first | omega | (simp; omega) | simp)))))).mono ?_
              rintro e w9 ⟨rfl, hb_w9⟩
              obtain ⟨hc_w9, hf_w9⟩ := bcell hb_w9; have hs_w9 := hb_w9.size; (try simp only [World.size_alloc, World.size_setCell, World.size_drew, World.heap_drewN] at hs_w9)
              have k9 : Below wr.heap.size wr w9 := below_trans k8 (show Below w8.heap.size w8 w9 from (by repeat (first | exact Below.refl _ _ | assumption | (refine below_drewN ?_ _) | (refine Below.drew ?_) | (refine Below.alloc ?_ (by first | omega | (simp; omega) | simp) _) | (refine Below.setCell ?_ (by first | omega | (simp; omega) | simp) _) | (refine below_trans ?_ (by assumption) (by first | omega | (simp; omega) | simp))))) (by first | omega | (simp; omega) | simp)
              clear hc_w9 hf_w9
              go_wp2_with fail
              go_at_call 11
              refine (HHS.out _ (((hq.later b_wr).later k9).later (by repeat (first | exact Below.refl _ _ | assumption | (refine below_drewN ?_ _) | (refine Below.drew ?_) | (refine Below.alloc ?_ (by first | omega | (simp; omega) | simp) _) | (refine Below.setCell ?_ (by first | omega | (simp; omega) | simp) _) | (refine below_trans ?_ (by assumption) (by first | omega | (simp; omega) | simp)))))).mono ?_
              rintro e w10 ⟨rfl, hb_w10⟩
              obtain ⟨hc_w10, hf_w10⟩ := bcell hb_w10; have hs_w10 := hb_w10.size; (try simp only [World.size_alloc, World.size_setCell, World.size_drew, World.heap_drewN] at hs_w10)
              have k10 : Below wr.heap.size wr w10 := below_trans k9 (show Below w9.heap.size w9 w10 from (by repeat (first | exact Below.refl _ _ | assumption | (refine below_drewN ?_ _) | (refine Below.drew ?_) | (refine Below.alloc ?_ (by first | omega | (simp; omega) | simp) _) | (refine Below.setCell ?_ (by first | omega | (simp; omega) | simp) _) | (refine below_trans ?_ (by assumption) (by first | omega | (simp; omega) | simp))))) (by first | omega | (simp; omega) | simp)
              clear hc_w10 hf_w10
              go_wp2
              go_roundw
              case rel => exact ⟨j + 1, by go_num, by omega, by omega, (by first | omega | (simp; omega) | simp), (by repeat (first | exact Below.refl _ _ | assumption | (refine below_drewN ?_ _) | (refine Below.drew ?_) | (refine Below.alloc ?_ (by first | omega | (simp; omega) | simp) _) | (refine Below.setCell ?_ (by first | omega | (simp; omega) | simp) _) | (refine below_trans ?_ (by assumption) (by first | omega | (simp; omega) | simp))))⟩
              case measure => simp [intOf]; omega
          · have hcj : (j = xs.length) ∨ (j < xs.length ∧ j = 25) := by omega
            clear hgo
            rcases hcj with hcj | ⟨hlt, hcj⟩
            · subst hcj
              go_wp2
              go_ret
              exact ⟨rfl, (by repeat (first | exact Below.refl _ _ | assumption | (refine below_drewN ?_ _) | (refine Below.drew ?_) | (refine Below.alloc ?_ (by first | omega | (simp; omega) | simp) _) | (refine Below.setCell ?_ (by first | omega | (simp; omega) | simp) _) | (refine below_trans ?_ (by assumption) (by first | omega | (simp; omega) | simp))))⟩
            · obtain ⟨b, off, hXA, hbb, hcc⟩ := (hx.later b_wr).cellAt (k := j) hlt
              subst hXA
              have i1 : (j : Int) < (xs.length : Int) := by omega
              have i2 : (0 : Int) ≤ (j : Int) := by omega
              have f25 : ((j : Int) == 25) = true := by rw [hcj]; rfl
              clear hcj
              go_wp2
              go_ret
              exact ⟨rfl, (by repeat (first | exact Below.refl _ _ | assumption | (refine below_drewN ?_ _) | (refine Below.drew ?_) | (refine Below.alloc ?_ (by first | omega | (simp; omega) | simp) _) | (refine Below.setCell ?_ (by first | omega | (simp; omega) | simp) _) | (refine below_trans ?_ (by assumption) (by first | omega | (simp; omega) | simp))))⟩
      · obtain ⟨b, off, hXA, hbb, hcc⟩ := (hx.later b_wr).cellAt (k := k) hlt
        subst hXA
        have i1 : (k : Int) < (xs.length : Int) := by omega
        have i2 : (0 : Int) ≤ (k : Int) := by omega
        have f25 : ((k : Int) == 25) = true := by rw [hcase]; rfl
        obtain ⟨K, hK, hK2⟩ : ∃ K, Hid (k = K) ∧ 25 ≤ K := ⟨_, Lib.hid rfl, by omega⟩
        rw [hK.out] at HASK
        clear hcase
        go_wp2_with fail
        go_at_call 7
        refine (HD.out _ (hTr.later (by repeat (first | exact Below.refl _ _ | assumption | (refine below_drewN ?_ _) | (refine Below.drew ?_) | (refine Below.alloc ?_ (by first | omega | (simp; omega) | simp) _) | (refine Below.setCell ?_ (by first | omega | (simp; omega) | simp) _) | (refine below_trans ?_ (by assumption) (by first | omega | (simp; omega) | simp))))) (er.later (by repeat (first | exact Below.refl _ _ | assumption | (refine below_drewN ?_ _) | (refine Below.drew ?_) | (refine Below.alloc ?_ (by first | omega | (simp; omega) | simp) _) | (refine Below.setCell ?_ (by first | omega | (simp; omega) | simp) _) | (refine below_trans ?_ (by assumption) (by first | omega | (simp; omega) | simp))))) hnil.out ((hq.later b_wr).later (by repeat (first | exact Below.refl _ _ | assumption | (refine below_drewN ?_ _) | (refine Below.drew ?_) | (refine Below.alloc ?_ (by first | omega | (simp; omega) | simp) _) | (refine Below.setCell ?_ (by first | omega | (simp; omega) | simp) _) | (refine below_trans ?_ (by assumption) (by first | omega | (simp; omega) | simp)))))).mono ?_
        rintro e w5 ⟨A2, c2, rfl, o2, hb_w5⟩
        obtain ⟨hc_w5, hf_w5⟩ := bcell hb_w5; have hs_w5 := hb_w5.size; (try simp only [World.size_alloc, World.size_setCell, World.size_drew, World.heap_drewN] at hs_w5)
        have P5 := (P.later hb_w5 : Bx w5 _ _)
        have W5o := wo.later (show Below wr.heap.size wr w5 from (by repeat (first | exact Below.refl _ _ | assumption | (refine below_drewN ?_ _) | (refine Below.drew ?_) | (refine Below.alloc ?_ (by first | omega | (simp; omega) | simp) _) | (refine Below.setCell ?_ (by first | omega | (simp; omega) | simp) _) | (refine below_trans ?_ (by assumption) (by first | omega | (simp; omega) | simp)))))
        have b5 : Below w.heap.size w w5 := below_trans b_wr (show Below wr.heap.size wr w5 from (by repeat (first | exact Below.refl _ _ | assumption | (refine below_drewN ?_ _) | (refine Below.drew ?_) | (refine Below.alloc ?_ (by first | omega | (simp; omega) | simp) _) | (refine Below.setCell ?_ (by first | omega | (simp; omega) | simp) _) | (refine below_trans ?_ (by assumption) (by first | omega | (simp; omega) | simp))))) (by first | omega | (simp; omega) | simp)
        have P6 := P5.set (.slice A2 r2.length c2)
        have o6 := ((o2.mono (B' := w1.heap.size + 1) (by omega)).far (p := ⟨w1.heap.size, 0, none⟩) (by show w1.heap.size < _; omega) (.slice A2 r2.length c2))
        have wo6 := W5o.far (p := ⟨w1.heap.size, 0, none⟩) (by show w1.heap.size < _; omega) (.slice A2 r2.length c2)
        have b6 : Below w.heap.size w (w5.setCell ⟨w1.heap.size, 0, none⟩ (.slice A2 r2.length c2)) := (by repeat (first | exact Below.refl _ _ | assumption | (refine below_drewN ?_ _) | (refine Below.drew ?_) | (refine Below.alloc ?_ (by first | omega | (simp; omega) | simp) _) | (refine Below.setCell ?_ (by first | omega | (simp; omega) | simp) _) | (refine below_trans ?_ (by assumption) (by first | omega | (simp; omega) | simp))))
        have hs6 : (w5.setCell ⟨w1.heap.size, 0, none⟩ (.slice A2 r2.length c2)).heap.size = w5.heap.size := by simp
        have hs56 := hs_w5
        have p5l := P5.lt
        obtain ⟨p50, p51⟩ := P5
        have n2 := Lib.hid o2.nil_
        have P6' := Lib.hid P6
        have O6 := Lib.hid o6
        have WO6 := Lib.hid wo6
        have WC6 := wo6.cap_
        have B6 := Lib.hid b6
        clear hc_w5 hf_w5 o2 p0 p1 P P6 o6 wo6 b6 W5o
        go_wp2_with fail
        go_at_call 8
        refine (HC.out _ (WO6.out.row.later (by repeat (first | exact Below.refl _ _ | assumption | (refine below_drewN ?_ _) | (refine Below.drew ?_) | (refine Below.alloc ?_ (by first | omega | (simp; omega) | simp) _) | (refine Below.setCell ?_ (by first | omega | (simp; omega) | simp) _) | (refine below_trans ?_ (by assumption) (by first | omega | (simp; omega) | simp))))) ((hq.later B6.out).later (by repeat (first | exact Below.refl _ _ | assumption | (refine below_drewN ?_ _) | (refine Below.drew ?_) | (refine Below.alloc ?_ (by first | omega | (simp; omega) | simp) _) | (refine Below.setCell ?_ (by first | omega | (simp; omega) | simp) _) | (refine below_trans ?_ (by assumption) (by first | omega | (simp; omega) | simp)))))).mono ?_
        rintro e w7 ⟨W2, cw2, C7, cc7, rfl, oc7, lc7, hl7, hb_w7⟩
        obtain ⟨hc_w7, hf_w7⟩ := bcell hb_w7; have hs_w7 := hb_w7.size; (try simp only [World.size_alloc, World.size_setCell, World.size_drew, World.heap_drewN] at hs_w7)
        have k7 : Below (w5.setCell ⟨w1.heap.size, 0, none⟩ (.slice A2 r2.length c2)).heap.size (w5.setCell ⟨w1.heap.size, 0, none⟩ (.slice A2 r2.length c2)) w7 := (by repeat (first | exact Below.refl _ _ | assumption | (refine below_drewN ?_ _) | (refine Below.drew ?_) | (refine Below.alloc ?_ (by first | omega | (simp; omega) | simp) _) | (refine Below.setCell ?_ (by first | omega | (simp; omega) | simp) _) | (refine below_trans ?_ (by assumption) (by first | omega | (simp; omega) | simp))))
        have PF := P6'.out.later k7
        have bF : Below w.heap.size w w7 := below_trans B6.out k7 (by simp; omega)
        have rF := (O6.out.later k7).row
        have hF := oc7.row
        have hcap2 := oc7.cap_
        have hsF := bF.size
        have d7 : ((ls.length : Int) != (ls.length : Int)) = false := by simp
        clear hc_w7 hf_w7 k7 P6' O6 WO6 B6 lc7 oc7 p50 p51 p5l hb_w5
        generalize w7 = wF at *
        go_wp2_with fail
        go_loopw [100] (fun ii wr => ∃ j : Nat, ii = .int .i64 (j : Nat) ∧ j ≤ xs.length ∧ j ≤ 25 ∧ wF.heap.size ≤ wr.heap.size ∧ Below wF.heap.size wF wr) (fun ii _ => xs.length - (intOf ii).toNat)
        case atStart => exact ⟨0, rfl, Nat.zero_le _, Nat.zero_le _, (by first | omega | (simp; omega) | simp), (by repeat (first | exact Below.refl _ _ | assumption | (refine below_drewN ?_ _) | (refine Below.drew ?_) | (refine Below.alloc ?_ (by first | omega | (simp; omega) | simp) _) | (refine Below.setCell ?_ (by first | omega | (simp; omega) | simp) _) | (refine below_trans ?_ (by assumption) (by first | omega | (simp; omega) | simp))))⟩
        case round =>
          obtain ⟨j, rfl, hj, hj25, hszj, hb_wr⟩ := hrel
          have hsr := hb_wr.size
          have b_wr : Below w.heap.size w wr := below_trans bF hb_wr (by first | omega | (simp; omega) | simp)
          have PJ := PF.later hb_wr
          obtain ⟨p0, p1⟩ := id PJ
          have hTr := hT.later b_wr
          have rrj := rF.later hb_wr
          have wwj := hF.later hb_wr
          by_cases hgo : j < xs.length ∧ j ≠ 25
          · obtain ⟨hlt, hne⟩ := hgo
            obtain ⟨b2, off2, hXB, hbb2, hcc⟩ := (hx.later b_wr).cellAt (k := j) hlt
            injection hXB with hXB; injection hXB with hb2 ho2; subst hb2 ho2
            have i1 : (j : Int) < (xs.length : Int) := by omega
            have i2 : (0 : Int) ≤ (j : Int) := by omega
            have f25 : ((j : Int) == 25) = false := by rw [beq_eq_false_iff_ne]; omega
            have hXW := HXW.out j hlt
            have hmem := mem_take_of hlt (by omega : j < K)
            generalize xs.getD j 0 = a at *
            obtain ⟨v9, y1, hG⟩ := GetT.ex r2 a
            obtain ⟨h9, y2, hH⟩ := HanE.ex u2 a
            obtain ⟨e12, hcase⟩ := HASK.out a v9 h9 y1 y2 hG hH hmem
            subst e12
            have HGT := Lib.hid fun (w : World) hT hr => eget_any (w := w) (A := A2) (l := r2) c2 hT hr (by omega) n2.out a v9 y1 hG
            have HHN := Lib.hid fun (w : World) hr => whan_any (w := w) (A := W2) (t := u2) cw2 hr hcap2 (by omega) a h9 y1 hH
            unfold eph at HGT
            have d1 : (y1 != y1) = false := by simp
            clear hG hH
            by_cases ha : a = 0
            · have d2 : ((a : Int) != 0) = false := by rw [ha]; rfl
              clear hcase
              have HA0 := Lib.hid ha
              clear ha
              go_wp2_with fail
              go_at_call 9
              refine (HGT.out _ (hTr.later (by repeat (first | exact Below.refl _ _ | assumption | (refine below_drewN ?_ _) | (refine Below.drew ?_) | (refine Below.alloc ?_ (by first | omega | (simp; omega) | simp) _) | (refine Below.setCell ?_ (by first | omega | (simp; omega) | simp) _) | (refine below_trans ?_ (by assumption) (by first | omega | (simp; omega) | simp))))) (rrj.later (by repeat (first | exact Below.refl _ _ | assumption | (refine below_drewN ?_ _) | (refine Below.drew ?_) | (refine Below.alloc ?_ (by first | omega | (simp; omega) | simp) _) | (refine Below.setCell ?_ (by first | omega | (simp; omega) | simp) _) | (refine below_trans ?_ (by assumption) (by first | omega | (simp; omega) | simp)))))).mono ?_
              rintro e w8 ⟨rfl, hb_w8⟩
              obtain ⟨hc_w8, hf_w8⟩ := bcell hb_w8; have hs_w8 := hb_w8.size; (try simp only [World.size_alloc, World.size_setCell, World.size_drew, World.heap_drewN] at hs_w8)
              have k8 : Below wr.heap.size wr w8 := (by repeat (first | exact Below.refl _ _ | assumption | (refine below_drewN ?_ _) | (refine Below.drew ?_) | (refine Below.alloc ?_ (by first | omega | (simp; omega) | simp) _) | (refine Below.setCell ?_ (by first | omega | (simp; omega) | simp) _) | (refine below_trans ?_ (by assumption) (by first | omega | (simp; omega) | simp))))
              clear hc_w8 hf_w8
              go_wp2_with fail
              go_at_call 10
              refine (HHN.out _ ((wwj.later k8).later (by repeat (first | exact Below.refl _ _ | assumption | (refine below_drewN ?_ _) | (refine Below.drew ?_) | (refine Below.alloc ?_ (by first | omega | (simp; omega) | simp) _) | (refine Below.setCell ?_ (by first | omega | (simp; omega) | simp) _) | (refine below_trans ?_ (by assumption) (by first | omega | (simp; omega) | simp)))))).mono ?_
              rintro e w9 ⟨rfl, hb_w9⟩
              obtain ⟨hc_w9, hf_w9⟩ := bcell hb_w9; have hs_w9 := hb_w9.size; (try simp only [World.size_alloc, World.size_setCell, World.size_drew, World.heap_drewN] at hs_w9)
              have k9 : Below wr.heap.size wr w9 := below_trans k8 (show Below w8.heap.size w8 w9 from (by repeat (first | exact Below.refl _ _ | assumption | (refine below_drewN ?_ _) | (refine Below.drew ?_) | (refine Below.alloc ?_ (by first | omega | (simp; omega) | simp) _) | (refine Below.setCell ?_ (by first | omega | (simp; omega) | simp) _) | (refine below_trans ?_ (by assumption) (by first | omega | (simp; omega) | simp))))) (by first | omega | (simp; omega) | simp)
              clear hc_w9 hf_w9
              go_wp2
              go_roundw
              case rel => exact ⟨j + 1, by go_num, by omega, by omega, (by first | omega | (simp; omega) | simp), (by repeat (first | exact Below.refl _ _ | assumption | (refine below_drewN ?_ _) | (refine Below.drew ?_) | (refine Below.alloc ?_ (by first | omega | (simp; omega) | simp) _) | (refine Below.setCell ?_ (by first | omega | (simp; omega) | simp) _) | (refine below_trans ?_ (by assumption) (by first | omega | (simp; omega) | simp))))⟩
              case measure => simp [intOf]; omega
            · have d2 : ((a : Int) != 0) = true := by rw [bne_iff_ne]; omega
              have hiff := hcase ha
              obtain ⟨bh, hbh, d3⟩ : ∃ bh : Bool, ((bh = true ∧ a ∈ gs) ∨ (bh = false ∧ ¬ a ∈ gs)) ∧ (bh == (y1 == 0)) = false := by
                by_cases hm : a ∈ gs
                · exact ⟨true, .inl ⟨rfl, hm⟩, by have : (y1 == 0) = false := beq_eq_false_iff_ne.2 (fun e => hiff.1 e hm); rw [this]; rfl⟩
                · exact ⟨false, .inr ⟨rfl, hm⟩, by have : (y1 == 0) = true := beq_iff_eq.2 (hiff.2 hm); rw [this]; rfl⟩
              have HHS := Lib.hid fun (w : World) hq => hasL_any (w := w) (G := G) (gs := gs) cg hq hgl a bh hbh
              have HB9 := Lib.hid d3
              clear hcase hiff hbh ha
              go_wp2_with fail
              go_at_call 9
              refine (HGT.out _ (hTr.later (by repeat (first | exact Below.refl _ _ | assumption | (refine below_drewN ?_ _) | (refine Below.drew ?_) | (refine Below.alloc ?_ (by first | omega | (simp; omega) | simp) _) | (refine Below.setCell ?_ (by first | omega | (simp; omega) | simp) _) | (refine below_trans ?_ (by assumption) (by first | omega | (simp; omega) | simp))))) (rrj.later (by repeat (first | exact Below.refl _ _ | assumption | (refine below_drewN ?_ _) | (refine Below.drew ?_) | (refine Below.alloc ?_ (by first | omega | (simp; omega) | simp) _) | (refine Below.setCell ?_ (by first | omega | (simp; omega) | simp) _) | (refine below_trans ?_ (by assumption) (by first | omega | (simp; omega) | simp)))))).mono ?_
              rintro e w8 ⟨rfl, hb_w8⟩
              obtain ⟨hc_w8, hf_w8⟩ := bcell hb_w8; have hs_w8 := hb_w8.size; (try simp only [World.size_alloc, World.size_setCell, World.size_drew, World.heap_drewN] at hs_w8)
              have k8 : Below wr.heap.size wr w8 := (by repeat (first | exact Below.refl _ _ | assumption | (refine below_drewN ?_ _) | (refine Below.drew ?_) | (refine Below.alloc ?_ (by first | omega | (simp; omega) | simp) _) | (refine Below.setCell ?_ (by first | omega | (simp; omega) | simp) _) | (refine below_trans ?_ (by assumption) (by first | omega | (simp; omega) | simp))))
              clear hc_w8 hf_w8
              go_wp2_with fail
              go_at_call 10
              refine (HHN.out _ ((wwj.later k8).later (by repeat (first | exact Below.refl _ _ | assumption | (refine below_drewN ?_ _) | (refine Below.drew ?_) | (refine Below.alloc ?_ (by first | omega | (simp; omega) | simp) _) | (refine Below.setCell ?_ (by first | omega | (simp; omega) | simp) _) | (refine below_trans ?_ (by assumption) (by first | omega | (simp; omega) | simp)))))).mono ?_
              rintro e w9 ⟨rfl, hb_w9⟩
              obtain ⟨hc_w9, hf_w9⟩ := bcell hb_w9; have hs_w9 := hb_w9.size; (try simp only [World.size_alloc, World.size_setCell, World.size_drew, World.heap_drewN] at hs_w9)
              have k9 : Below wr.heap.size wr w9 := below_trans k8 (show Below w8.heap.size w8 w9 from (by repeat (first | exact Below.refl _ _ | assumption | (refine below_drewN ?_ _) | (refine Below.drew ?_) | (refine Below.alloc ?_ (by first | omega | (simp; omega) | simp) _) | (refine Below.setCell ?_ (by first | omega | (simp; omega) | simp) _) | (refine below_trans ?_ (by assumption) (by first | omega | (simp; omega) | simp))))) (by first | omega | (simp; omega) | simp)
              clear hc_w9 hf_w9
              go_wp2_with fail
              go_at_call 11
              refine (HHS.out _ (((hq.later b_wr).later k9).later (by repeat (first | exact Below.refl _ _ | assumption | (refine below_drewN ?_ _) | (refine Below.drew ?_) | (refine Below.alloc ?_ (by first | omega | (simp; omega) | simp) _) | (refine Below.setCell ?_ (by first | omega | (simp; omega) | simp) _) | (refine below_trans ?_ (by assumption) (by first | omega | (simp; omega) | simp)))))).mono ?_
              rintro e w10 ⟨rfl, hb_w10⟩
              obtain ⟨hc_w10, hf_w10⟩ := bcell hb_w10; have hs_w10 := hb_w10.size; (try simp only [World.size_alloc, World.size_setCell, World.size_drew, World.heap_drewN] at hs_w10)
              have k10 : Below wr.heap.size wr w10 := below_trans k9 (show Below w9.heap.size w9 w10 from (by repeat (first | exact Below.refl _ _ | assumption | (refine below_drewN ?_ _) | (refine Below.drew ?_) | (refine Below.alloc ?_ (by first | omega | (simp; omega) | simp) _) | (refine Below.setCell ?_ (by first | omega | (simp; omega) | simp) _) | (refine below_trans ?_ (by assumption) (by first | omega | (simp; omega) | simp))))) (by first | omega | (simp; omega) | simp)
              clear hc_w10 hf_w10
              go_wp2
              go_roundw
              case rel => exact ⟨j + 1, by go_num, by omega, by omega, (by first | omega | (simp; omega) | simp), (by repeat (first | exact Below.refl _ _ | assumption | (refine below_drewN ?_ _) | (refine Below.drew ?_) | (refine Below.alloc ?_ (by first | omega | (simp; omega) | simp) _) | (refine Below.setCell ?_ (by first | omega | (simp; omega) | simp) _) | (refine below_trans ?_ (by assumption) (by first | omega | (simp; omega) | simp))))⟩
              case measure => simp [intOf]; omega
          · have hcj : (j = xs.length) ∨ (j < xs.length ∧ j = 25) := by omega
            clear hgo
            rcases hcj with hcj | ⟨hlt, hcj⟩
            · subst hcj
              go_wp2
              go_ret
              exact ⟨rfl, (by repeat (first | exact Below.refl _ _ | assumption | (refine below_drewN ?_ _) | (refine Below.drew ?_) | (refine Below.alloc ?_ (by first | omega | (simp; omega) | simp) _) | (refine Below.setCell ?_ (by first | omega | (simp; omega) | simp) _) | (refine below_trans ?_ (by assumption) (by first | omega | (simp; omega) | simp))))⟩
            · obtain ⟨b2, off2, hXB, hbb2, hcc⟩ := (hx.later b_wr).cellAt (k := j) hlt
              injection hXB with hXB; injection hXB with hb2 ho2; subst hb2 ho2
              have i1 : (j : Int) < (xs.length : Int) := by omega
              have i2 : (0 : Int) ≤ (j : Int) := by omega
              have f25 : ((j : Int) == 25) = true := by rw [hcj]; rfl
              clear hcj
              go_wp2
              go_ret
              exact ⟨rfl, (by repeat (first | exact Below.refl _ _ | assumption | (refine below_drewN ?_ _) | (refine Below.drew ?_) | (refine Below.alloc ?_ (by first | omega | (simp; omega) | simp) _) | (refine Below.setCell ?_ (by first | omega | (simp; omega) | simp) _) | (refine below_trans ?_ (by assumption) (by first | omega | (simp; omega) | simp))))⟩
end Go.Proofs.YtdeopodfpeeenaaDoor
