/- Contract of the document's own Put for tables: none is made. -/
import Derived.Test.YtloemeinpknamaaDoorY15
namespace Go.Proofs.YtloemeinpknamaaDoor
open Go.RowKit
set_option linter.unusedVariables false
set_option linter.unusedSimpArgs false

section
variable {w : World} {A : Option Addr} {l : List Es} (cap : Nat)
set_option maxHeartbeats 4000000 in
set_option maxRecDepth 100000 in
theorem exput_full (hr : ERow w w.heap.size A l) (hl : l.length ≤ 5864062014805) (key val : Nat) (hkey : key < W64) (hval : val < W64) (hok : OkT l) (h0 : key ≠ 0) (hf : ¬ fd l key < l.length) (hacc : ¬ AccE l key) (hn : 64 < szN (us l).length) :
    Calls Tryd.prog 12 #[eph A l.length cap, .int .u64 (key : Nat), .int .u64 (val : Nat)] w fun e w' => PutR w l 6 e w' := by
  unfold PutR
  have HCP := Lib.hid fun (w : World) hr => excopy_any (w := w) (A := A) (l := l) cap hr hl
  have HCP2 := Lib.hid fun (w : World) (A : Option Addr) (cap : Nat) hr => excopy_any (w := w) (A := A) (l := l) cap hr hl
  unfold CopR at HCP HCP2
  · have HV := Lib.hid fun (w : World) hr => excheck_any (w := w) (A := A) (l := l) cap hr hl 0 (.inl ⟨hok, rfl⟩)
    have HF := Lib.hid fun (w : World) (A : Option Addr) (cap : Nat) hr => exfind_any (w := w) (A := A) (l := l) cap key hr hl
    rw [← hok.same, toI_no hf] at HF
    have f1 : ((key : Int) == 0) = false := by rw [beq_eq_false_iff_ne]; omega
    have hn0 : 0 < l.length := by
      refine Classical.byContradiction fun h9 => ?_
      have := useds_le l
      rw [us_len, show useds l = 0 by omega] at hn
      exact absurd hn (by decide)
    have hz := hok.z.resolve_left (by omega)
    have hop := hok.op (by omega)
    have h9 : ¬ l.length ≤ 4 * frees (lay l key val) := fun h => hacc ⟨(pl_spec hz hop key).1, by rw [frees_lay2 l key 0 val]; exact h⟩
    have HMU := Lib.hid fun (w : World) (A : Option Addr) (cap : Nat) hr => exmany_any (w := w) (A := A) (l := l) cap 1 hr hl
    change Hid (∀ (w : World) (A : Option Addr) (cap : Nat) (hr : ERow w w.heap.size A l), Calls Tryd.prog 34 #[eph A l.length cap, .int .u8 1] w fun e w' => e = .returned (.int .i64 (useds l : Nat)) ∧ Below w.heap.size w w') at HMU
    rw [← us_len] at HMU
    have hu := hok.us48
    have HS := Lib.hid fun m => szN_step (m := m) (u := (us l).length)
    have HX := Lib.hid fun m => szN_stop (m := m) (u := (us l).length)
    have HLO := Lib.hid (szN_lo (us l).length)
    have HLL := Lib.hid (lay_len l key val)
    have HLY := Lib.hid fun (w : World) (g cap : Nat) ho => exlay_any (w := w) (l := l) cap (B := g) (g := g) key val hkey hval ho hz hop
    unfold LayR at HLY
    have HMF := Lib.hid fun (w : World) (A : Option Addr) (cap : Nat) hr => exmany_any (w := w) (A := A) (l := lay l key val) cap 0 hr (by rw [lay_len]; exact hl)
    change Hid (∀ (w : World) (A : Option Addr) (cap : Nat) (hr : ERow w w.heap.size A (lay l key val)), Calls Tryd.prog 34 #[eph A (lay l key val).length cap, .int .u8 0] w fun e w' => e = .returned (.int .i64 (frees (lay l key val) : Nat)) ∧ Below w.heap.size w w') at HMF
    have hfl := frees_le (lay l key val)
    rw [HLL.out] at HMF hfl
    have hl64 := hz.le
    have g1 : decide ((0 : Int) < (l.length : Int)) = true := decide_eq_true (by omega)
    have g1' : decide (0 < l.length) = true := decide_eq_true (by omega)
    have g2 : decide ((l.length : Int) ≤ 4 * ((frees (lay l key val) : Nat) : Int)) = false := decide_eq_false (by omega)
    generalize lay l key val = r at *
    generalize frees r = fr at *
    generalize (us l).length = u at *
    have HN := Lib.hid hn
    have hu : u ≤ 63 := by omega
    clear hok h0 hf hacc hz hop h9 hn
    unfold eph at *
    go_enter Tryd.func12, Tryd.ntmps12
    go_wp2_with fail
    go_at_call 25
    refine (HV.out _ (hr.later (by repeat (first | exact Below.refl _ _ | assumption | (refine below_drewN ?_ _) | (refine Below.drew ?_) | (refine Below.alloc ?_ (by first | omega | (simp; omega) | simp) _) | (refine Below.setCell ?_ (by first | omega | (simp; omega) | simp) _) | (refine below_trans ?_ (by assumption) (by first | omega | (simp; omega) | simp)))))).mono ?_
    rintro e w1 ⟨rfl, hb_w1⟩
    obtain ⟨hc_w1, hf_w1⟩ := bcell hb_w1; have hz_w1_w_0 : w.heap.size < w1.heap.size := (by have hzz := hb_w1.size; (try simp only [World.size_alloc, World.size_setCell, World.size_drew, World.heap_drewN] at hzz); omega); have hz_w1_w_1 : w.heap.size + 1 < w1.heap.size := (by have hzz := hb_w1.size; (try simp only [World.size_alloc, World.size_setCell, World.size_drew, World.heap_drewN] at hzz); omega); have hs_w1 := hb_w1.size; (try simp only [World.size_alloc, World.size_setCell, World.size_drew, World.heap_drewN] at hs_w1)
    have b1 : Below w.heap.size w w1 := (by repeat (first | exact Below.refl _ _ | assumption | (refine below_drewN ?_ _) | (refine Below.drew ?_) | (refine Below.alloc ?_ (by first | omega | (simp; omega) | simp) _) | (refine Below.setCell ?_ (by first | omega | (simp; omega) | simp) _) | (refine below_trans ?_ (by assumption) (by first | omega | (simp; omega) | simp))))
    have P := (((Bx.new w _ _).alloc _).later hb_w1 : Bx w1 _ _)
    have Q := ((Bx.new (w.alloc _) _ _).later hb_w1 : Bx w1 _ _)
    simp only [World.size_alloc] at P Q
    obtain ⟨p0, p1⟩ := P
    clear hc_w1 hf_w1
    go_wp2_with fail
    go_at_call 10
    refine (HCP.out _ ((hr.later b1).later (by repeat (first | exact Below.refl _ _ | assumption | (refine below_drewN ?_ _) | (refine Below.drew ?_) | (refine Below.alloc ?_ (by first | omega | (simp; omega) | simp) _) | (refine Below.setCell ?_ (by first | omega | (simp; omega) | simp) _) | (refine below_trans ?_ (by assumption) (by first | omega | (simp; omega) | simp)))))).mono ?_
    rintro e w2 ⟨B2, c2, rfl, o2, hb_w2⟩
    obtain ⟨hc_w2, hf_w2⟩ := bcell hb_w2; have hz_w2_w_0 : w.heap.size < w2.heap.size := (by have hzz := hb_w2.size; (try simp only [World.size_alloc, World.size_setCell, World.size_drew, World.heap_drewN] at hzz); omega); have hz_w2_w_1 : w.heap.size + 1 < w2.heap.size := (by have hzz := hb_w2.size; (try simp only [World.size_alloc, World.size_setCell, World.size_drew, World.heap_drewN] at hzz); omega); have hs_w2 := hb_w2.size; (try simp only [World.size_alloc, World.size_setCell, World.size_drew, World.heap_drewN] at hs_w2)
    have b2 : Below w.heap.size w w2 := (by repeat (first | exact Below.refl _ _ | assumption | (refine below_drewN ?_ _) | (refine Below.drew ?_) | (refine Below.alloc ?_ (by first | omega | (simp; omega) | simp) _) | (refine Below.setCell ?_ (by first | omega | (simp; omega) | simp) _) | (refine below_trans ?_ (by assumption) (by first | omega | (simp; omega) | simp))))
    have P := ((Bx.mk p0 p1).later hb_w2 : Bx w2 _ _)
    have Q := (Q.later hb_w2 : Bx w2 _ _)
    clear hc_w2 hf_w2 p0 p1
    have P' := P.set (.slice B2 l.length c2)
    have Q' := Q.far (p := ⟨w.heap.size, 0, none⟩) (by show w.heap.size ≠ _; omega) (.slice B2 l.length c2)
    have o2' := o2.far (p := ⟨w.heap.size, 0, none⟩) (by show w.heap.size < _; omega) (.slice B2 l.length c2)
    obtain ⟨p0, p1⟩ := P
    clear Q o2
    go_wp2_with fail
    go_at_call 32
    refine (HF.out _ _ _ (o2'.row.later (by repeat (first | exact Below.refl _ _ | assumption | (refine below_drewN ?_ _) | (refine Below.drew ?_) | (refine Below.alloc ?_ (by first | omega | (simp; omega) | simp) _) | (refine Below.setCell ?_ (by first | omega | (simp; omega) | simp) _) | (refine below_trans ?_ (by assumption) (by first | omega | (simp; omega) | simp)))))).mono ?_
    rintro e w3 ⟨rfl, hb_w3⟩
    obtain ⟨hc_w3, hf_w3⟩ := bcell hb_w3; have hz_w3_w_0 : w.heap.size < w3.heap.size := (by have hzz := hb_w3.size; (try simp only [World.size_alloc, World.size_setCell, World.size_drew, World.heap_drewN] at hzz); omega); have hz_w3_w_1 : w.heap.size + 1 < w3.heap.size := (by have hzz := hb_w3.size; (try simp only [World.size_alloc, World.size_setCell, World.size_drew, World.heap_drewN] at hzz); omega); have hs_w3 := hb_w3.size; (try simp only [World.size_alloc, World.size_setCell, World.size_drew, World.heap_drewN] at hs_w3)
    have b3 : Below w.heap.size w w3 := (by repeat (first | exact Below.refl _ _ | assumption | (refine below_drewN ?_ _) | (refine Below.drew ?_) | (refine Below.alloc ?_ (by first | omega | (simp; omega) | simp) _) | (refine Below.setCell ?_ (by first | omega | (simp; omega) | simp) _) | (refine below_trans ?_ (by assumption) (by first | omega | (simp; omega) | simp))))
    have P := (P'.later hb_w3 : Bx w3 _ _)
    have Q := (Q'.later hb_w3 : Bx w3 _ _)
    have o3 := o2'.later hb_w3
    clear hc_w3 hf_w3 P' Q' o2' p0 p1
    have o3s := o3
    obtain ⟨p0, p1⟩ := P
    go_wp2_with fail
    go_at_call 10
    refine (HCP2.out _ _ _ (o3.row.later (by repeat (first | exact Below.refl _ _ | assumption | (refine below_drewN ?_ _) | (refine Below.drew ?_) | (refine Below.alloc ?_ (by first | omega | (simp; omega) | simp) _) | (refine Below.setCell ?_ (by first | omega | (simp; omega) | simp) _) | (refine below_trans ?_ (by assumption) (by first | omega | (simp; omega) | simp)))))).mono ?_
    rintro e w4 ⟨B4, c4, rfl, o4, hb_w4⟩
    obtain ⟨hc_w4, hf_w4⟩ := bcell hb_w4; have hz_w4_w_0 : w.heap.size < w4.heap.size := (by have hzz := hb_w4.size; (try simp only [World.size_alloc, World.size_setCell, World.size_drew, World.heap_drewN] at hzz); omega); have hz_w4_w_1 : w.heap.size + 1 < w4.heap.size := (by have hzz := hb_w4.size; (try simp only [World.size_alloc, World.size_setCell, World.size_drew, World.heap_drewN] at hzz); omega); have hs_w4 := hb_w4.size; (try simp only [World.size_alloc, World.size_setCell, World.size_drew, World.heap_drewN] at hs_w4)
    have b4 : Below w.heap.size w w4 := (by repeat (first | exact Below.refl _ _ | assumption | (refine below_drewN ?_ _) | (refine Below.drew ?_) | (refine Below.alloc ?_ (by first | omega | (simp; omega) | simp) _) | (refine Below.setCell ?_ (by first | omega | (simp; omega) | simp) _) | (refine below_trans ?_ (by assumption) (by first | omega | (simp; omega) | simp))))
    have P := ((Bx.mk p0 p1).later hb_w4 : Bx w4 _ _)
    have Q := (Q.later hb_w4 : Bx w4 _ _)
    have o3 := o3.later hb_w4
    clear hc_w4 hf_w4 p0 p1
    obtain ⟨g, rfl, hgB, hgl, _⟩ := o4.own.at_ (by omega)
    have o4g : EOwn w4 g (some ⟨g, 0, none⟩) l := ⟨o4.own.wd, fun h => by
      obtain ⟨g', e, h1, h2⟩ := o4.own.at_ h
      injection e with e
      injection e with e
      exact ⟨g, rfl, Nat.le_refl _, by rw [e]; exact h2⟩⟩
    have h23 : w1.heap.size ≤ w3.heap.size := by omega
    have hB2 : ∀ gb, B2 = some ⟨gb, 0, none⟩ → gb < w3.heap.size := fun gb e => by
      obtain ⟨g', e', _, h2, _⟩ := o3s.own.at_ (by omega)
      rw [e] at e'
      injection e' with e'
      injection e' with e'
      omega
    go_wp2_with fail
    go_at_call 33
    refine (HLY.out _ g c4 (o4g.later (by repeat (first | exact Below.refl _ _ | assumption | (refine below_drewN ?_ _) | (refine Below.drew ?_) | (refine Below.alloc ?_ (by first | omega | (simp; omega) | simp) _) | (refine Below.setCell ?_ (by first | omega | (simp; omega) | simp) _) | (refine below_trans ?_ (by assumption) (by first | omega | (simp; omega) | simp)))))).mono ?_
    rintro e w5 ⟨rfl, hg5, eo5⟩
    have hs5 := hg5.size
    have b5 : Below w.heap.size w w5 := Below.grown b4 hg5 (by omega) (fun j hj => by injection hj with hj; omega)
    have b35 : Below w3.heap.size w3 w5 := Below.grown (show Below w3.heap.size w3 w4 from (by repeat (first | exact Below.refl _ _ | assumption | (refine below_drewN ?_ _) | (refine Below.drew ?_) | (refine Below.alloc ?_ (by first | omega | (simp; omega) | simp) _) | (refine Below.setCell ?_ (by first | omega | (simp; omega) | simp) _) | (refine below_trans ?_ (by assumption) (by first | omega | (simp; omega) | simp))))) hg5 (by omega) (fun j hj => by injection hj with hj; omega)
    have P := Bx.grown P hg5 (by omega)
    have Q := Bx.grown Q hg5 (by omega)
    have o5 := o3s.later b35
    have eo5' := Lib.hid (eo5.later ((Below.refl _ _).alloc (Nat.le_refl _) (.cells #[.slice (some ⟨g, 0, none⟩) l.length c4] 24)))
    have P5 := P.alloc (.cells #[.slice (some ⟨g, 0, none⟩) l.length c4] 24)
    have Q5 := Q.alloc (.cells #[.slice (some ⟨g, 0, none⟩) l.length c4] 24)
    have X5 := Bx.new w5 (.slice (some ⟨g, 0, none⟩) l.length c4) 24
    clear hg5 P Q
    go_wp2_with fail
    go_at_call 34
    refine (HMF.out _ _ _ (eo5'.out.row.later (by repeat (first | exact Below.refl _ _ | assumption | (refine below_drewN ?_ _) | (refine Below.drew ?_) | (refine Below.alloc ?_ (by first | omega | (simp; omega) | simp) _) | (refine Below.setCell ?_ (by first | omega | (simp; omega) | simp) _) | (refine below_trans ?_ (by assumption) (by first | omega | (simp; omega) | simp)))))).mono ?_
    rintro e w6 ⟨rfl, hb_w6⟩
    obtain ⟨hc_w6, hf_w6⟩ := bcell hb_w6; have hz_w6_w5_0 : w5.heap.size < w6.heap.size := (by have hzz := hb_w6.size; (try simp only [World.size_alloc, World.size_setCell, World.size_drew, World.heap_drewN] at hzz); omega); have hs_w6 := hb_w6.size; (try simp only [World.size_alloc, World.size_setCell, World.size_drew, World.heap_drewN] at hs_w6)
    have b6 : Below w.heap.size w w6 := (by repeat (first | exact Below.refl _ _ | assumption | (refine below_drewN ?_ _) | (refine Below.drew ?_) | (refine Below.alloc ?_ (by first | omega | (simp; omega) | simp) _) | (refine Below.setCell ?_ (by first | omega | (simp; omega) | simp) _) | (refine below_trans ?_ (by assumption) (by first | omega | (simp; omega) | simp))))
    have P := (P5.later hb_w6 : Bx w6 _ _)
    have Q := (Q5.later hb_w6 : Bx w6 _ _)
    obtain ⟨x0, x1⟩ := (X5.later hb_w6 : Bx w6 _ _)
    have o6 := (o5.later ((Below.refl _ _).alloc (Nat.le_refl _) _)).later hb_w6
    have eo6 := Lib.hid (eo5'.out.later hb_w6)
    clear hc_w6 hf_w6 P5 Q5 X5 o5
    have PX := Lib.hid P
    have QX := Lib.hid Q
    have OX := Lib.hid o6
    clear P Q o6
    go_wp2_with fail
    go_loopw [11] (fun mm wr => ∃ m : Nat, mm = .int .i64 (m : Nat) ∧ Hid (Sz2 m) ∧ m ≤ 128 ∧ Hid (m ≤ szN u) ∧ Bx wr w.heap.size (.slice B2 l.length c2) ∧ Bx wr (w.heap.size + 1) (.slice none 0 0) ∧ ETab wr w1.heap.size B2 c2 l ∧ w1.heap.size ≤ wr.heap.size ∧ Below w.heap.size w wr) (fun mm _ => 128 - (intOf mm).toNat)
    case atStart => exact ⟨8, rfl, Lib.hid (.inl rfl), by omega, HLO, PX.out, QX.out, OX.out, (by first | omega | (simp; omega) | simp), (by repeat (first | exact Below.refl _ _ | assumption | (refine below_drewN ?_ _) | (refine Below.drew ?_) | (refine Below.alloc ?_ (by first | omega | (simp; omega) | simp) _) | (refine Below.setCell ?_ (by first | omega | (simp; omega) | simp) _) | (refine below_trans ?_ (by assumption) (by first | omega | (simp; omega) | simp))))⟩
    case round =>
      clear PX QX OX
      obtain ⟨m, rfl, h1, h2, h3, P, Q, ot, hsz, hb_wr⟩ := hrel
      have hsr := hb_wr.size
      obtain ⟨p0, p1⟩ := P
      by_cases hm : m < 2 * (u + 1)
      · obtain ⟨g1, g2⟩ := HS.out m h1.out h3.out hu hm
        have G1 := Lib.hid g1
        have G2 := Lib.hid g2
        have g3 : m * 2 ≤ 128 := by unfold Sz2 at g1; omega
        have g4 : 0 < m := by have := h1.out; unfold Sz2 at this; omega
        have f7 : decide ((m : Int) < 2 * ((u : Int) + 1)) = true := decide_eq_true (by omega)
        clear g1 g2 hm
        go_wp2_with fail
        go_at_call 34
        refine (HMU.out _ _ _ (ot.row.later (by repeat (first | exact Below.refl _ _ | assumption | (refine below_drewN ?_ _) | (refine Below.drew ?_) | (refine Below.alloc ?_ (by first | omega | (simp; omega) | simp) _) | (refine Below.setCell ?_ (by first | omega | (simp; omega) | simp) _) | (refine below_trans ?_ (by assumption) (by first | omega | (simp; omega) | simp)))))).mono ?_
        rintro e w7 ⟨rfl, hb_w7⟩
        obtain ⟨hc_w7, hf_w7⟩ := bcell hb_w7; have hs_w7 := hb_w7.size; (try simp only [World.size_alloc, World.size_setCell, World.size_drew, World.heap_drewN] at hs_w7)
        have P7 := Lib.hid ((Bx.mk p0 p1).later hb_w7 : Bx w7 _ _)
        have Q7 := Lib.hid (Q.later hb_w7 : Bx w7 _ _)
        have o7 := Lib.hid (ot.later hb_w7)
        clear hc_w7 hf_w7
        go_wp2
        go_roundw
        case rel => exact ⟨m * 2, by go_num, G1, g3, G2, P7.out, Q7.out, o7.out, (by first | omega | (simp; omega) | simp), (by repeat (first | exact Below.refl _ _ | assumption | (refine below_drewN ?_ _) | (refine Below.drew ?_) | (refine Below.alloc ?_ (by first | omega | (simp; omega) | simp) _) | (refine Below.setCell ?_ (by first | omega | (simp; omega) | simp) _) | (refine below_trans ?_ (by assumption) (by first | omega | (simp; omega) | simp))))⟩
        case measure => simp [intOf]; omega
      · have e9 := HX.out m h1.out h3.out hm
        have f7 : decide ((m : Int) < 2 * ((u : Int) + 1)) = false := decide_eq_false (by omega)
        have f8 : decide ((64 : Int) < (m : Int)) = true := decide_eq_true (by have := HN.out; omega)
        have E9 := Lib.hid e9
        clear hm e9
        go_wp2_with fail
        go_at_call 34
        refine (HMU.out _ _ _ (ot.row.later (by repeat (first | exact Below.refl _ _ | assumption | (refine below_drewN ?_ _) | (refine Below.drew ?_) | (refine Below.alloc ?_ (by first | omega | (simp; omega) | simp) _) | (refine Below.setCell ?_ (by first | omega | (simp; omega) | simp) _) | (refine below_trans ?_ (by assumption) (by first | omega | (simp; omega) | simp)))))).mono ?_
        rintro e w7 ⟨rfl, hb_w7⟩
        obtain ⟨hc_w7, hf_w7⟩ := bcell hb_w7; have hs_w7 := hb_w7.size; (try simp only [World.size_alloc, World.size_setCell, World.size_drew, World.heap_drewN] at hs_w7)
        have P := ((Bx.mk p0 p1).later hb_w7 : Bx w7 _ _)
        have Q := (Q.later hb_w7 : Bx w7 _ _)
        have o7 := ot.later hb_w7
        have b7 : Below w.heap.size w w7 := (by repeat (first | exact Below.refl _ _ | assumption | (refine below_drewN ?_ _) | (refine Below.drew ?_) | (refine Below.alloc ?_ (by first | omega | (simp; omega) | simp) _) | (refine Below.setCell ?_ (by first | omega | (simp; omega) | simp) _) | (refine below_trans ?_ (by assumption) (by first | omega | (simp; omega) | simp))))
        clear hc_w7 hf_w7 p0 p1
        have n5 : ¬ (w.heap.size + 1 = w.heap.size) := by omega
        obtain ⟨p0, p1⟩ := P
        obtain ⟨q0, q1⟩ := Q
        go_wp2
        exact bodyPost_ret (res_p2 rfl rfl (g := w.heap.size + 1) (v0 := .slice B2 l.length c2) (by first | exact World.cell?_setCell_same _ _ _ q0 | exact World.cell?_setCell_same _ _ _ (by first | exact q0 | (exact (World.cell?_alloc_lt _ _ ⟨_, _, _⟩ (by first | omega | (simp; omega) | simp)).trans q0) | (exact (World.cell?_alloc_lt _ _ ⟨_, _, _⟩ (by first | omega | (simp; omega) | simp)).trans ((World.cell?_alloc_lt _ _ ⟨_, _, _⟩ (by first | omega | (simp; omega) | simp)).trans q0)) | (simp [go_sem, q0]; done)) | exact (World.cell?_alloc_lt _ _ ⟨_, _, _⟩ (by first | omega | (simp; omega) | simp)).trans (World.cell?_setCell_same _ _ _ q0) | (simp [go_sem, q0]; done))) rfl ⟨B2, c2, rfl, (o7.far (by show w.heap.size + 1 < _; omega) _).mono (by omega), (by repeat (first | exact Below.refl _ _ | assumption | (refine below_drewN ?_ _) | (refine Below.drew ?_) | (refine Below.alloc ?_ (by first | omega | (simp; omega) | simp) _) | (refine Below.setCell ?_ (by first | omega | (simp; omega) | simp) _) | (refine below_trans ?_ (by assumption) (by first | omega | (simp; omega) | simp))))⟩
end
end Go.Proofs.YtloemeinpknamaaDoor
