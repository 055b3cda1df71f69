/- Contract of the document's own Put for tables: a table is made anew. -/
import Derived.Test.YtloemeinpknamaaDoorY15b
namespace Go.Proofs.YtloemeinpknamaaDoor
open Go.RowKit
set_option linter.unusedVariables false
set_option linter.unusedSimpArgs false

theorem us_snoc (l : List Es) (k : Nat) (h : k < l.length) : us (l.take (k + 1)) = us (l.take k) ++ if (nthE l k).s = 1 then [nthE l k] else [] := filt_take l k h
theorem us_at {l : List Es} {k : Nat} (h : k < l.length) (hs : (nthE l k).s = 1) : (us (l.take k)).length < (us l).length ∧ nthE (us l) (us (l.take k)).length = nthE l k := by
  have e : us l = us (l.take k) ++ us (l.drop k) := by unfold us; rw [← List.filter_append, List.take_append_drop]
  have e2 : us (l.drop k) = nthE l k :: us (l.drop (k + 1)) := by
    unfold us
    rw [nthE_get l k h, List.drop_eq_getElem_cons h, List.filter_cons_of_pos]
    rw [nthE_get l k h] at hs
    simpa using hs
  constructor
  · rw [e, e2]; simp
  · rw [e, e2]
    unfold nthE
    simp
def rebS (l : List Es) (n k : Nat) : List Es := rebK l n (us (l.take k)).length
theorem rebS_yes {l : List Es} (n k : Nat) (h : k < l.length) (hs : (nthE l k).s = 1) : rebS l n (k + 1) = lay (rebS l n k) (nthE l k).k (nthE l k).v := by
  unfold rebS
  obtain ⟨h1, h2⟩ := us_at h hs
  rw [us_snoc l k h, if_pos hs, List.length_append]
  show rebK l n ((us (l.take k)).length + 1) = _
  rw [rebK_succ l n _ h1, h2]
theorem rebS_no {l : List Es} (n k : Nat) (h : k < l.length) (hs : (nthE l k).s ≠ 1) : rebS l n (k + 1) = rebS l n k := by
  unfold rebS
  rw [us_snoc l k h, if_neg hs, List.append_nil]
section
variable {w : World} {A : Option Addr} {l : List Es} (cap : Nat)
set_option maxHeartbeats 8000000 in
set_option maxRecDepth 100000 in
theorem exput_reb (hr : ERow w w.heap.size A l) (hl : l.length ≤ 5864062014805) (key val : Nat) (hkey : key < W64) (hval : val < W64) (hok : OkT l) (h0 : key ≠ 0) (hf : ¬ fd l key < l.length) (hacc : ¬ AccE l key) (hn : szN (us l).length ≤ 64) :
    Calls Tryd.prog 12 #[eph A l.length cap, .int .u64 (key : Nat), .int .u64 (val : Nat)] w fun e w' => PutR w (lay (reb l (szN (us l).length)) key val) 0 e w' := by
  unfold PutR
  have HCP := Lib.hid fun (w : World) hr => excopy_any (w := w) (A := A) (l := l) cap hr hl
  have HCP2 := Lib.hid fun (w : World) (A : Option Addr) (cap : Nat) hr => excopy_any (w := w) (A := A) (l := l) cap hr hl
  unfold CopR at HCP HCP2
  have HV := Lib.hid fun (w : World) hr => excheck_any (w := w) (A := A) (l := l) cap hr hl 0 (.inl ⟨hok, rfl⟩)
  have HF := Lib.hid fun (w : World) (A : Option Addr) (cap : Nat) hr => exfind_any (w := w) (A := A) (l := l) cap key hr hl
  rw [← hok.same, toI_no hf] at HF
  have f1 : ((key : Int) == 0) = false := by rw [beq_eq_false_iff_ne]; omega
  have HMU := Lib.hid fun (w : World) (A : Option Addr) (cap : Nat) hr => exmany_any (w := w) (A := A) (l := l) cap 1 hr hl
  change Hid (∀ (w : World) (A : Option Addr) (cap : Nat) (hr : ERow w w.heap.size A l), Calls Tryd.prog 34 #[eph A l.length cap, .int .u8 1] w fun e w' => e = .returned (.int .i64 (useds l : Nat)) ∧ Below w.heap.size w w') at HMU
  rw [← us_len] at HMU
  have hu := hok.us48
  have HS := Lib.hid fun m => szN_step (m := m) (u := (us l).length)
  have HX := Lib.hid fun m => szN_stop (m := m) (u := (us l).length)
  have HLO := Lib.hid (szN_lo (us l).length)
  have hgd := hok.gd
  have h2u := szN_u hn
  have hzz := szN_sz hn
  obtain ⟨RS, hRS⟩ : ∃ RS : Nat → Nat → List Es, RS = fun N k => rebS l N k := ⟨_, rfl⟩
  obtain ⟨RR, hRR⟩ : ∃ RR : Nat → List Es, RR = fun N => reb l N := ⟨_, rfl⟩
  have hinv : ∀ k, k ≤ (us l).length → useds (rebK l (szN (us l).length) k) = k := fun k hk => by
    by_cases hu0 : 0 < (us l).length
    · exact (rebK_inv (hgd hu0) hzz (by omega) k hk).2.1
    · obtain rfl : k = 0 := by omega
      exact useds_rep _
  have HR0 : Hid (RS (szN (us l).length) 0 = List.replicate (szN (us l).length) es0) := Lib.hid (by rw [hRS]; rfl)
  have HRF : Hid (∀ k, (RS (szN (us l).length) k).length = szN (us l).length) := Lib.hid fun k => by rw [hRS]; exact rebK_len _ _ _
  have HRA : Hid (RS (szN (us l).length) l.length = RR (szN (us l).length) ∧ ∃ i, i < (RS (szN (us l).length) l.length).length ∧ openB (nthE (RS (szN (us l).length) l.length) i) = true) := Lib.hid (by
    rw [hRS, hRR]
    simp only
    unfold rebS reb
    rw [List.take_length]
    exact ⟨rfl, useds_lt (by rw [hinv _ (Nat.le_refl _), rebK_len]; omega)⟩)
  have HRY : Hid (∀ k, k < l.length → (nthE l k).s = 1 → RS (szN (us l).length) (k + 1) = lay (RS (szN (us l).length) k) (nthE l k).k (nthE l k).v) := Lib.hid fun k h hs => by rw [hRS]; exact rebS_yes _ k h hs
  have HRN : Hid (∀ k, k < l.length → (nthE l k).s ≠ 1 → RS (szN (us l).length) (k + 1) = RS (szN (us l).length) k) := Lib.hid fun k h hs => by rw [hRS]; exact rebS_no _ k h hs
  have HRO : Hid (∀ k, k < l.length → (nthE l k).s = 1 → ∃ i, i < (RS (szN (us l).length) k).length ∧ openB (nthE (RS (szN (us l).length) k) i) = true) := Lib.hid fun k h hs => by
    have := (us_at h hs).1
    rw [hRS]
    exact useds_lt (by show useds (rebK _ _ _) < (rebK _ _ _).length; rw [hinv _ (by omega), rebK_len]; omega)
  have hfin : lay (reb l (szN (us l).length)) key val = lay (RR (szN (us l).length)) key val := by rw [hRR]
  rw [hfin]
  clear hfin hinv hRS hRR hgd
  have hn0 : 0 < l.length → Sz l.length ∧ (∃ i, i < l.length ∧ openB (nthE l i) = true) ∧ ¬ l.length ≤ 4 * frees (lay l key val) := fun hn0 => by
    have hz := hok.z.resolve_left (by omega)
    have hop := hok.op (by omega)
    exact ⟨hz, hop, fun h => hacc ⟨(pl_spec hz hop key).1, by rw [frees_lay2 l key 0 val]; exact h⟩⟩
  by_cases hn9 : 0 < l.length
  · obtain ⟨hz, hop, h9⟩ := hn0 hn9
    have hn0 := hn9
    have HLL := Lib.hid (lay_len l key val)
    have HLY := Lib.hid fun (w : World) (g cap : Nat) ho => exlay_any (w := w) (l := l) cap (B := g) (g := g) key val hkey hval ho hz hop
    unfold LayR at HLY
    have HMF := Lib.hid fun (w : World) (A : Option Addr) (cap : Nat) hr => exmany_any (w := w) (A := A) (l := lay l key val) cap 0 hr (by rw [lay_len]; exact hl)
    change Hid (∀ (w : World) (A : Option Addr) (cap : Nat) (hr : ERow w w.heap.size A (lay l key val)), Calls Tryd.prog 34 #[eph A (lay l key val).length cap, .int .u8 0] w fun e w' => e = .returned (.int .i64 (frees (lay l key val) : Nat)) ∧ Below w.heap.size w w') at HMF
    have hfl := frees_le (lay l key val)
    rw [HLL.out] at HMF hfl
    have hl64 := hz.le
    have g1 : decide ((0 : Int) < (l.length : Int)) = true := decide_eq_true (by omega)
    have g1' : decide (0 < l.length) = true := decide_eq_true (by omega)
    have g2 : decide ((l.length : Int) ≤ 4 * ((frees (lay l key val) : Nat) : Int)) = false := decide_eq_false (by omega)
    generalize lay l key val = r at *
    generalize frees r = fr at *
    generalize (us l).length = u at *
    have HN := Lib.hid hn
    have hu : u ≤ 63 := by omega
    clear hok h0 hf hacc hz hop h9 hn hzz h2u
    unfold eph at *
    go_enter Tryd.func12, Tryd.ntmps12
    go_wp2_with fail
    go_at_call 25
    refine (HV.out _ (hr.later (by repeat (first | exact Below.refl _ _ | assumption | (refine below_drewN ?_ _) | (refine Below.drew ?_) | (refine Below.alloc ?_ (by first | omega | (simp; omega) | simp) _) | (refine Below.setCell ?_ (by first | omega | (simp; omega) | simp) _) | (refine below_trans ?_ (by assumption) (by first | omega | (simp; omega) | simp)))))).mono ?_
    rintro e w1 ⟨rfl, hb_w1⟩
    obtain ⟨hc_w1, hf_w1⟩ := bcell hb_w1; have hz_w1_w_0 : w.heap.size < w1.heap.size := (by have hzz := hb_w1.size; (try simp only [World.size_alloc, World.size_setCell, World.size_drew, World.heap_drewN] at hzz); omega); have hz_w1_w_1 : w.heap.size + 1 < w1.heap.size := (by have hzz := hb_w1.size; (try simp only [World.size_alloc, World.size_setCell, World.size_drew, World.heap_drewN] at hzz); omega); have hs_w1 := hb_w1.size; (try simp only [World.size_alloc, World.size_setCell, World.size_drew, World.heap_drewN] at hs_w1)
    have b1 : Below w.heap.size w w1 := (by repeat (first | exact Below.refl _ _ | assumption | (refine below_drewN ?_ _) | (refine Below.drew ?_) | (refine Below.alloc ?_ (by first | omega | (simp; omega) | simp) _) | (refine Below.setCell ?_ (by first | omega | (simp; omega) | simp) _) | (refine below_trans ?_ (by assumption) (by first | omega | (simp; omega) | simp))))
    have P := (((Bx.new w _ _).alloc _).later hb_w1 : Bx w1 _ _)
    have Q := ((Bx.new (w.alloc _) _ _).later hb_w1 : Bx w1 _ _)
    simp only [World.size_alloc] at P Q
    obtain ⟨p0, p1⟩ := P
    clear hc_w1 hf_w1
    go_wp2_with fail
    go_at_call 10
    refine (HCP.out _ ((hr.later b1).later (by repeat (first | exact Below.refl _ _ | assumption | (refine below_drewN ?_ _) | (refine Below.drew ?_) | (refine Below.alloc ?_ (by first | omega | (simp; omega) | simp) _) | (refine Below.setCell ?_ (by first | omega | (simp; omega) | simp) _) | (refine below_trans ?_ (by assumption) (by first | omega | (simp; omega) | simp)))))).mono ?_
    rintro e w2 ⟨B2, c2, rfl, o2, hb_w2⟩
    obtain ⟨hc_w2, hf_w2⟩ := bcell hb_w2; have hz_w2_w_0 : w.heap.size < w2.heap.size := (by have hzz := hb_w2.size; (try simp only [World.size_alloc, World.size_setCell, World.size_drew, World.heap_drewN] at hzz); omega); have hz_w2_w_1 : w.heap.size + 1 < w2.heap.size := (by have hzz := hb_w2.size; (try simp only [World.size_alloc, World.size_setCell, World.size_drew, World.heap_drewN] at hzz); omega); have hs_w2 := hb_w2.size; (try simp only [World.size_alloc, World.size_setCell, World.size_drew, World.heap_drewN] at hs_w2)
    have b2 : Below w.heap.size w w2 := (by repeat (first | exact Below.refl _ _ | assumption | (refine below_drewN ?_ _) | (refine Below.drew ?_) | (refine Below.alloc ?_ (by first | omega | (simp; omega) | simp) _) | (refine Below.setCell ?_ (by first | omega | (simp; omega) | simp) _) | (refine below_trans ?_ (by assumption) (by first | omega | (simp; omega) | simp))))
    have P := ((Bx.mk p0 p1).later hb_w2 : Bx w2 _ _)
    have Q := (Q.later hb_w2 : Bx w2 _ _)
    clear hc_w2 hf_w2 p0 p1
    have P' := P.set (.slice B2 l.length c2)
    have Q' := Q.far (p := ⟨w.heap.size, 0, none⟩) (by show w.heap.size ≠ _; omega) (.slice B2 l.length c2)
    have o2' := o2.far (p := ⟨w.heap.size, 0, none⟩) (by show w.heap.size < _; omega) (.slice B2 l.length c2)
    obtain ⟨p0, p1⟩ := P
    clear Q o2
    go_wp2_with fail
    go_at_call 32
    refine (HF.out _ _ _ (o2'.row.later (by repeat (first | exact Below.refl _ _ | assumption | (refine below_drewN ?_ _) | (refine Below.drew ?_) | (refine Below.alloc ?_ (by first | omega | (simp; omega) | simp) _) | (refine Below.setCell ?_ (by first | omega | (simp; omega) | simp) _) | (refine below_trans ?_ (by assumption) (by first | omega | (simp; omega) | simp)))))).mono ?_
    rintro e w3 ⟨rfl, hb_w3⟩
    obtain ⟨hc_w3, hf_w3⟩ := bcell hb_w3; have hz_w3_w_0 : w.heap.size < w3.heap.size := (by have hzz := hb_w3.size; (try simp only [World.size_alloc, World.size_setCell, World.size_drew, World.heap_drewN] at hzz); omega); have hz_w3_w_1 : w.heap.size + 1 < w3.heap.size := (by have hzz := hb_w3.size; (try simp only [World.size_alloc, World.size_setCell, World.size_drew, World.heap_drewN] at hzz); omega); have hs_w3 := hb_w3.size; (try simp only [World.size_alloc, World.size_setCell, World.size_drew, World.heap_drewN] at hs_w3)
    have b3 : Below w.heap.size w w3 := (by repeat (first | exact Below.refl _ _ | assumption | (refine below_drewN ?_ _) | (refine Below.drew ?_) | (refine Below.alloc ?_ (by first | omega | (simp; omega) | simp) _) | (refine Below.setCell ?_ (by first | omega | (simp; omega) | simp) _) | (refine below_trans ?_ (by assumption) (by first | omega | (simp; omega) | simp))))
    have P := (P'.later hb_w3 : Bx w3 _ _)
    have Q := (Q'.later hb_w3 : Bx w3 _ _)
    have o3 := o2'.later hb_w3
    clear hc_w3 hf_w3 P' Q' o2' p0 p1
    have o3s := o3
    obtain ⟨p0, p1⟩ := P
    go_wp2_with fail
    go_at_call 10
    refine (HCP2.out _ _ _ (o3.row.later (by repeat (first | exact Below.refl _ _ | assumption | (refine below_drewN ?_ _) | (refine Below.drew ?_) | (refine Below.alloc ?_ (by first | omega | (simp; omega) | simp) _) | (refine Below.setCell ?_ (by first | omega | (simp; omega) | simp) _) | (refine below_trans ?_ (by assumption) (by first | omega | (simp; omega) | simp)))))).mono ?_
    rintro e w4 ⟨B4, c4, rfl, o4, hb_w4⟩
    obtain ⟨hc_w4, hf_w4⟩ := bcell hb_w4; have hz_w4_w_0 : w.heap.size < w4.heap.size := (by have hzz := hb_w4.size; (try simp only [World.size_alloc, World.size_setCell, World.size_drew, World.heap_drewN] at hzz); omega); have hz_w4_w_1 : w.heap.size + 1 < w4.heap.size := (by have hzz := hb_w4.size; (try simp only [World.size_alloc, World.size_setCell, World.size_drew, World.heap_drewN] at hzz); omega); have hs_w4 := hb_w4.size; (try simp only [World.size_alloc, World.size_setCell, World.size_drew, World.heap_drewN] at hs_w4)
    have b4 : Below w.heap.size w w4 := (by repeat (first | exact Below.refl _ _ | assumption | (refine below_drewN ?_ _) | (refine Below.drew ?_) | (refine Below.alloc ?_ (by first | omega | (simp; omega) | simp) _) | (refine Below.setCell ?_ (by first | omega | (simp; omega) | simp) _) | (refine below_trans ?_ (by assumption) (by first | omega | (simp; omega) | simp))))
    have P := ((Bx.mk p0 p1).later hb_w4 : Bx w4 _ _)
    have Q := (Q.later hb_w4 : Bx w4 _ _)
    have o3 := o3.later hb_w4
    clear hc_w4 hf_w4 p0 p1
    obtain ⟨g, rfl, hgB, hgl, _⟩ := o4.own.at_ (by omega)
    have o4g : EOwn w4 g (some ⟨g, 0, none⟩) l := ⟨o4.own.wd, fun h => by
      obtain ⟨g', e, h1, h2⟩ := o4.own.at_ h
      injection e with e
      injection e with e
      exact ⟨g, rfl, Nat.le_refl _, by rw [e]; exact h2⟩⟩
    have h23 : w1.heap.size ≤ w3.heap.size := by omega
    have hB2 : ∀ gb, B2 = some ⟨gb, 0, none⟩ → gb < w3.heap.size := fun gb e => by
      obtain ⟨g', e', _, h2, _⟩ := o3s.own.at_ (by omega)
      rw [e] at e'
      injection e' with e'
      injection e' with e'
      omega
    go_wp2_with fail
    go_at_call 33
    refine (HLY.out _ g c4 (o4g.later (by repeat (first | exact Below.refl _ _ | assumption | (refine below_drewN ?_ _) | (refine Below.drew ?_) | (refine Below.alloc ?_ (by first | omega | (simp; omega) | simp) _) | (refine Below.setCell ?_ (by first | omega | (simp; omega) | simp) _) | (refine below_trans ?_ (by assumption) (by first | omega | (simp; omega) | simp)))))).mono ?_
    rintro e w5 ⟨rfl, hg5, eo5⟩
    have hs5 := hg5.size
    have b5 : Below w.heap.size w w5 := Below.grown b4 hg5 (by omega) (fun j hj => by injection hj with hj; omega)
    have b35 : Below w3.heap.size w3 w5 := Below.grown (show Below w3.heap.size w3 w4 from (by repeat (first | exact Below.refl _ _ | assumption | (refine below_drewN ?_ _) | (refine Below.drew ?_) | (refine Below.alloc ?_ (by first | omega | (simp; omega) | simp) _) | (refine Below.setCell ?_ (by first | omega | (simp; omega) | simp) _) | (refine below_trans ?_ (by assumption) (by first | omega | (simp; omega) | simp))))) hg5 (by omega) (fun j hj => by injection hj with hj; omega)
    have P := Bx.grown P hg5 (by omega)
    have Q := Bx.grown Q hg5 (by omega)
    have o5 := o3s.later b35
    have eo5' := Lib.hid (eo5.later ((Below.refl _ _).alloc (Nat.le_refl _) (.cells #[.slice (some ⟨g, 0, none⟩) l.length c4] 24)))
    have P5 := P.alloc (.cells #[.slice (some ⟨g, 0, none⟩) l.length c4] 24)
    have Q5 := Q.alloc (.cells #[.slice (some ⟨g, 0, none⟩) l.length c4] 24)
    have X5 := Bx.new w5 (.slice (some ⟨g, 0, none⟩) l.length c4) 24
    clear hg5 P Q
    go_wp2_with fail
    go_at_call 34
    refine (HMF.out _ _ _ (eo5'.out.row.later (by repeat (first | exact Below.refl _ _ | assumption | (refine below_drewN ?_ _) | (refine Below.drew ?_) | (refine Below.alloc ?_ (by first | omega | (simp; omega) | simp) _) | (refine Below.setCell ?_ (by first | omega | (simp; omega) | simp) _) | (refine below_trans ?_ (by assumption) (by first | omega | (simp; omega) | simp)))))).mono ?_
    rintro e w6 ⟨rfl, hb_w6⟩
    obtain ⟨hc_w6, hf_w6⟩ := bcell hb_w6; have hz_w6_w5_0 : w5.heap.size < w6.heap.size := (by have hzz := hb_w6.size; (try simp only [World.size_alloc, World.size_setCell, World.size_drew, World.heap_drewN] at hzz); omega); have hs_w6 := hb_w6.size; (try simp only [World.size_alloc, World.size_setCell, World.size_drew, World.heap_drewN] at hs_w6)
    have b6 : Below w.heap.size w w6 := (by repeat (first | exact Below.refl _ _ | assumption | (refine below_drewN ?_ _) | (refine Below.drew ?_) | (refine Below.alloc ?_ (by first | omega | (simp; omega) | simp) _) | (refine Below.setCell ?_ (by first | omega | (simp; omega) | simp) _) | (refine below_trans ?_ (by assumption) (by first | omega | (simp; omega) | simp))))
    have P := (P5.later hb_w6 : Bx w6 _ _)
    have Q := (Q5.later hb_w6 : Bx w6 _ _)
    obtain ⟨x0, x1⟩ := (X5.later hb_w6 : Bx w6 _ _)
    have o6 := (o5.later ((Below.refl _ _).alloc (Nat.le_refl _) _)).later hb_w6
    have eo6 := Lib.hid (eo5'.out.later hb_w6)
    clear hc_w6 hf_w6 P5 Q5 X5 o5
    have PX := Lib.hid P
    have QX := Lib.hid Q
    have OX := Lib.hid o6
    clear P Q o6 hB2
    go_wp2_with fail
    go_loopw [11] (fun mm wr => ∃ m : Nat, mm = .int .i64 (m : Nat) ∧ Hid (Sz2 m) ∧ m ≤ 128 ∧ Hid (m ≤ szN u) ∧ Bx wr w.heap.size (.slice B2 l.length c2) ∧ Bx wr (w.heap.size + 1) (.slice none 0 0) ∧ ETab wr w1.heap.size B2 c2 l ∧ w1.heap.size ≤ wr.heap.size ∧ Below w.heap.size w wr) (fun mm _ => 128 - (intOf mm).toNat)
    case atStart => exact ⟨8, rfl, Lib.hid (.inl rfl), by omega, HLO, PX.out, QX.out, OX.out, (by first | omega | (simp; omega) | simp), (by repeat (first | exact Below.refl _ _ | assumption | (refine below_drewN ?_ _) | (refine Below.drew ?_) | (refine Below.alloc ?_ (by first | omega | (simp; omega) | simp) _) | (refine Below.setCell ?_ (by first | omega | (simp; omega) | simp) _) | (refine below_trans ?_ (by assumption) (by first | omega | (simp; omega) | simp))))⟩
    case round =>
      clear PX QX OX
      obtain ⟨m, rfl, h1, h2, h3, P, Q, ot, hsz, hb_wr⟩ := hrel
      have hsr := hb_wr.size
      obtain ⟨p0, p1⟩ := P
      by_cases hm : m < 2 * (u + 1)
      · obtain ⟨g1, g2⟩ := HS.out m h1.out h3.out hu hm
        have G1 := Lib.hid g1
        have G2 := Lib.hid g2
        have g3 : m * 2 ≤ 128 := by unfold Sz2 at g1; omega
        have g4 : 0 < m := by have := h1.out; unfold Sz2 at this; omega
        have f7 : decide ((m : Int) < 2 * ((u : Int) + 1)) = true := decide_eq_true (by omega)
        clear g1 g2 hm
        go_wp2_with fail
        go_at_call 34
        refine (HMU.out _ _ _ (ot.row.later (by repeat (first | exact Below.refl _ _ | assumption | (refine below_drewN ?_ _) | (refine Below.drew ?_) | (refine Below.alloc ?_ (by first | omega | (simp; omega) | simp) _) | (refine Below.setCell ?_ (by first | omega | (simp; omega) | simp) _) | (refine below_trans ?_ (by assumption) (by first | omega | (simp; omega) | simp)))))).mono ?_
        rintro e w7 ⟨rfl, hb_w7⟩
        obtain ⟨hc_w7, hf_w7⟩ := bcell hb_w7; have hs_w7 := hb_w7.size; (try simp only [World.size_alloc, World.size_setCell, World.size_drew, World.heap_drewN] at hs_w7)
        have P7 := Lib.hid ((Bx.mk p0 p1).later hb_w7 : Bx w7 _ _)
        have Q7 := Lib.hid (Q.later hb_w7 : Bx w7 _ _)
        have o7 := Lib.hid (ot.later hb_w7)
        clear hc_w7 hf_w7
        go_wp2
        go_roundw
        case rel => exact ⟨m * 2, by go_num, G1, g3, G2, P7.out, Q7.out, o7.out, (by first | omega | (simp; omega) | simp), (by repeat (first | exact Below.refl _ _ | assumption | (refine below_drewN ?_ _) | (refine Below.drew ?_) | (refine Below.alloc ?_ (by first | omega | (simp; omega) | simp) _) | (refine Below.setCell ?_ (by first | omega | (simp; omega) | simp) _) | (refine below_trans ?_ (by assumption) (by first | omega | (simp; omega) | simp))))⟩
        case measure => simp [intOf]; omega
      · have e9 := HX.out m h1.out h3.out hm
        have f7 : decide ((m : Int) < 2 * ((u : Int) + 1)) = false := decide_eq_false (by omega)
        have f8 : decide ((64 : Int) < (m : Int)) = false := decide_eq_false (by have := HN.out; omega)
        have E9 := Lib.hid e9
        clear hm e9
        go_wp2_with fail
        go_at_call 34
        refine (HMU.out _ _ _ (ot.row.later (by repeat (first | exact Below.refl _ _ | assumption | (refine below_drewN ?_ _) | (refine Below.drew ?_) | (refine Below.alloc ?_ (by first | omega | (simp; omega) | simp) _) | (refine Below.setCell ?_ (by first | omega | (simp; omega) | simp) _) | (refine below_trans ?_ (by assumption) (by first | omega | (simp; omega) | simp)))))).mono ?_
        rintro e w7 ⟨rfl, hb_w7⟩
        obtain ⟨hc_w7, hf_w7⟩ := bcell hb_w7; have hs_w7 := hb_w7.size; (try simp only [World.size_alloc, World.size_setCell, World.size_drew, World.heap_drewN] at hs_w7)
        have P := ((Bx.mk p0 p1).later hb_w7 : Bx w7 _ _)
        have Q := (Q.later hb_w7 : Bx w7 _ _)
        have o7 := ot.later hb_w7
        have b7 : Below w.heap.size w w7 := (by repeat (first | exact Below.refl _ _ | assumption | (refine below_drewN ?_ _) | (refine Below.drew ?_) | (refine Below.alloc ?_ (by first | omega | (simp; omega) | simp) _) | (refine Below.setCell ?_ (by first | omega | (simp; omega) | simp) _) | (refine below_trans ?_ (by assumption) (by first | omega | (simp; omega) | simp))))
        clear hc_w7 hf_w7 p0 p1
        have eb0 := Lib.hid (EOwn.of_block (B := w7.heap.size) (heap_alloc_new w7 (.cells (eflat (List.replicate m es0)).toArray 54)) (Nat.le_refl _) (ew_rep m))
        have EB0 := Lib.hid (eb0.out.later ((Below.refl _ _).alloc (Nat.le_refl _) (.cells #[.slice (some ⟨w7.heap.size, 0, none⟩) m m] 24)))
        have hm64 : m ≤ 64 := by have := HN.out; have := E9.out; omega
        have hmk := fun W => run_make_slots m hm64 W
        have HSZ : Hid (Sz m) := Lib.hid (by rw [E9.out]; exact szN_sz HN.out)
        have HR0 := HR0; have HRA := HRA; have HRY := HRY; have HRN := HRN; have HRO := HRO; have HRF := HRF
        rw [← E9.out] at HR0 HRA HRY HRN HRO HRF
        obtain ⟨p0, p1⟩ := P
        obtain ⟨q0, q1⟩ := Q
        have r7 := o7.row
        have hnil := Lib.hid o7.nil_
        have hw7 : w.heap.size < w7.heap.size := by omega
        have hw7b : w.heap.size + 1 < w7.heap.size := by omega
        clear eb0 ot
        go_wp2_with fail
        have XB := Lib.hid (Bx.new (w7.alloc (.cells (eflat (List.replicate m es0)).toArray 54)) (.slice (some ⟨w7.heap.size, 0, none⟩) m m) 24)
        simp only [World.size_alloc] at XB
        generalize hgg : w7.heap.size = G at *
        generalize wr = wD at *
        clear hmk
        go_loopw [69] (fun ii wr => ∃ k : Nat, ii = .int .i64 (k : Nat) ∧ k ≤ l.length ∧ EOwn wr G (some ⟨G, 0, none⟩) (RS m k) ∧ G + 2 ≤ wr.heap.size ∧ Bx wr (G + 1) (.slice (some ⟨G, 0, none⟩) m m) ∧ Below G w7 wr) (fun ii _ => l.length - (intOf ii).toNat)
        case atStart => exact ⟨0, rfl, Nat.zero_le _, by rw [HR0.out]; exact EB0.out, (by first | omega | (simp; omega) | simp), XB.out, by subst hgg; exact (by repeat (first | exact Below.refl _ _ | assumption | (refine below_drewN ?_ _) | (refine Below.drew ?_) | (refine Below.alloc ?_ (by first | omega | (simp; omega) | simp) _) | (refine Below.setCell ?_ (by first | omega | (simp; omega) | simp) _) | (refine below_trans ?_ (by assumption) (by first | omega | (simp; omega) | simp))))⟩
        case round =>
          clear EB0 XB
          obtain ⟨k, rfl, hk, eo, hsz9, X, hb_wr⟩ := hrel
          have hsr9 := hb_wr.size
          obtain ⟨x0, x1⟩ := X
          have hG1 : G + 1 < wr.heap.size := by omega
          have EO := Lib.hid eo
          clear eo
          by_cases hlt : k < l.length
          · have rw9 := r7.below hb_wr
            obtain ⟨b, off, rfl, hbb, hc⟩ := rw9.at_ (by omega)
            obtain ⟨c0, c1, c2'⟩ := hc k hlt
            obtain ⟨_, ek, ev⟩ := rw9.nthW k
            have i1 : (k : Int) < (l.length : Int) := by omega
            have i2 : (0 : Int) ≤ (k : Int) := by omega
            have HY9 := HRY.out k hlt
            have HN9 := HRN.out k hlt
            have HO9 := HRO.out k hlt
            have HF9 := HRF.out k
            generalize nthE l k = s at *
            obtain ⟨ss, sk, sv⟩ := s
            simp only at c0 c1 c2' ek ev HY9 HN9 HO9
            clear hc
            by_cases hs : ss = 1
            · subst hs
              have HS9 := Lib.hid (HY9 rfl)
              have HL9 := Lib.hid fun (W : World) ho => exlay_any (w := W) (l := RS m k) m (B := G) (g := G) sk sv ek ev ho (by rw [HF9]; exact HSZ.out) (HO9 rfl)
              unfold LayR eph at HL9
              rw [HF9] at HL9
              clear HY9 HN9 HO9 HF9
              as_aux_lemma =>
                go_wp2_with fail
                go_at_call 33
                refine (HL9.out _ (EO.out.later (by repeat (first | exact Below.refl _ _ | assumption | (refine below_drewN ?_ _) | (refine Below.drew ?_) | (refine Below.alloc ?_ (by first | omega | (simp; omega) | simp) _) | (refine Below.setCell ?_ (by first | omega | (simp; omega) | simp) _) | (refine below_trans ?_ (by assumption) (by first | omega | (simp; omega) | simp)))))).mono ?_
                rintro e w8 ⟨rfl, hg8, eo8⟩
                have hs8 := hg8.size
                simp only [World.size_alloc] at hs8
                have X8 := Bx.grown ((Bx.mk x0 x1).alloc _) hg8 (by omega)
                have hb8 : Below G w7 w8 := Below.grown (show Below G w7 _ from (by repeat (first | exact Below.refl _ _ | assumption | (refine below_drewN ?_ _) | (refine Below.drew ?_) | (refine Below.alloc ?_ (by first | omega | (simp; omega) | simp) _) | (refine Below.setCell ?_ (by first | omega | (simp; omega) | simp) _) | (refine below_trans ?_ (by assumption) (by first | omega | (simp; omega) | simp))))) hg8 (by first | omega | (simp; omega) | simp) (fun j hj => by injection hj with hj; omega)
                have X9 := Lib.hid (X8.set (.slice (some ⟨G, 0, none⟩) m m))
                have EO8 := Lib.hid (show EOwn (w8.setCell ⟨G + 1, 0, none⟩ (.slice (some ⟨G, 0, none⟩) m m)) G (some ⟨G, 0, none⟩) (RS m (k + 1)) by rw [HS9.out]; exact eo8.off rfl (by show G + 1 ≠ G; omega) _)
                obtain ⟨x80, x81⟩ := X8
                clear eo8 hg8
                go_wp2
                go_roundw
                case rel => exact ⟨k + 1, by go_num, by omega, EO8.out, (by first | omega | (simp; omega) | simp), X9.out, (by repeat (first | exact Below.refl _ _ | assumption | (refine below_drewN ?_ _) | (refine Below.drew ?_) | (refine Below.alloc ?_ (by first | omega | (simp; omega) | simp) _) | (refine Below.setCell ?_ (by first | omega | (simp; omega) | simp) _) | (refine below_trans ?_ (by assumption) (by first | omega | (simp; omega) | simp))))⟩
                case measure => simp [intOf]; omega
            · have f9 : ((ss : Int) == 1) = false := by rw [beq_eq_false_iff_ne]; omega
              have HS9 := Lib.hid (HN9 hs)
              have EO9 := Lib.hid (show EOwn (wr.alloc (.cells #[.int .u8 (ss : Nat), .int .u64 (sk : Nat), .int .u64 (sv : Nat)] 54)) G (some ⟨G, 0, none⟩) (RS m (k + 1)) by rw [HS9.out]; exact EO.out.later ((Below.refl _ _).alloc (Nat.le_refl _) _))
              have X9 := Lib.hid ((Bx.mk x0 x1).alloc (.cells #[.int .u8 (ss : Nat), .int .u64 (sk : Nat), .int .u64 (sv : Nat)] 54))
              clear HY9 HN9 HO9 HF9 hs
              as_aux_lemma =>
                go_wp2
                go_roundw
                case rel => exact ⟨k + 1, by go_num, by omega, EO9.out, (by first | omega | (simp; omega) | simp), X9.out, (by repeat (first | exact Below.refl _ _ | assumption | (refine below_drewN ?_ _) | (refine Below.drew ?_) | (refine Below.alloc ?_ (by first | omega | (simp; omega) | simp) _) | (refine Below.setCell ?_ (by first | omega | (simp; omega) | simp) _) | (refine below_trans ?_ (by assumption) (by first | omega | (simp; omega) | simp))))⟩
                case measure => simp [intOf]; omega
          · obtain rfl : k = l.length := by omega
            have HL9 := Lib.hid fun (W : World) ho => exlay_any (w := W) (l := RS m l.length) m (B := G) (g := G) key val hkey hval ho (by rw [HRF.out]; exact HSZ.out) HRA.out.2
            unfold LayR eph at HL9
            rw [HRF.out, HRA.out.1] at HL9
            rw [HRA.out.1] at EO
            have HFIN := Lib.hid HRA.out.1
            have HFL := HRF.out l.length
            rw [HFIN.out] at HFL
            have Q9 := ((Bx.mk q0 q1) : Bx w7 _ _)
            have q0' : wr.cell? ⟨w.heap.size + 1, 0, none⟩ = some (.slice none 0 0) := (hb_wr.cell (p := ⟨w.heap.size + 1, 0, none⟩) (by show w.heap.size + 1 < G; omega)).trans q0
            have q1' : wr.frozen? ⟨w.heap.size + 1, 0, none⟩ = false := (hb_wr.frozen (p := ⟨w.heap.size + 1, 0, none⟩) (by show w.heap.size + 1 < G; omega)).trans q1
            have b9 : Below w.heap.size w wr := below_trans b7 hb_wr (by omega)
            have HLF : Hid ((lay (RR m) key val).length = m) := Lib.hid (by rw [lay_len]; exact HFL)
            have E9m := Lib.hid E9.out
            clear HRA HRF HFL HFIN
            as_aux_lemma =>
              go_wp2_with fail
              go_at_call 33
              refine (HL9.out _ EO.out).mono ?_
              rintro e w8 ⟨rfl, hg8, eo8⟩
              have hs8 := hg8.size
              obtain ⟨q80, q81⟩ := Bx.grown (Bx.mk q0' q1') hg8 (by omega)
              have hb8 : Below w.heap.size w w8 := Below.grown b9 hg8 (by first | omega | (simp; omega) | simp) (fun j hj => by injection hj with hj; omega)
              have EO8 := Lib.hid (eo8.far (p := ⟨w.heap.size + 1, 0, none⟩) (by show w.heap.size + 1 < G; omega) (.slice (some ⟨G, 0, none⟩) m m))
              clear eo8 hg8
              go_wp2
              rw [← E9m.out]
              exact bodyPost_ret (res_p2 rfl rfl (g := w.heap.size + 1) (v0 := .slice (some ⟨G, 0, none⟩) m m) (by first | exact World.cell?_setCell_same _ _ _ q80 | exact World.cell?_setCell_same _ _ _ (by first | exact q80 | (exact (World.cell?_alloc_lt _ _ ⟨_, _, _⟩ (by first | omega | (simp; omega) | simp)).trans q80) | (exact (World.cell?_alloc_lt _ _ ⟨_, _, _⟩ (by first | omega | (simp; omega) | simp)).trans ((World.cell?_alloc_lt _ _ ⟨_, _, _⟩ (by first | omega | (simp; omega) | simp)).trans q80)) | (simp [go_sem, q80]; done)) | exact (World.cell?_alloc_lt _ _ ⟨_, _, _⟩ (by first | omega | (simp; omega) | simp)).trans (World.cell?_setCell_same _ _ _ q80) | (simp [go_sem, q80]; done))) rfl ⟨some ⟨G, 0, none⟩, m, by rw [HLF.out]; rfl, ⟨EO8.out.mono (by omega), fun h => by cases h⟩, (by repeat (first | exact Below.refl _ _ | assumption | (refine below_drewN ?_ _) | (refine Below.drew ?_) | (refine Below.alloc ?_ (by first | omega | (simp; omega) | simp) _) | (refine Below.setCell ?_ (by first | omega | (simp; omega) | simp) _) | (refine below_trans ?_ (by assumption) (by first | omega | (simp; omega) | simp))))⟩
  · have g1 : decide ((0 : Int) < (l.length : Int)) = false := decide_eq_false (by omega)
    have g1' : decide (0 < l.length) = false := decide_eq_false (by omega)
    generalize (us l).length = u at *
    have HN := Lib.hid hn
    have hu : u ≤ 63 := by omega
    clear hok h0 hf hacc hn hzz h2u hn0
    unfold eph at *
    go_enter Tryd.func12, Tryd.ntmps12
    go_wp2_with fail
    go_at_call 25
    refine (HV.out _ (hr.later (by repeat (first | exact Below.refl _ _ | assumption | (refine below_drewN ?_ _) | (refine Below.drew ?_) | (refine Below.alloc ?_ (by first | omega | (simp; omega) | simp) _) | (refine Below.setCell ?_ (by first | omega | (simp; omega) | simp) _) | (refine below_trans ?_ (by assumption) (by first | omega | (simp; omega) | simp)))))).mono ?_
    rintro e w1 ⟨rfl, hb_w1⟩
    obtain ⟨hc_w1, hf_w1⟩ := bcell hb_w1; have hz_w1_w_0 : w.heap.size < w1.heap.size := (by have hzz := hb_w1.size; (try simp only [World.size_alloc, World.size_setCell, World.size_drew, World.heap_drewN] at hzz); omega); have hz_w1_w_1 : w.heap.size + 1 < w1.heap.size := (by have hzz := hb_w1.size; (try simp only [World.size_alloc, World.size_setCell, World.size_drew, World.heap_drewN] at hzz); omega); have hs_w1 := hb_w1.size; (try simp only [World.size_alloc, World.size_setCell, World.size_drew, World.heap_drewN] at hs_w1)
    have b1 : Below w.heap.size w w1 := (by repeat (first | exact Below.refl _ _ | assumption | (refine below_drewN ?_ _) | (refine Below.drew ?_) | (refine Below.alloc ?_ (by first | omega | (simp; omega) | simp) _) | (refine Below.setCell ?_ (by first | omega | (simp; omega) | simp) _) | (refine below_trans ?_ (by assumption) (by first | omega | (simp; omega) | simp))))
    have P := (((Bx.new w _ _).alloc _).later hb_w1 : Bx w1 _ _)
    have Q := ((Bx.new (w.alloc _) _ _).later hb_w1 : Bx w1 _ _)
    simp only [World.size_alloc] at P Q
    obtain ⟨p0, p1⟩ := P
    clear hc_w1 hf_w1
    go_wp2_with fail
    go_at_call 10
    refine (HCP.out _ ((hr.later b1).later (by repeat (first | exact Below.refl _ _ | assumption | (refine below_drewN ?_ _) | (refine Below.drew ?_) | (refine Below.alloc ?_ (by first | omega | (simp; omega) | simp) _) | (refine Below.setCell ?_ (by first | omega | (simp; omega) | simp) _) | (refine below_trans ?_ (by assumption) (by first | omega | (simp; omega) | simp)))))).mono ?_
    rintro e w2 ⟨B2, c2, rfl, o2, hb_w2⟩
    obtain ⟨hc_w2, hf_w2⟩ := bcell hb_w2; have hz_w2_w_0 : w.heap.size < w2.heap.size := (by have hzz := hb_w2.size; (try simp only [World.size_alloc, World.size_setCell, World.size_drew, World.heap_drewN] at hzz); omega); have hz_w2_w_1 : w.heap.size + 1 < w2.heap.size := (by have hzz := hb_w2.size; (try simp only [World.size_alloc, World.size_setCell, World.size_drew, World.heap_drewN] at hzz); omega); have hs_w2 := hb_w2.size; (try simp only [World.size_alloc, World.size_setCell, World.size_drew, World.heap_drewN] at hs_w2)
    have b2 : Below w.heap.size w w2 := (by repeat (first | exact Below.refl _ _ | assumption | (refine below_drewN ?_ _) | (refine Below.drew ?_) | (refine Below.alloc ?_ (by first | omega | (simp; omega) | simp) _) | (refine Below.setCell ?_ (by first | omega | (simp; omega) | simp) _) | (refine below_trans ?_ (by assumption) (by first | omega | (simp; omega) | simp))))
    have P := ((Bx.mk p0 p1).later hb_w2 : Bx w2 _ _)
    have Q := (Q.later hb_w2 : Bx w2 _ _)
    clear hc_w2 hf_w2 p0 p1
    have P' := P.set (.slice B2 l.length c2)
    have Q' := Q.far (p := ⟨w.heap.size, 0, none⟩) (by show w.heap.size ≠ _; omega) (.slice B2 l.length c2)
    have o2' := o2.far (p := ⟨w.heap.size, 0, none⟩) (by show w.heap.size < _; omega) (.slice B2 l.length c2)
    obtain ⟨p0, p1⟩ := P
    clear Q o2
    go_wp2_with fail
    go_at_call 32
    refine (HF.out _ _ _ (o2'.row.later (by repeat (first | exact Below.refl _ _ | assumption | (refine below_drewN ?_ _) | (refine Below.drew ?_) | (refine Below.alloc ?_ (by first | omega | (simp; omega) | simp) _) | (refine Below.setCell ?_ (by first | omega | (simp; omega) | simp) _) | (refine below_trans ?_ (by assumption) (by first | omega | (simp; omega) | simp)))))).mono ?_
    rintro e w3 ⟨rfl, hb_w3⟩
    obtain ⟨hc_w3, hf_w3⟩ := bcell hb_w3; have hz_w3_w_0 : w.heap.size < w3.heap.size := (by have hzz := hb_w3.size; (try simp only [World.size_alloc, World.size_setCell, World.size_drew, World.heap_drewN] at hzz); omega); have hz_w3_w_1 : w.heap.size + 1 < w3.heap.size := (by have hzz := hb_w3.size; (try simp only [World.size_alloc, World.size_setCell, World.size_drew, World.heap_drewN] at hzz); omega); have hs_w3 := hb_w3.size; (try simp only [World.size_alloc, World.size_setCell, World.size_drew, World.heap_drewN] at hs_w3)
    have b3 : Below w.heap.size w w3 := (by repeat (first | exact Below.refl _ _ | assumption | (refine below_drewN ?_ _) | (refine Below.drew ?_) | (refine Below.alloc ?_ (by first | omega | (simp; omega) | simp) _) | (refine Below.setCell ?_ (by first | omega | (simp; omega) | simp) _) | (refine below_trans ?_ (by assumption) (by first | omega | (simp; omega) | simp))))
    have P := (P'.later hb_w3 : Bx w3 _ _)
    have Q := (Q'.later hb_w3 : Bx w3 _ _)
    have o3 := o2'.later hb_w3
    clear hc_w3 hf_w3 P' Q' o2' p0 p1
    have PX := Lib.hid P
    have QX := Lib.hid Q
    have OX := Lib.hid o3
    obtain ⟨p0, p1⟩ := P
    clear Q o3
    go_wp2_with fail
    clear p0 p1
    go_loopw [11] (fun mm wr => ∃ m : Nat, mm = .int .i64 (m : Nat) ∧ Hid (Sz2 m) ∧ m ≤ 128 ∧ Hid (m ≤ szN u) ∧ Bx wr w.heap.size (.slice B2 l.length c2) ∧ Bx wr (w.heap.size + 1) (.slice none 0 0) ∧ ETab wr w1.heap.size B2 c2 l ∧ w1.heap.size ≤ wr.heap.size ∧ Below w.heap.size w wr) (fun mm _ => 128 - (intOf mm).toNat)
    case atStart => exact ⟨8, rfl, Lib.hid (.inl rfl), by omega, HLO, PX.out, QX.out, OX.out, (by first | omega | (simp; omega) | simp), (by repeat (first | exact Below.refl _ _ | assumption | (refine below_drewN ?_ _) | (refine Below.drew ?_) | (refine Below.alloc ?_ (by first | omega | (simp; omega) | simp) _) | (refine Below.setCell ?_ (by first | omega | (simp; omega) | simp) _) | (refine below_trans ?_ (by assumption) (by first | omega | (simp; omega) | simp))))⟩
    case round =>
      clear PX QX OX
      obtain ⟨m, rfl, h1, h2, h3, P, Q, ot, hsz, hb_wr⟩ := hrel
      have hsr := hb_wr.size
      obtain ⟨p0, p1⟩ := P
      by_cases hm : m < 2 * (u + 1)
      · obtain ⟨g1, g2⟩ := HS.out m h1.out h3.out hu hm
        have G1 := Lib.hid g1
        have G2 := Lib.hid g2
        have g3 : m * 2 ≤ 128 := by unfold Sz2 at g1; omega
        have g4 : 0 < m := by have := h1.out; unfold Sz2 at this; omega
        have f7 : decide ((m : Int) < 2 * ((u : Int) + 1)) = true := decide_eq_true (by omega)
        clear g1 g2 hm
        go_wp2_with fail
        go_at_call 34
        refine (HMU.out _ _ _ (ot.row.later (by repeat (first | exact Below.refl _ _ | assumption | (refine below_drewN ?_ _) | (refine Below.drew ?_) | (refine Below.alloc ?_ (by first | omega | (simp; omega) | simp) _) | (refine Below.setCell ?_ (by first | omega | (simp; omega) | simp) _) | (refine below_trans ?_ (by assumption) (by first | omega | (simp; omega) | simp)))))).mono ?_
        rintro e w7 ⟨rfl, hb_w7⟩
        obtain ⟨hc_w7, hf_w7⟩ := bcell hb_w7; have hs_w7 := hb_w7.size; (try simp only [World.size_alloc, World.size_setCell, World.size_drew, World.heap_drewN] at hs_w7)
        have P7 := Lib.hid ((Bx.mk p0 p1).later hb_w7 : Bx w7 _ _)
        have Q7 := Lib.hid (Q.later hb_w7 : Bx w7 _ _)
        have o7 := Lib.hid (ot.later hb_w7)
        clear hc_w7 hf_w7
        go_wp2
        go_roundw
        case rel => exact ⟨m * 2, by go_num, G1, g3, G2, P7.out, Q7.out, o7.out, (by first | omega | (simp; omega) | simp), (by repeat (first | exact Below.refl _ _ | assumption | (refine below_drewN ?_ _) | (refine Below.drew ?_) | (refine Below.alloc ?_ (by first | omega | (simp; omega) | simp) _) | (refine Below.setCell ?_ (by first | omega | (simp; omega) | simp) _) | (refine below_trans ?_ (by assumption) (by first | omega | (simp; omega) | simp))))⟩
        case measure => simp [intOf]; omega
      · have e9 := HX.out m h1.out h3.out hm
        have f7 : decide ((m : Int) < 2 * ((u : Int) + 1)) = false := decide_eq_false (by omega)
        have f8 : decide ((64 : Int) < (m : Int)) = false := decide_eq_false (by have := HN.out; omega)
        have E9 := Lib.hid e9
        clear hm e9
        go_wp2_with fail
        go_at_call 34
        refine (HMU.out _ _ _ (ot.row.later (by repeat (first | exact Below.refl _ _ | assumption | (refine below_drewN ?_ _) | (refine Below.drew ?_) | (refine Below.alloc ?_ (by first | omega | (simp; omega) | simp) _) | (refine Below.setCell ?_ (by first | omega | (simp; omega) | simp) _) | (refine below_trans ?_ (by assumption) (by first | omega | (simp; omega) | simp)))))).mono ?_
        rintro e w7 ⟨rfl, hb_w7⟩
        obtain ⟨hc_w7, hf_w7⟩ := bcell hb_w7; have hs_w7 := hb_w7.size; (try simp only [World.size_alloc, World.size_setCell, World.size_drew, World.heap_drewN] at hs_w7)
        have P := ((Bx.mk p0 p1).later hb_w7 : Bx w7 _ _)
        have Q := (Q.later hb_w7 : Bx w7 _ _)
        have o7 := ot.later hb_w7
        have b7 : Below w.heap.size w w7 := (by repeat (first | exact Below.refl _ _ | assumption | (refine below_drewN ?_ _) | (refine Below.drew ?_) | (refine Below.alloc ?_ (by first | omega | (simp; omega) | simp) _) | (refine Below.setCell ?_ (by first | omega | (simp; omega) | simp) _) | (refine below_trans ?_ (by assumption) (by first | omega | (simp; omega) | simp))))
        clear hc_w7 hf_w7 p0 p1
        have eb0 := Lib.hid (EOwn.of_block (B := w7.heap.size) (heap_alloc_new w7 (.cells (eflat (List.replicate m es0)).toArray 54)) (Nat.le_refl _) (ew_rep m))
        have EB0 := Lib.hid (eb0.out.later ((Below.refl _ _).alloc (Nat.le_refl _) (.cells #[.slice (some ⟨w7.heap.size, 0, none⟩) m m] 24)))
        have hm64 : m ≤ 64 := by have := HN.out; have := E9.out; omega
        have hmk := fun W => run_make_slots m hm64 W
        have HSZ : Hid (Sz m) := Lib.hid (by rw [E9.out]; exact szN_sz HN.out)
        have HR0 := HR0; have HRA := HRA; have HRY := HRY; have HRN := HRN; have HRO := HRO; have HRF := HRF
        rw [← E9.out] at HR0 HRA HRY HRN HRO HRF
        obtain ⟨p0, p1⟩ := P
        obtain ⟨q0, q1⟩ := Q
        have r7 := o7.row
        have hnil := Lib.hid o7.nil_
        have hw7 : w.heap.size < w7.heap.size := by omega
        have hw7b : w.heap.size + 1 < w7.heap.size := by omega
        clear eb0 ot
        go_wp2_with fail
        have XB := Lib.hid (Bx.new (w7.alloc (.cells (eflat (List.replicate m es0)).toArray 54)) (.slice (some ⟨w7.heap.size, 0, none⟩) m m) 24)
        simp only [World.size_alloc] at XB
        generalize hgg : w7.heap.size = G at *
        generalize wr = wD at *
        clear hmk
        go_loopw [69] (fun ii wr => ∃ k : Nat, ii = .int .i64 (k : Nat) ∧ k ≤ l.length ∧ EOwn wr G (some ⟨G, 0, none⟩) (RS m k) ∧ G + 2 ≤ wr.heap.size ∧ Bx wr (G + 1) (.slice (some ⟨G, 0, none⟩) m m) ∧ Below G w7 wr) (fun ii _ => l.length - (intOf ii).toNat)
        case atStart => exact ⟨0, rfl, Nat.zero_le _, by rw [HR0.out]; exact EB0.out, (by first | omega | (simp; omega) | simp), XB.out, by subst hgg; exact (by repeat (first | exact Below.refl _ _ | assumption | (refine below_drewN ?_ _) | (refine Below.drew ?_) | (refine Below.alloc ?_ (by first | omega | (simp; omega) | simp) _) | (refine Below.setCell ?_ (by first | omega | (simp; omega) | simp) _) | (refine below_trans ?_ (by assumption) (by first | omega | (simp; omega) | simp))))⟩
        case round =>
          clear EB0 XB
          obtain ⟨k, rfl, hk, eo, hsz9, X, hb_wr⟩ := hrel
          have hsr9 := hb_wr.size
          obtain ⟨x0, x1⟩ := X
          have hG1 : G + 1 < wr.heap.size := by omega
          have EO := Lib.hid eo
          clear eo
          by_cases hlt : k < l.length
          · exact absurd hlt (by omega)
          · obtain rfl : k = l.length := by omega
            have HL9 := Lib.hid fun (W : World) ho => exlay_any (w := W) (l := RS m l.length) m (B := G) (g := G) key val hkey hval ho (by rw [HRF.out]; exact HSZ.out) HRA.out.2
            unfold LayR eph at HL9
            rw [HRF.out, HRA.out.1] at HL9
            rw [HRA.out.1] at EO
            have HFIN := Lib.hid HRA.out.1
            have HFL := HRF.out l.length
            rw [HFIN.out] at HFL
            have Q9 := ((Bx.mk q0 q1) : Bx w7 _ _)
            have q0' : wr.cell? ⟨w.heap.size + 1, 0, none⟩ = some (.slice none 0 0) := (hb_wr.cell (p := ⟨w.heap.size + 1, 0, none⟩) (by show w.heap.size + 1 < G; omega)).trans q0
            have q1' : wr.frozen? ⟨w.heap.size + 1, 0, none⟩ = false := (hb_wr.frozen (p := ⟨w.heap.size + 1, 0, none⟩) (by show w.heap.size + 1 < G; omega)).trans q1
            have b9 : Below w.heap.size w wr := below_trans b7 hb_wr (by omega)
            have HLF : Hid ((lay (RR m) key val).length = m) := Lib.hid (by rw [lay_len]; exact HFL)
            have E9m := Lib.hid E9.out
            clear HRA HRF HFL HFIN
            as_aux_lemma =>
              go_wp2_with fail
              go_at_call 33
              refine (HL9.out _ EO.out).mono ?_
              rintro e w8 ⟨rfl, hg8, eo8⟩
              have hs8 := hg8.size
              obtain ⟨q80, q81⟩ := Bx.grown (Bx.mk q0' q1') hg8 (by omega)
              have hb8 : Below w.heap.size w w8 := Below.grown b9 hg8 (by first | omega | (simp; omega) | simp) (fun j hj => by injection hj with hj; omega)
              have EO8 := Lib.hid (eo8.far (p := ⟨w.heap.size + 1, 0, none⟩) (by show w.heap.size + 1 < G; omega) (.slice (some ⟨G, 0, none⟩) m m))
              clear eo8 hg8
              go_wp2
              rw [← E9m.out]
              exact bodyPost_ret (res_p2 rfl rfl (g := w.heap.size + 1) (v0 := .slice (some ⟨G, 0, none⟩) m m) (by first | exact World.cell?_setCell_same _ _ _ q80 | exact World.cell?_setCell_same _ _ _ (by first | exact q80 | (exact (World.cell?_alloc_lt _ _ ⟨_, _, _⟩ (by first | omega | (simp; omega) | simp)).trans q80) | (exact (World.cell?_alloc_lt _ _ ⟨_, _, _⟩ (by first | omega | (simp; omega) | simp)).trans ((World.cell?_alloc_lt _ _ ⟨_, _, _⟩ (by first | omega | (simp; omega) | simp)).trans q80)) | (simp [go_sem, q80]; done)) | exact (World.cell?_alloc_lt _ _ ⟨_, _, _⟩ (by first | omega | (simp; omega) | simp)).trans (World.cell?_setCell_same _ _ _ q80) | (simp [go_sem, q80]; done))) rfl ⟨some ⟨G, 0, none⟩, m, by rw [HLF.out]; rfl, ⟨EO8.out.mono (by omega), fun h => by cases h⟩, (by repeat (first | exact Below.refl _ _ | assumption | (refine below_drewN ?_ _) | (refine Below.drew ?_) | (refine Below.alloc ?_ (by first | omega | (simp; omega) | simp) _) | (refine Below.setCell ?_ (by first | omega | (simp; omega) | simp) _) | (refine below_trans ?_ (by assumption) (by first | omega | (simp; omega) | simp))))⟩
end
end Go.Proofs.YtloemeinpknamaaDoor
