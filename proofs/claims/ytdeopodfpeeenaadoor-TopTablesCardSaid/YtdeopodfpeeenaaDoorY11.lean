/- Contract of package ephem: Del. -/
import Derived.Test.YtdeopodfpeeenaaDoorY10
namespace Go.Proofs.YtdeopodfpeeenaaDoor
open Go.RowKit
set_option linter.unusedVariables false
set_option linter.unusedSimpArgs false

theorem res_p3 {fn : Func} {p u v : Tmp} (h : fn.results = #[.cell p 26, .tmp u, .tmp v]) {tmps : Array Value} {w : World} {g : Nat} {v0 : Value} (hp : tmps.getD p undef = .pointer (some ⟨g, 0, none⟩))
    (h0 : w.cell? ⟨g, 0, none⟩ = some v0) : (results fn tmps).run Tryd.prog w = .ok (.tuple #[.agg #[v0], tmps.getD u undef, tmps.getD v undef]) w := by
  have hp2 : tmps[p]?.getD undef = .pointer (some ⟨g, 0, none⟩) := by rw [← hp]; simp
  simp only [results, h]
  simp [go_sem, Result.andThen, h0, asAddr, hp2]
def delK (l : List Es) (key : Nat) : List Es := if fd l key < l.length then delA l (fd l key) else l
theorem delK_len (l : List Es) (key : Nat) : (delK l key).length = l.length := by
  unfold delK delA
  split
  · simp
  · rfl
theorem OkT.delK {l : List Es} (h : OkT l) (key : Nat) : OkT (delK l key) := by
  unfold Go.Proofs.YtdeopodfpeeenaaDoor.delK
  by_cases hf : fd l key < l.length
  · rw [if_pos hf]
    have hg := h.good (by omega)
    obtain ⟨g, _, f, _⟩ := hg.del hf (fd_is hf)
    have h3 := (h.x (by omega)).2.2
    have hlen : (delA l (fd l key)).length = l.length := by unfold delA; simp
    exact OkT.of_x g.sz g.x (by rw [f, hlen]; exact h3)
  · rw [if_neg hf]; exact h
def dlK (l : List Es) (ks : List Nat) : Nat → List Es
  | 0 => l
  | k + 1 => delK (dlK l ks k) (ks.getD k 0)
def dnK (l : List Es) (ks : List Nat) : Nat → Nat
  | 0 => 0
  | k + 1 => dnK l ks k + if fd (dlK l ks k) (ks.getD k 0) < l.length then 1 else 0
theorem dlK_len (l : List Es) (ks : List Nat) (k : Nat) : (dlK l ks k).length = l.length := by
  induction k with
  | zero => rfl
  | succ k ih => rw [dlK, delK_len, ih]
theorem dnK_le (l : List Es) (ks : List Nat) (k : Nat) : dnK l ks k ≤ k := by
  induction k with
  | zero => exact Nat.le_refl _
  | succ k ih =>
    rw [dnK]
    split <;> omega
theorem OkT.dlK {l : List Es} (h : OkT l) (ks : List Nat) (k : Nat) : OkT (dlK l ks k) := by
  induction k with
  | zero => exact h
  | succ k ih => exact ih.delK _
/-- what Del answers -/
def DelT (l : List Es) (ks : List Nat) (r : List Es) (n : Nat) (y : Int) : Prop :=
  (¬ OkT l ∧ r = [] ∧ n = 0 ∧ y = 2) ∨ (OkT l ∧ r = dlK l ks ks.length ∧ n = dnK l ks ks.length ∧ y = 0)
theorem DelT.ex (l : List Es) (ks : List Nat) : ∃ r n y, DelT l ks r n y := by
  by_cases h : OkT l
  · exact ⟨_, _, _, .inr ⟨h, rfl, rfl, rfl⟩⟩
  · exact ⟨_, _, _, .inl ⟨h, rfl, rfl, rfl⟩⟩
def DelR (w : World) (r : List Es) (n : Nat) (y : Int) (e : Ending) (w' : World) : Prop := ∃ (B : Option Addr) (cb : Nat), e = .returned (.tuple #[eph B r.length cb, .int .i64 (n : Nat), .int .i64 y]) ∧ ETab w' w.heap.size B cb r ∧ Below w.heap.size w w'
section
variable {w : World} {A K : Option Addr} {l : List Es} {ks : List Nat} (cap ck : Nat)
set_option maxHeartbeats 4000000 in
theorem edel_any (hT : Tz w) (hr : ERow w w.heap.size A l) (hl : l.length ≤ 5864062014805) (hn : A = none → cap = 0) (hq : Row w w.heap.size K ks) (hkl : ks.length ≤ 17592186044416) (r : List Es) (n : Nat) (y : Int) (hE : DelT l ks r n y) :
    Calls Tryd.prog 7 #[eph A l.length cap, .slice K ks.length ck] w fun e w' => DelR w r n y e w' := by
  unfold DelR
  rcases hE with ⟨hok, rfl, rfl, rfl⟩ | ⟨hok, rfl, rfl, rfl⟩
  · have HV := Lib.hid fun (w : World) hT hr => eview_any (w := w) (A := A) (l := l) cap hT hr hl hn _ _ (.inr ⟨hok, rfl, rfl⟩)
    clear hok
    unfold eph wrk at *
    go_enter Tryd.func7, Tryd.ntmps7
    go_wp2_with fail
    go_at_call 15
    refine (HV.out _ (hT.later (by repeat (first | exact Below.refl _ _ | assumption | (refine below_drewN ?_ _) | (refine Below.drew ?_) | (refine Below.alloc ?_ (by first | omega | (simp; omega) | simp) _) | (refine Below.setCell ?_ (by first | omega | (simp; omega) | simp) _) | (refine below_trans ?_ (by assumption) (by first | omega | (simp; omega) | simp))))) (hr.later (by repeat (first | exact Below.refl _ _ | assumption | (refine below_drewN ?_ _) | (refine Below.drew ?_) | (refine Below.alloc ?_ (by first | omega | (simp; omega) | simp) _) | (refine Below.setCell ?_ (by first | omega | (simp; omega) | simp) _) | (refine below_trans ?_ (by assumption) (by first | omega | (simp; omega) | simp)))))).mono ?_
    rintro e w1 ⟨rfl, hb_w1⟩
    obtain ⟨hc_w1, hf_w1⟩ := bcell hb_w1; have hz_w1_w_0 : w.heap.size < w1.heap.size := (by have hzz := hb_w1.size; (try simp only [World.size_alloc, World.size_setCell, World.size_drew, World.heap_drewN] at hzz); omega); have hz_w1_w_1 : w.heap.size + 1 < w1.heap.size := (by have hzz := hb_w1.size; (try simp only [World.size_alloc, World.size_setCell, World.size_drew, World.heap_drewN] at hzz); omega); have hs_w1 := hb_w1.size; (try simp only [World.size_alloc, World.size_setCell, World.size_drew, World.heap_drewN] at hs_w1)
    have Q := ((Bx.new (w.alloc _) _ _).later hb_w1 : Bx w1 _ _)
    simp only [World.size_alloc] at Q
    obtain ⟨q0, q1⟩ := Q
    clear hc_w1 hf_w1
    go_wp2
    exact bodyPost_ret (res_p3 rfl rfl (g := w.heap.size + 1) (v0 := .slice none 0 0) (by first | exact World.cell?_setCell_same _ _ _ q0 | exact World.cell?_setCell_same _ _ _ (by first | exact q0 | (exact (World.cell?_alloc_lt _ _ ⟨_, _, _⟩ (by first | omega | (simp; omega) | simp)).trans q0) | (exact (World.cell?_alloc_lt _ _ ⟨_, _, _⟩ (by first | omega | (simp; omega) | simp)).trans ((World.cell?_alloc_lt _ _ ⟨_, _, _⟩ (by first | omega | (simp; omega) | simp)).trans q0)) | (simp [go_sem, q0]; done)) | exact (World.cell?_alloc_lt _ _ ⟨_, _, _⟩ (by first | omega | (simp; omega) | simp)).trans (World.cell?_setCell_same _ _ _ q0) | (simp [go_sem, q0]; done))) rfl ⟨none, 0, rfl, ETab.nil _ _, (by repeat (first | exact Below.refl _ _ | assumption | (refine below_drewN ?_ _) | (refine Below.drew ?_) | (refine Below.alloc ?_ (by first | omega | (simp; omega) | simp) _) | (refine Below.setCell ?_ (by first | omega | (simp; omega) | simp) _) | (refine below_trans ?_ (by assumption) (by first | omega | (simp; omega) | simp))))⟩
  · have HV := Lib.hid fun (w : World) hT hr => eview_any (w := w) (A := A) (l := l) cap hT hr hl hn _ _ (.inl ⟨hok, rfl, rfl⟩)
    have HTW := Lib.hid fun (w : World) hr => etwin_any (w := w) (A := A) (l := l) cap hr hl hn
    unfold TwinE at HTW
    have HF := Lib.hid fun (k : Nat) (w : World) (A : Option Addr) (cap : Nat) hT hr key => efind_any (w := w) (A := A) (l := dlK l ks k) cap key hT hr (hok.dlK ks k).z
    have HLN := Lib.hid fun k => dlK_len l ks k
    have HS0 : Hid (dlK l ks 0 = l) := Lib.hid rfl
    have HN0 : Hid (dnK l ks 0 = 0) := Lib.hid rfl
    have HSY : Hid (∀ k, fd (dlK l ks k) (ks.getD k 0) < l.length → dlK l ks (k + 1) = (dlK l ks k).set (fd (dlK l ks k) (ks.getD k 0)) esG ∧ dnK l ks (k + 1) = dnK l ks k + 1) := Lib.hid fun k h => ⟨by rw [dlK, delK, if_pos (by rw [dlK_len]; exact h)]; rfl, by rw [dnK, if_pos h]⟩
    have HSN : Hid (∀ k, ¬ fd (dlK l ks k) (ks.getD k 0) < l.length → dlK l ks (k + 1) = dlK l ks k ∧ dnK l ks (k + 1) = dnK l ks k) := Lib.hid fun k h => ⟨by rw [dlK, delK, if_neg (by rw [dlK_len]; exact h)], by rw [dnK, if_neg h]; rfl⟩
    have HNL := Lib.hid fun k => dnK_le l ks k
    rw [HLN.out]
    generalize dlK l ks = D at *
    generalize dnK l ks = N at *
    clear hok
    unfold eph wrk at *
    go_enter Tryd.func7, Tryd.ntmps7
    go_wp2_with fail
    go_at_call 15
    refine (HV.out _ (hT.later (by repeat (first | exact Below.refl _ _ | assumption | (refine below_drewN ?_ _) | (refine Below.drew ?_) | (refine Below.alloc ?_ (by first | omega | (simp; omega) | simp) _) | (refine Below.setCell ?_ (by first | omega | (simp; omega) | simp) _) | (refine below_trans ?_ (by assumption) (by first | omega | (simp; omega) | simp))))) (hr.later (by repeat (first | exact Below.refl _ _ | assumption | (refine below_drewN ?_ _) | (refine Below.drew ?_) | (refine Below.alloc ?_ (by first | omega | (simp; omega) | simp) _) | (refine Below.setCell ?_ (by first | omega | (simp; omega) | simp) _) | (refine below_trans ?_ (by assumption) (by first | omega | (simp; omega) | simp)))))).mono ?_
    rintro e w1 ⟨rfl, hb_w1⟩
    obtain ⟨hc_w1, hf_w1⟩ := bcell hb_w1; have hz_w1_w_0 : w.heap.size < w1.heap.size := (by have hzz := hb_w1.size; (try simp only [World.size_alloc, World.size_setCell, World.size_drew, World.heap_drewN] at hzz); omega); have hz_w1_w_1 : w.heap.size + 1 < w1.heap.size := (by have hzz := hb_w1.size; (try simp only [World.size_alloc, World.size_setCell, World.size_drew, World.heap_drewN] at hzz); omega); have hs_w1 := hb_w1.size; (try simp only [World.size_alloc, World.size_setCell, World.size_drew, World.heap_drewN] at hs_w1)
    have b1 : Below w.heap.size w w1 := (by repeat (first | exact Below.refl _ _ | assumption | (refine below_drewN ?_ _) | (refine Below.drew ?_) | (refine Below.alloc ?_ (by first | omega | (simp; omega) | simp) _) | (refine Below.setCell ?_ (by first | omega | (simp; omega) | simp) _) | (refine below_trans ?_ (by assumption) (by first | omega | (simp; omega) | simp))))
    have Q := ((Bx.new (w.alloc _) _ _).later hb_w1 : Bx w1 _ _)
    simp only [World.size_alloc] at Q
    clear hc_w1 hf_w1
    go_wp2_with fail
    go_at_call 16
    refine (HTW.out _ ((hr.later b1).later (by repeat (first | exact Below.refl _ _ | assumption | (refine below_drewN ?_ _) | (refine Below.drew ?_) | (refine Below.alloc ?_ (by first | omega | (simp; omega) | simp) _) | (refine Below.setCell ?_ (by first | omega | (simp; omega) | simp) _) | (refine below_trans ?_ (by assumption) (by first | omega | (simp; omega) | simp)))))).mono ?_
    rintro e w2 ⟨B2, c2, rfl, o2, hb_w2⟩
    obtain ⟨hc_w2, hf_w2⟩ := bcell hb_w2; have hz_w2_w1_0 : w1.heap.size < w2.heap.size := (by have hzz := hb_w2.size; (try simp only [World.size_alloc, World.size_setCell, World.size_drew, World.heap_drewN] at hzz); omega); have hs_w2 := hb_w2.size; (try simp only [World.size_alloc, World.size_setCell, World.size_drew, World.heap_drewN] at hs_w2)
    have b2 : Below w.heap.size w w2 := (by repeat (first | exact Below.refl _ _ | assumption | (refine below_drewN ?_ _) | (refine Below.drew ?_) | (refine Below.alloc ?_ (by first | omega | (simp; omega) | simp) _) | (refine Below.setCell ?_ (by first | omega | (simp; omega) | simp) _) | (refine below_trans ?_ (by assumption) (by first | omega | (simp; omega) | simp))))
    have P := ((Bx.new w1 _ _).later hb_w2 : Bx w2 _ _)
    have Q := ((Q.alloc _).later hb_w2 : Bx w2 _ _)
    have o2 := o2.mono (B' := w1.heap.size + 1) (by simp)
    have hnil := Lib.hid o2.nil_
    have n1 : ¬ (w.heap.size + 1 = w1.heap.size) := by omega
    have n2 : ¬ (w1.heap.size = w.heap.size + 1) := by omega
    have P' := Lib.hid (P.set (.slice B2 l.length c2))
    have Q' := Lib.hid (Q.far (p := ⟨w1.heap.size, 0, none⟩) (by show w1.heap.size ≠ _; omega) (.slice B2 l.length c2))
    have o2' := Lib.hid (o2.own.far (p := ⟨w1.heap.size, 0, none⟩) (by show w1.heap.size < _; omega) (.slice B2 l.length c2))
    obtain ⟨p0, p1⟩ := P
    clear hc_w2 hf_w2 Q o2
    go_wp2_with fail
    go_loopw [9, 26] (fun nn ii wr => ∃ k : Nat, ii = .int .i64 (k : Nat) ∧ k ≤ ks.length ∧ nn = .int .i64 (N k : Nat) ∧ EOwn wr (w1.heap.size + 1) B2 (D k) ∧ Bx wr w1.heap.size (.slice B2 l.length c2) ∧ Bx wr (w.heap.size + 1) (.slice none 0 0) ∧ w1.heap.size + 1 ≤ wr.heap.size ∧ Below w.heap.size w wr) (fun nn ii _ => ks.length - (intOf ii).toNat)
    case atStart => exact ⟨0, rfl, Nat.zero_le _, by rw [HN0.out]; rfl, by rw [HS0.out]; exact o2'.out, P'.out, Q'.out, (by first | omega | (simp; omega) | simp), (by repeat (first | exact Below.refl _ _ | assumption | (refine below_drewN ?_ _) | (refine Below.drew ?_) | (refine Below.alloc ?_ (by first | omega | (simp; omega) | simp) _) | (refine Below.setCell ?_ (by first | omega | (simp; omega) | simp) _) | (refine below_trans ?_ (by assumption) (by first | omega | (simp; omega) | simp))))⟩
    case round =>
      clear P' Q' o2' hb_w2 hz_w2_w1_0 hs_w2
      obtain ⟨k, rfl, hk, rfl, eo, P, Q, hsz, hb_wr⟩ := hrel
      have hNk := HNL.out k
      have hsr := hb_wr.size
      by_cases hlt : k < ks.length
      · obtain ⟨b, off, rfl, hbb, hcc⟩ := (hq.later hb_wr).cellAt (k := k) hlt
        have i1 : (k : Int) < (ks.length : Int) := by omega
        have i2 : (0 : Int) ≤ (k : Int) := by omega
        have HFK := Lib.hid fun w A cap hT hr key => HF.out k w A cap hT hr key
        rw [HLN.out] at HFK
        have HY := HSY.out k
        have HX := HSN.out k
        generalize ks.getD k 0 = key at *
        have hTr := hT.later hb_wr
        have p0 := P.c
        by_cases hf : fd (D k) key < l.length
        · obtain ⟨e1, e2⟩ := HY hf
          have HFK := Lib.hid fun w A cap hT hr => HFK.out w A cap hT hr key
          rw [toI_lt hf] at HFK
          have E2 := Lib.hid e2
          have hDl := HLN.out k
          have HSET := Lib.hid fun (W : World) (g : Nat) (h : EOwn W (w1.heap.size + 1) (some ⟨g, 0, none⟩) (D k)) => h.set rfl (a := fd (D k) key) (by omega) esG ⟨by decide, by unfold W64; decide, by unfold W64; decide⟩
          rw [← e1] at HSET
          generalize hfd : fd (D k) key = a at *
          have j1 : (a : Int) < (l.length : Int) := by omega
          have j2 : (0 : Int) ≤ (a : Int) := by omega
          have f2 : decide ((0 : Int) ≤ (a : Int)) = true := decide_eq_true (by omega)
          obtain ⟨g, rfl, hgB, hgl, _⟩ := eo.at_ (by omega)
          clear HY HX e1 e2 hfd
          go_wp2_with fail
          go_at_call 17
          refine (HFK.out _ _ _ (hTr.later (by repeat (first | exact Below.refl _ _ | assumption | (refine below_drewN ?_ _) | (refine Below.drew ?_) | (refine Below.alloc ?_ (by first | omega | (simp; omega) | simp) _) | (refine Below.setCell ?_ (by first | omega | (simp; omega) | simp) _) | (refine below_trans ?_ (by assumption) (by first | omega | (simp; omega) | simp))))) (eo.row.later (by repeat (first | exact Below.refl _ _ | assumption | (refine below_drewN ?_ _) | (refine Below.drew ?_) | (refine Below.alloc ?_ (by first | omega | (simp; omega) | simp) _) | (refine Below.setCell ?_ (by first | omega | (simp; omega) | simp) _) | (refine below_trans ?_ (by assumption) (by first | omega | (simp; omega) | simp)))))).mono ?_
          rintro e w3 ⟨rfl, hb_w3⟩
          obtain ⟨hc_w3, hf_w3⟩ := bcell hb_w3; have hs_w3 := hb_w3.size; (try simp only [World.size_alloc, World.size_setCell, World.size_drew, World.heap_drewN] at hs_w3)
          have P3 := (P.later hb_w3 : Bx w3 _ _)
          have Q3 := (Q.later hb_w3 : Bx w3 _ _)
          have o3 := eo.later hb_w3
          obtain ⟨g', e, _, hg3, hcc3, hff⟩ := o3.at_ (by omega)
          injection e with e
          injection e with e
          subst e
          obtain ⟨d0, d1, d2⟩ := hcc3 a (by omega)
          have fz0 := hff (a * 3)
          have fz1 := hff (a * 3 + 1)
          have fz2 := hff (a * 3 + 2)
          have n3 : ¬ (g = w1.heap.size) := by omega
          have n4 : ¬ (w1.heap.size = g) := by omega
          have OF := Lib.hid (HSET.out _ _ o3)
          have P4 := Lib.hid (((P3.far (p := ⟨g, a * 3, none⟩) (by show g ≠ _; omega) (.int .u8 (esG.s : Nat))).far (p := ⟨g, a * 3 + 1, none⟩) (by show g ≠ _; omega) (.int .u64 (esG.k : Nat))).far (p := ⟨g, a * 3 + 2, none⟩) (by show g ≠ _; omega) (.int .u64 (esG.v : Nat)))
          have Q4 := Lib.hid (((Q3.far (p := ⟨g, a * 3, none⟩) (by show g ≠ _; omega) (.int .u8 (esG.s : Nat))).far (p := ⟨g, a * 3 + 1, none⟩) (by show g ≠ _; omega) (.int .u64 (esG.k : Nat))).far (p := ⟨g, a * 3 + 2, none⟩) (by show g ≠ _; omega) (.int .u64 (esG.v : Nat)))
          have p30 := P3.c
          clear hc_w3 hf_w3 hcc3 hff P3 Q3 o3 p0 HSET
          go_wp2
          go_roundw
          case rel => exact ⟨k + 1, by go_num, by omega, by rw [E2.out]; go_num, OF.out, P4.out, Q4.out, (by first | omega | (simp; omega) | simp), (by repeat (first | exact Below.refl _ _ | assumption | (refine below_drewN ?_ _) | (refine Below.drew ?_) | (refine Below.alloc ?_ (by first | omega | (simp; omega) | simp) _) | (refine Below.setCell ?_ (by first | omega | (simp; omega) | simp) _) | (refine below_trans ?_ (by assumption) (by first | omega | (simp; omega) | simp))))⟩
          case measure => simp [intOf]; omega
        · obtain ⟨e1, e2⟩ := HX hf
          have HFK := Lib.hid fun w A cap hT hr => HFK.out w A cap hT hr key
          rw [toI_no hf] at HFK
          have E1 := Lib.hid e1
          have E2 := Lib.hid e2
          clear HY HX e1 e2 hf
          go_wp2_with fail
          go_at_call 17
          refine (HFK.out _ _ _ (hTr.later (by repeat (first | exact Below.refl _ _ | assumption | (refine below_drewN ?_ _) | (refine Below.drew ?_) | (refine Below.alloc ?_ (by first | omega | (simp; omega) | simp) _) | (refine Below.setCell ?_ (by first | omega | (simp; omega) | simp) _) | (refine below_trans ?_ (by assumption) (by first | omega | (simp; omega) | simp))))) (eo.row.later (by repeat (first | exact Below.refl _ _ | assumption | (refine below_drewN ?_ _) | (refine Below.drew ?_) | (refine Below.alloc ?_ (by first | omega | (simp; omega) | simp) _) | (refine Below.setCell ?_ (by first | omega | (simp; omega) | simp) _) | (refine below_trans ?_ (by assumption) (by first | omega | (simp; omega) | simp)))))).mono ?_
          rintro e w3 ⟨rfl, hb_w3⟩
          obtain ⟨hc_w3, hf_w3⟩ := bcell hb_w3; have hs_w3 := hb_w3.size; (try simp only [World.size_alloc, World.size_setCell, World.size_drew, World.heap_drewN] at hs_w3)
          have P3 := Lib.hid (P.later hb_w3 : Bx w3 _ _)
          have Q3 := Lib.hid (Q.later hb_w3 : Bx w3 _ _)
          have o3 := Lib.hid (eo.later hb_w3)
          clear hc_w3 hf_w3
          go_wp2
          go_roundw
          case rel => exact ⟨k + 1, by go_num, by omega, by rw [E2.out], by rw [E1.out]; exact o3.out, P3.out, Q3.out, (by first | omega | (simp; omega) | simp), (by repeat (first | exact Below.refl _ _ | assumption | (refine below_drewN ?_ _) | (refine Below.drew ?_) | (refine Below.alloc ?_ (by first | omega | (simp; omega) | simp) _) | (refine Below.setCell ?_ (by first | omega | (simp; omega) | simp) _) | (refine below_trans ?_ (by assumption) (by first | omega | (simp; omega) | simp))))⟩
          case measure => simp [intOf]; omega
      · obtain rfl : k = ks.length := by omega
        obtain ⟨p0, p1⟩ := P
        obtain ⟨q0, q1⟩ := Q
        go_wp2
        exact bodyPost_ret (res_p3 rfl rfl (g := w.heap.size + 1) (v0 := .slice B2 l.length c2) (by first | exact World.cell?_setCell_same _ _ _ q0 | exact World.cell?_setCell_same _ _ _ (by first | exact q0 | (exact (World.cell?_alloc_lt _ _ ⟨_, _, _⟩ (by first | omega | (simp; omega) | simp)).trans q0) | (exact (World.cell?_alloc_lt _ _ ⟨_, _, _⟩ (by first | omega | (simp; omega) | simp)).trans ((World.cell?_alloc_lt _ _ ⟨_, _, _⟩ (by first | omega | (simp; omega) | simp)).trans q0)) | (simp [go_sem, q0]; done)) | exact (World.cell?_alloc_lt _ _ ⟨_, _, _⟩ (by first | omega | (simp; omega) | simp)).trans (World.cell?_setCell_same _ _ _ q0) | (simp [go_sem, q0]; done))) rfl ⟨B2, c2, rfl, ⟨(eo.far (by show w.heap.size + 1 < _; omega) _).mono (by omega), hnil.out⟩, (by repeat (first | exact Below.refl _ _ | assumption | (refine below_drewN ?_ _) | (refine Below.drew ?_) | (refine Below.alloc ?_ (by first | omega | (simp; omega) | simp) _) | (refine Below.setCell ?_ (by first | omega | (simp; omega) | simp) _) | (refine below_trans ?_ (by assumption) (by first | omega | (simp; omega) | simp))))⟩
end
end Go.Proofs.YtdeopodfpeeenaaDoor
