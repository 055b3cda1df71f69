/- The walk of the law WeakForever. -/
import Derived.Test.YtkfcnjdjcnfmfaaW10
import Derived.Test.YtkfcnjdjcnfmfaaOpenW
namespace Go.Proofs.Ytkfcnjdjcnfmfaa
open Go.RowKit
set_option linter.unusedVariables false
set_option linter.unusedSimpArgs false

/-- a table that is right, and whose i-th handle leads to v -/
structure Leads (t : List Nat) (i : Int) (v : Nat) : Prop where
  ok : OkW t
  lo : 1 ≤ i
  hi : i ≤ t.length
  at_ : t.getD (i - 1).toNat 0 = v
theorem Leads.getE {t : List Nat} {i : Int} {v : Nat} (h : Leads t i v) : GetE t i v 0 := .inr (.inr ⟨h.ok, h.lo, h.hi, h.at_.symm, rfl⟩)
theorem Leads.len {t : List Nat} {i : Int} {v : Nat} (h : Leads t i v) : t.length ≤ 17592186044416 := by have := h.ok.1; omega
theorem Leads.clr {t : List Nat} {i : Int} {v : Nat} (h : Leads t i v) (a : Nat) : Leads (clrT t [a]) i (if v = a then 0 else v) := by
  refine ⟨okW_clr _ h.ok, h.lo, by rw [clrT_len]; exact h.hi, ?_⟩
  rw [clrT_at, h.at_]
  simp
theorem Leads.made {t r : List Nat} {i : Int} {v a hh : Nat} {y : Int} (h : Leads t i v) (hE : MkE t a r hh y) : Leads r i v := by
  rcases hE with ⟨h1, _⟩ | ⟨h1, h2, rfl, _⟩ | ⟨h1, h2, h3, rfl, _⟩ | ⟨_, _, _, _, rfl, _⟩ | ⟨h1, h2, h3, h4, rfl, _⟩
  · exact absurd h.ok h1
  · exact h
  · exact h
  · exact h
  · refine ⟨okW_snoc h1 h2 h3 h4, h.lo, ?_, ?_⟩
    · have := h.hi
      simp only [List.length_append, List.length_singleton]
      omega
    · have := h.hi
      have := h.lo
      rw [getD_snoc, if_pos (by omega)]
      exact h.at_
set_option maxHeartbeats 8000000 in
theorem weakForever_walk (A S : Option Addr) (cap cs : Nat) (t : List Nat) (l : List StW) (i : Int) (w : World) (hr : Row w w.heap.size A t) (hcl : t.length ≤ cap) (hl : t.length ≤ 17592186044416) (hnil : A = none → cap = 0) (hi1 : -9223372036854775808 ≤ i) (hi2 : i ≤ 9223372036854775807) (hq : StRow w w.heap.size S l) (hql : l.length ≤ 8796093022208) :
    Calls Try.prog 4 #[.slice A t.length cap, .int .i64 i, .slice S l.length cs] w fun e w' => e = .returned (.bool true) ∧ Below w.heap.size w w' := by
  obtain ⟨v0, y0, hE0⟩ := GetE.ex t i
  have HG0 := Lib.hid fun (w : World) hr => wget_any (w := w) (A := A) (t := t) cap hr hcl hl i hi1 hi2 _ _ hE0
  by_cases hy : y0 = 0
  · subst hy
    have HOK0 : Hid (Leads t i v0) := Lib.hid (by
      rcases hE0 with ⟨_, _, e⟩ | ⟨_, _, _, e⟩ | ⟨h1, h2, h3, h4, _⟩
      · cases e
      · cases e
      · exact ⟨h1, h2, h3, h4.symm⟩)
    clear hE0
    go_enter Try.func4, Try.ntmps4
    go_wp2_with fail
    go_at_call 17
    refine (wlives_any _).mono ?_
    rintro e w1 ⟨rfl, hb_w1⟩
    obtain ⟨hc_w1, hf_w1⟩ := bcell hb_w1; have hs_w1 := hb_w1.size; (try simp only [World.size_alloc, World.size_setCell, World.size_drew, World.heap_drewN] at hs_w1)
    have b1 : Below w.heap.size w w1 := (by repeat (first | exact Below.refl _ _ | assumption | (refine below_drewN ?_ _) | (refine Below.drew ?_) | (refine Below.alloc ?_ (by first | omega | (simp; omega) | simp) _) | (refine Below.setCell ?_ (by first | omega | (simp; omega) | simp) _) | (refine below_trans ?_ (by assumption) (by first | omega | (simp; omega) | simp))))
    go_wp2_with fail
    go_at_call 11
    refine (HG0.out _ ((hr.later b1).later (by repeat (first | exact Below.refl _ _ | assumption | (refine below_drewN ?_ _) | (refine Below.drew ?_) | (refine Below.alloc ?_ (by first | omega | (simp; omega) | simp) _) | (refine Below.setCell ?_ (by first | omega | (simp; omega) | simp) _) | (refine below_trans ?_ (by assumption) (by first | omega | (simp; omega) | simp)))))).mono ?_
    rintro e w2 ⟨rfl, hb_w2⟩
    obtain ⟨hc_w2, hf_w2⟩ := bcell hb_w2; have hs_w2 := hb_w2.size; (try simp only [World.size_alloc, World.size_setCell, World.size_drew, World.heap_drewN] at hs_w2)
    have b2 : Below w.heap.size w w2 := (by repeat (first | exact Below.refl _ _ | assumption | (refine below_drewN ?_ _) | (refine Below.drew ?_) | (refine Below.alloc ?_ (by first | omega | (simp; omega) | simp) _) | (refine Below.setCell ?_ (by first | omega | (simp; omega) | simp) _) | (refine below_trans ?_ (by assumption) (by first | omega | (simp; omega) | simp))))
    have r2 := hr.later b2
    clear hc_w1 hf_w1 hc_w2 hf_w2
    go_wp2_with fail
    go_loopw [0, 7, 25] (fun tt vv ii wr => ∃ k : Nat, ii = .int .i64 (k : Nat) ∧ k ≤ l.length ∧ ∃ (A' : Option Addr) (cap' : Nat) (t' : List Nat) (v : Nat), tt = .slice A' t'.length cap' ∧ vv = .int .u64 (v : Nat) ∧ Row wr wr.heap.size A' t' ∧ t'.length ≤ cap' ∧ (A' = none → cap' = 0) ∧ Hid (Leads t' i v) ∧ w.heap.size ≤ wr.heap.size ∧ Below w.heap.size w wr) (fun _ _ ii _ => l.length - (intOf ii).toNat)
    case atStart => exact ⟨0, rfl, Nat.zero_le _, A, cap, t, v0, rfl, rfl, r2, hcl, hnil, HOK0, (by first | omega | (simp; omega) | simp), b2⟩
    case round =>
      clear r2 HG0 HOK0
      obtain ⟨k, rfl, hk, A', cap', t', v, rfl, rfl, rt, kt, jt, HL, hsz, hb_wr⟩ := hrel
      have hsr := hb_wr.size
      by_cases hlt : k < l.length
      · obtain ⟨b, off, hS, hbb, hc⟩ := (show StRow wr wr.heap.size S l from hq.later hb_wr) (by omega)
        obtain ⟨ca, c0, c1⟩ := hc k hlt
        clear hc
        generalize nthS l k = s at *
        obtain ⟨sc, a⟩ := s
        simp only at ca c0 c1
        subst hS
        have i1 : (k : Int) < (l.length : Int) := by omega
        have i2 : (0 : Int) ≤ (k : Int) := by omega
        by_cases h40 : k = 40
        · subst h40
          go_wp2
          go_ret
          exact ⟨rfl, (by repeat (first | exact Below.refl _ _ | assumption | (refine below_drewN ?_ _) | (refine Below.drew ?_) | (refine Below.alloc ?_ (by first | omega | (simp; omega) | simp) _) | (refine Below.setCell ?_ (by first | omega | (simp; omega) | simp) _) | (refine below_trans ?_ (by assumption) (by first | omega | (simp; omega) | simp))))⟩
        · have f0 : ((k : Int) == 40) = false := by simp; omega
          have f0' : (k == 40) = false := by simp; omega
          clear h40
          have hl' := HL.out.len
          cases sc
          · obtain ⟨u, hh, y, hE⟩ := MkE.ex t' a
            have HOK : Hid (Leads u i v) := Lib.hid (HL.out.made hE)
            have hlu := HOK.out.len
            have HM := Lib.hid fun (w : World) hr => wmake_any (w := w) (A := A') (t := t') cap' hr kt hl' jt a ca _ _ _ hE
            have HG := Lib.hid fun (w : World) (A : Option Addr) (cap : Nat) hr hc => wget_any (w := w) (A := A) (t := u) cap hr hc hlu i hi1 hi2 _ _ HOK.out.getE
            have HC := Lib.hid fun (w : World) (A : Option Addr) (cap : Nat) hr hc => wcheck_any (w := w) (A := A) (t := u) cap hr hc hlu 0 (.inl ⟨HOK.out.ok, rfl⟩)
            have nv : ((v : Int) != (v : Int)) = false := by simp
            clear hE
            go_wp2_with fail
            go_at_call 9
            refine (HM.out _ (rt.later (by repeat (first | exact Below.refl _ _ | assumption | (refine below_drewN ?_ _) | (refine Below.drew ?_) | (refine Below.alloc ?_ (by first | omega | (simp; omega) | simp) _) | (refine Below.setCell ?_ (by first | omega | (simp; omega) | simp) _) | (refine below_trans ?_ (by assumption) (by first | omega | (simp; omega) | simp)))))).mono ?_
            rintro e w5 ⟨A5, c5, rfl, o5, hb_w5⟩
            obtain ⟨hc_w5, hf_w5⟩ := bcell hb_w5; have hs_w5 := hb_w5.size; (try simp only [World.size_alloc, World.size_setCell, World.size_drew, World.heap_drewN] at hs_w5)
            have b6 : Below w.heap.size w w5 := (by repeat (first | exact Below.refl _ _ | assumption | (refine below_drewN ?_ _) | (refine Below.drew ?_) | (refine Below.alloc ?_ (by first | omega | (simp; omega) | simp) _) | (refine Below.setCell ?_ (by first | omega | (simp; omega) | simp) _) | (refine below_trans ?_ (by assumption) (by first | omega | (simp; omega) | simp))))
            have rr := o5.row
            have kk := o5.cap_
            have jj := o5.nil_
            clear hc_w5 hf_w5 o5
            go_wp2_with fail
            go_at_call 11
            refine (HG.out _ _ _ (rr.later (by repeat (first | exact Below.refl _ _ | assumption | (refine below_drewN ?_ _) | (refine Below.drew ?_) | (refine Below.alloc ?_ (by first | omega | (simp; omega) | simp) _) | (refine Below.setCell ?_ (by first | omega | (simp; omega) | simp) _) | (refine below_trans ?_ (by assumption) (by first | omega | (simp; omega) | simp))))) kk).mono ?_
            rintro e w6 ⟨rfl, hb_w6⟩
            obtain ⟨hc_w6, hf_w6⟩ := bcell hb_w6; have hs_w6 := hb_w6.size; (try simp only [World.size_alloc, World.size_setCell, World.size_drew, World.heap_drewN] at hs_w6)
            have b7 : Below w.heap.size w w6 := (by repeat (first | exact Below.refl _ _ | assumption | (refine below_drewN ?_ _) | (refine Below.drew ?_) | (refine Below.alloc ?_ (by first | omega | (simp; omega) | simp) _) | (refine Below.setCell ?_ (by first | omega | (simp; omega) | simp) _) | (refine below_trans ?_ (by assumption) (by first | omega | (simp; omega) | simp))))
            have rr := rr.later hb_w6
            go_wp2_with fail
            go_at_call 19
            refine (HC.out _ _ _ (rr.later (by repeat (first | exact Below.refl _ _ | assumption | (refine below_drewN ?_ _) | (refine Below.drew ?_) | (refine Below.alloc ?_ (by first | omega | (simp; omega) | simp) _) | (refine Below.setCell ?_ (by first | omega | (simp; omega) | simp) _) | (refine below_trans ?_ (by assumption) (by first | omega | (simp; omega) | simp))))) kk).mono ?_
            rintro e w7 ⟨rfl, hb_w7⟩
            obtain ⟨hc_w7, hf_w7⟩ := bcell hb_w7; have hs_w7 := hb_w7.size; (try simp only [World.size_alloc, World.size_setCell, World.size_drew, World.heap_drewN] at hs_w7)
            have b8 : Below w.heap.size w w7 := (by repeat (first | exact Below.refl _ _ | assumption | (refine below_drewN ?_ _) | (refine Below.drew ?_) | (refine Below.alloc ?_ (by first | omega | (simp; omega) | simp) _) | (refine Below.setCell ?_ (by first | omega | (simp; omega) | simp) _) | (refine below_trans ?_ (by assumption) (by first | omega | (simp; omega) | simp))))
            have rr := rr.later hb_w7
            go_wp2
            go_roundw
            case rel => exact ⟨k + 1, by go_num, by omega, _, c5, u, v, rfl, rfl, rr, kk, jj, HOK, (by first | omega | (simp; omega) | simp), (by repeat (first | exact Below.refl _ _ | assumption | (refine below_drewN ?_ _) | (refine Below.drew ?_) | (refine Below.alloc ?_ (by first | omega | (simp; omega) | simp) _) | (refine Below.setCell ?_ (by first | omega | (simp; omega) | simp) _) | (refine below_trans ?_ (by assumption) (by first | omega | (simp; omega) | simp))))⟩
            case measure => simp [intOf]; omega
          · have HOK0 := HL.out.clr a
            have HLN := clrT_len t' [a]
            have HM := Lib.hid fun (w : World) (G : Option Addr) hr hq => wclear_any (w := w) (A := A') (G := G) (t := t') (gs := [a]) cap' 1 hr kt hl' jt hq (by simp) _ _ _ (.inr ⟨HL.out.ok, rfl, rfl, rfl⟩)
            simp only [List.length_cons, List.length_nil, Nat.zero_add] at HM
            have HN := Lib.hid fun (w : World) (g : Nat) hg => row_litG w g a hg ca
            obtain ⟨u, hu⟩ : ∃ u, clrT t' [a] = u := ⟨_, rfl⟩
            generalize clrH t' [a] t'.length = lh at *
            rw [hu] at HM HOK0 HLN
            clear hu HLN
            by_cases hav : v = a
            · rw [if_pos hav] at HOK0
              have HOK := Lib.hid HOK0
              have hlu := HOK.out.len
              have HG := Lib.hid fun (w : World) (A : Option Addr) (cap : Nat) hr hc => wget_any (w := w) (A := A) (t := u) cap hr hc hlu i hi1 hi2 _ _ HOK.out.getE
              have HC := Lib.hid fun (w : World) (A : Option Addr) (cap : Nat) hr hc => wcheck_any (w := w) (A := A) (t := u) cap hr hc hlu 0 (.inl ⟨HOK.out.ok, rfl⟩)
              have f1 : ((a : Int) == (v : Int)) = true := by simp; omega
              clear hav HOK0 HL
              go_wp2_with fail
              go_at_call 13
              refine (HM.out _ _ (rt.later (by repeat (first | exact Below.refl _ _ | assumption | (refine below_drewN ?_ _) | (refine Below.drew ?_) | (refine Below.alloc ?_ (by first | omega | (simp; omega) | simp) _) | (refine Below.setCell ?_ (by first | omega | (simp; omega) | simp) _) | (refine below_trans ?_ (by assumption) (by first | omega | (simp; omega) | simp))))) (by exact HN.out _ _ (by simp))).mono ?_
              rintro e w5 ⟨A5, c5, C5, d5, rfl, o5, p5, _, hb_w5⟩
              obtain ⟨hc_w5, hf_w5⟩ := bcell hb_w5; have hs_w5 := hb_w5.size; (try simp only [World.size_alloc, World.size_setCell, World.size_drew, World.heap_drewN] at hs_w5)
              have ka : w5.cell? ⟨wr.heap.size, 1, none⟩ = some (.int .u64 (a : Nat)) := (hc_w5 _ _ (by first | omega | (simp; omega) | simp)).trans (by simp [go_sem])
              have b6 : Below w.heap.size w w5 := (by repeat (first | exact Below.refl _ _ | assumption | (refine below_drewN ?_ _) | (refine Below.drew ?_) | (refine Below.alloc ?_ (by first | omega | (simp; omega) | simp) _) | (refine Below.setCell ?_ (by first | omega | (simp; omega) | simp) _) | (refine below_trans ?_ (by assumption) (by first | omega | (simp; omega) | simp))))
              have rr := o5.row
              have kk := o5.cap_
              have jj := o5.nil_
              clear hc_w5 hf_w5 o5 p5
              go_wp2_with fail
              go_at_call 11
              refine (HG.out _ _ _ (rr.later (by repeat (first | exact Below.refl _ _ | assumption | (refine below_drewN ?_ _) | (refine Below.drew ?_) | (refine Below.alloc ?_ (by first | omega | (simp; omega) | simp) _) | (refine Below.setCell ?_ (by first | omega | (simp; omega) | simp) _) | (refine below_trans ?_ (by assumption) (by first | omega | (simp; omega) | simp))))) kk).mono ?_
              rintro e w6 ⟨rfl, hb_w6⟩
              obtain ⟨hc_w6, hf_w6⟩ := bcell hb_w6; have hs_w6 := hb_w6.size; (try simp only [World.size_alloc, World.size_setCell, World.size_drew, World.heap_drewN] at hs_w6)
              have b7 : Below w.heap.size w w6 := (by repeat (first | exact Below.refl _ _ | assumption | (refine below_drewN ?_ _) | (refine Below.drew ?_) | (refine Below.alloc ?_ (by first | omega | (simp; omega) | simp) _) | (refine Below.setCell ?_ (by first | omega | (simp; omega) | simp) _) | (refine below_trans ?_ (by assumption) (by first | omega | (simp; omega) | simp))))
              have rr := rr.later hb_w6
              go_wp2_with fail
              go_at_call 19
              refine (HC.out _ _ _ (rr.later (by repeat (first | exact Below.refl _ _ | assumption | (refine below_drewN ?_ _) | (refine Below.drew ?_) | (refine Below.alloc ?_ (by first | omega | (simp; omega) | simp) _) | (refine Below.setCell ?_ (by first | omega | (simp; omega) | simp) _) | (refine below_trans ?_ (by assumption) (by first | omega | (simp; omega) | simp))))) kk).mono ?_
              rintro e w7 ⟨rfl, hb_w7⟩
              obtain ⟨hc_w7, hf_w7⟩ := bcell hb_w7; have hs_w7 := hb_w7.size; (try simp only [World.size_alloc, World.size_setCell, World.size_drew, World.heap_drewN] at hs_w7)
              have b8 : Below w.heap.size w w7 := (by repeat (first | exact Below.refl _ _ | assumption | (refine below_drewN ?_ _) | (refine Below.drew ?_) | (refine Below.alloc ?_ (by first | omega | (simp; omega) | simp) _) | (refine Below.setCell ?_ (by first | omega | (simp; omega) | simp) _) | (refine below_trans ?_ (by assumption) (by first | omega | (simp; omega) | simp))))
              have rr := rr.later hb_w7
              go_wp2
              go_roundw
              case rel => exact ⟨k + 1, by go_num, by omega, _, c5, u, 0, rfl, rfl, rr, kk, jj, HOK, (by first | omega | (simp; omega) | simp), (by repeat (first | exact Below.refl _ _ | assumption | (refine below_drewN ?_ _) | (refine Below.drew ?_) | (refine Below.alloc ?_ (by first | omega | (simp; omega) | simp) _) | (refine Below.setCell ?_ (by first | omega | (simp; omega) | simp) _) | (refine below_trans ?_ (by assumption) (by first | omega | (simp; omega) | simp))))⟩
              case measure => simp [intOf]; omega
            · rw [if_neg hav] at HOK0
              have HOK := Lib.hid HOK0
              have hlu := HOK.out.len
              have HG := Lib.hid fun (w : World) (A : Option Addr) (cap : Nat) hr hc => wget_any (w := w) (A := A) (t := u) cap hr hc hlu i hi1 hi2 _ _ HOK.out.getE
              have HC := Lib.hid fun (w : World) (A : Option Addr) (cap : Nat) hr hc => wcheck_any (w := w) (A := A) (t := u) cap hr hc hlu 0 (.inl ⟨HOK.out.ok, rfl⟩)
              have f1 : ((a : Int) == (v : Int)) = false := by simp; omega
              have nv : ((v : Int) != (v : Int)) = false := by simp
              clear hav HOK0 HL
              go_wp2_with fail
              go_at_call 13
              refine (HM.out _ _ (rt.later (by repeat (first | exact Below.refl _ _ | assumption | (refine below_drewN ?_ _) | (refine Below.drew ?_) | (refine Below.alloc ?_ (by first | omega | (simp; omega) | simp) _) | (refine Below.setCell ?_ (by first | omega | (simp; omega) | simp) _) | (refine below_trans ?_ (by assumption) (by first | omega | (simp; omega) | simp))))) (by exact HN.out _ _ (by simp))).mono ?_
              rintro e w5 ⟨A5, c5, C5, d5, rfl, o5, p5, _, hb_w5⟩
              obtain ⟨hc_w5, hf_w5⟩ := bcell hb_w5; have hs_w5 := hb_w5.size; (try simp only [World.size_alloc, World.size_setCell, World.size_drew, World.heap_drewN] at hs_w5)
              have ka : w5.cell? ⟨wr.heap.size, 1, none⟩ = some (.int .u64 (a : Nat)) := (hc_w5 _ _ (by first | omega | (simp; omega) | simp)).trans (by simp [go_sem])
              have b6 : Below w.heap.size w w5 := (by repeat (first | exact Below.refl _ _ | assumption | (refine below_drewN ?_ _) | (refine Below.drew ?_) | (refine Below.alloc ?_ (by first | omega | (simp; omega) | simp) _) | (refine Below.setCell ?_ (by first | omega | (simp; omega) | simp) _) | (refine below_trans ?_ (by assumption) (by first | omega | (simp; omega) | simp))))
              have rr := o5.row
              have kk := o5.cap_
              have jj := o5.nil_
              clear hc_w5 hf_w5 o5 p5
              go_wp2_with fail
              go_at_call 11
              refine (HG.out _ _ _ (rr.later (by repeat (first | exact Below.refl _ _ | assumption | (refine below_drewN ?_ _) | (refine Below.drew ?_) | (refine Below.alloc ?_ (by first | omega | (simp; omega) | simp) _) | (refine Below.setCell ?_ (by first | omega | (simp; omega) | simp) _) | (refine below_trans ?_ (by assumption) (by first | omega | (simp; omega) | simp))))) kk).mono ?_
              rintro e w6 ⟨rfl, hb_w6⟩
              obtain ⟨hc_w6, hf_w6⟩ := bcell hb_w6; have hs_w6 := hb_w6.size; (try simp only [World.size_alloc, World.size_setCell, World.size_drew, World.heap_drewN] at hs_w6)
              have b7 : Below w.heap.size w w6 := (by repeat (first | exact Below.refl _ _ | assumption | (refine below_drewN ?_ _) | (refine Below.drew ?_) | (refine Below.alloc ?_ (by first | omega | (simp; omega) | simp) _) | (refine Below.setCell ?_ (by first | omega | (simp; omega) | simp) _) | (refine below_trans ?_ (by assumption) (by first | omega | (simp; omega) | simp))))
              have rr := rr.later hb_w6
              go_wp2_with fail
              go_at_call 19
              refine (HC.out _ _ _ (rr.later (by repeat (first | exact Below.refl _ _ | assumption | (refine below_drewN ?_ _) | (refine Below.drew ?_) | (refine Below.alloc ?_ (by first | omega | (simp; omega) | simp) _) | (refine Below.setCell ?_ (by first | omega | (simp; omega) | simp) _) | (refine below_trans ?_ (by assumption) (by first | omega | (simp; omega) | simp))))) kk).mono ?_
              rintro e w7 ⟨rfl, hb_w7⟩
              obtain ⟨hc_w7, hf_w7⟩ := bcell hb_w7; have hs_w7 := hb_w7.size; (try simp only [World.size_alloc, World.size_setCell, World.size_drew, World.heap_drewN] at hs_w7)
              have b8 : Below w.heap.size w w7 := (by repeat (first | exact Below.refl _ _ | assumption | (refine below_drewN ?_ _) | (refine Below.drew ?_) | (refine Below.alloc ?_ (by first | omega | (simp; omega) | simp) _) | (refine Below.setCell ?_ (by first | omega | (simp; omega) | simp) _) | (refine below_trans ?_ (by assumption) (by first | omega | (simp; omega) | simp))))
              have rr := rr.later hb_w7
              go_wp2
              go_roundw
              case rel => exact ⟨k + 1, by go_num, by omega, _, c5, u, v, rfl, rfl, rr, kk, jj, HOK, (by first | omega | (simp; omega) | simp), (by repeat (first | exact Below.refl _ _ | assumption | (refine below_drewN ?_ _) | (refine Below.drew ?_) | (refine Below.alloc ?_ (by first | omega | (simp; omega) | simp) _) | (refine Below.setCell ?_ (by first | omega | (simp; omega) | simp) _) | (refine below_trans ?_ (by assumption) (by first | omega | (simp; omega) | simp))))⟩
              case measure => simp [intOf]; omega
      · go_wp2
        go_ret
        exact ⟨rfl, (by repeat (first | exact Below.refl _ _ | assumption | (refine below_drewN ?_ _) | (refine Below.drew ?_) | (refine Below.alloc ?_ (by first | omega | (simp; omega) | simp) _) | (refine Below.setCell ?_ (by first | omega | (simp; omega) | simp) _) | (refine below_trans ?_ (by assumption) (by first | omega | (simp; omega) | simp))))⟩
  · have f1 : (y0 != 0) = true := by simpa using hy
    clear hy hE0
    go_enter Try.func4, Try.ntmps4
    go_wp2_with fail
    go_at_call 17
    refine (wlives_any _).mono ?_
    rintro e w1 ⟨rfl, hb_w1⟩
    obtain ⟨hc_w1, hf_w1⟩ := bcell hb_w1; have hs_w1 := hb_w1.size; (try simp only [World.size_alloc, World.size_setCell, World.size_drew, World.heap_drewN] at hs_w1)
    have b1 : Below w.heap.size w w1 := (by repeat (first | exact Below.refl _ _ | assumption | (refine below_drewN ?_ _) | (refine Below.drew ?_) | (refine Below.alloc ?_ (by first | omega | (simp; omega) | simp) _) | (refine Below.setCell ?_ (by first | omega | (simp; omega) | simp) _) | (refine below_trans ?_ (by assumption) (by first | omega | (simp; omega) | simp))))
    go_wp2_with fail
    go_at_call 11
    refine (HG0.out _ ((hr.later b1).later (by repeat (first | exact Below.refl _ _ | assumption | (refine below_drewN ?_ _) | (refine Below.drew ?_) | (refine Below.alloc ?_ (by first | omega | (simp; omega) | simp) _) | (refine Below.setCell ?_ (by first | omega | (simp; omega) | simp) _) | (refine below_trans ?_ (by assumption) (by first | omega | (simp; omega) | simp)))))).mono ?_
    rintro e w2 ⟨rfl, hb_w2⟩
    obtain ⟨hc_w2, hf_w2⟩ := bcell hb_w2; have hs_w2 := hb_w2.size; (try simp only [World.size_alloc, World.size_setCell, World.size_drew, World.heap_drewN] at hs_w2)
    go_wp2
    go_ret
    exact ⟨rfl, (by repeat (first | exact Below.refl _ _ | assumption | (refine below_drewN ?_ _) | (refine Below.drew ?_) | (refine Below.alloc ?_ (by first | omega | (simp; omega) | simp) _) | (refine Below.setCell ?_ (by first | omega | (simp; omega) | simp) _) | (refine below_trans ?_ (by assumption) (by first | omega | (simp; omega) | simp))))⟩
end Go.Proofs.Ytkfcnjdjcnfmfaa
