/- The document's Drop of spans. -/
import Derived.Test.YthphefoohkofbaaMF
import Derived.Test.YthphefoohkofbaaS32
namespace Go.Proofs.Ythphefoohkofbaa
open Go.RowKit
set_option linter.unusedVariables false
set_option linter.unusedSimpArgs false

theorem nth_app (a b : List Sd) (j : Nat) : nth (a ++ b) j = if j < a.length then nth a j else nth b (j - a.length) := by
  unfold nth
  simp only [List.getD_eq_getElem?_getD]
  by_cases h : j < a.length
  · rw [if_pos h, List.getElem?_append_left h]
  · rw [if_neg h, List.getElem?_append_right (by omega)]
theorem filter_all (l : List Sd) (q : Sd → Bool) (h : ∀ i, i < l.length → q (nth l i) = true) : l.filter q = l := by
  rw [List.filter_eq_self]
  intro d hd
  obtain ⟨i, hi, rfl⟩ := List.getElem_of_mem hd
  have := h i hi
  unfold nth at this
  rwa [List.getD_eq_getElem?_getD, List.getElem?_eq_getElem hi] at this
def notAt (first : Int) (d : Sd) : Bool := !(d.f == first)
theorem DropE.filt {l : List Sd} {first : Int} {r : List Sd} {y : Int} (h : DropE l first r y) (ok : OkL l) : r = l.filter (notAt first) ∧ ((r.length = l.length ∧ y = 3) ∨ (r.length < l.length ∧ y = 0)) := by
  rcases h with ⟨h, _⟩ | ⟨_, hI, rfl, rfl⟩ | ⟨i, _, hI, rfl, rfl⟩
  · exact absurd ok h
  · refine ⟨(filter_all r _ fun i hi => ?_).symm, .inl ⟨rfl, rfl⟩⟩
    rcases hI with ⟨_, h2⟩ | ⟨j, h1, _⟩
    · have h3 : ((nth r i).f == first) = false := h2 i hi
      unfold notAt; rw [h3]; rfl
    · omega
  · have hil := hI.lt
    obtain ⟨hat, hbef⟩ : (nth l i).f = first ∧ ∀ j, j < i → (nth l j).f ≠ first := by
      rcases hI with ⟨h1, _⟩ | ⟨j, h1, _, h3, h4⟩
      · omega
      · have : j = i := by omega
        subst this
        exact ⟨by simpa using h3, fun q hq => by simpa using h4 q hq⟩
    have hsp : l = l.take i ++ ([nth l i] ++ l.drop (i + 1)) := by
      have h1 := take_nth l i hil
      have h2 := (List.take_append_drop (i + 1) l).symm
      rw [h1, List.append_assoc] at h2
      exact h2
    refine ⟨?_, .inr ⟨by rw [List.length_append, List.length_take, List.length_drop]; omega, rfl⟩⟩
    have e1 : (l.take i).filter (notAt first) = l.take i := filter_all _ _ fun j hj => by
      rw [List.length_take] at hj
      have : nth (l.take i) j = nth l j := by unfold nth; rw [List.getD_eq_getElem?_getD, List.getD_eq_getElem?_getD, List.getElem?_take_of_lt (by omega)]
      rw [this]
      have := hbef j (by omega)
      unfold notAt
      simpa using this
    have e2 : ([nth l i] : List Sd).filter (notAt first) = [] := by
      simp [notAt, hat]
    have e3 : (l.drop (i + 1)).filter (notAt first) = l.drop (i + 1) := filter_all _ _ fun j hj => by
      rw [List.length_drop] at hj
      have : nth (l.drop (i + 1)) j = nth l (i + 1 + j) := by unfold nth; rw [List.getD_eq_getElem?_getD, List.getD_eq_getElem?_getD, List.getElem?_drop]
      rw [this]
      have h1 := ok.apart (i := i) (k := i + 1 + j) (by omega) (by omega)
      have h2 := (ok.2.1 i hil).sized.slots
      unfold notAt
      simp
      omega
    have : l.filter (notAt first) = (l.take i ++ ([nth l i] ++ l.drop (i + 1))).filter (notAt first) := by rw [← hsp]
    rw [this, List.filter_append, List.filter_append, e1, e2, e3, List.nil_append]
section
variable {w : World} {A : Option Addr} {l : List Sd} (cap : Nat)
set_option maxHeartbeats 8000000 in
theorem xdropL_any (hr : SRow w w.heap.size A l) (hl : l.length ≤ 17592186044416) (first : Int) (r : List Sd) (y : Int) (hE : DropE l first r y) :
    Calls Try.prog 29 #[.slice A l.length cap, .int .i64 first] w fun e w' => ∃ A' c', e = .returned (.tuple #[.slice A' r.length c', .int .i64 y]) ∧ SRow w' w'.heap.size A' r ∧ Below w.heap.size w w' := by
  by_cases hok : OkL l
  · obtain ⟨i0, hi, hz0, hz1, hz2⟩ := info_parts info_sp
    have HC := Lib.hid fun (w : World) hr => xcheckL_any (w := w) (A := A) (l := l) cap hr hl 0 (.inl ⟨hok, rfl⟩)
    obtain ⟨hre, hy⟩ := hE.filt hok
    have HW := Lib.hid hok.words
    have HRE := Lib.hid hre
    have HY := Lib.hid hy
    have h256 := hok.1
    clear hok hE hre hy
    go_enter Try.func29, Try.ntmps29
    go_wp2_with fail
    go_at_call 20
    refine (HC.out _ (hr.later (by repeat (first | exact Below.refl _ _ | assumption | (refine below_drewN ?_ _) | (refine Below.drew ?_) | (refine Below.alloc ?_ (by first | omega | (simp; omega) | simp) _) | (refine Below.setCell ?_ (by first | omega | (simp; omega) | simp) _) | (refine below_trans ?_ (by assumption) (by first | omega | (simp; omega) | simp)))))).mono ?_
    rintro e w1 ⟨rfl, hb_w1⟩
    obtain ⟨hc_w1, hf_w1⟩ := bcell hb_w1; have hs_w1 := hb_w1.size; (try simp only [World.size_alloc, World.size_setCell, World.size_drew, World.heap_drewN] at hs_w1)
    have b1 : Below w.heap.size w w1 := (by repeat (first | exact Below.refl _ _ | assumption | (refine below_drewN ?_ _) | (refine Below.drew ?_) | (refine Below.alloc ?_ (by first | omega | (simp; omega) | simp) _) | (refine Below.setCell ?_ (by first | omega | (simp; omega) | simp) _) | (refine below_trans ?_ (by assumption) (by first | omega | (simp; omega) | simp))))
    clear hc_w1 hf_w1
    go_wp2_with fail
    go_loopw [6, 14] (fun c ii wr => ∃ k : Nat, ii = .int .i64 (k : Nat) ∧ k ≤ l.length ∧ ∃ (n : Nat) (Ac : Option Addr) (capc : Nat) (vs : List Sv), c = .slice Ac n capc ∧ n ≤ k ∧ Hid (sdsOf vs = (l.take k).filter (notAt first)) ∧ CopX wr w.heap.size Ac n capc vs ∧ w.heap.size ≤ wr.heap.size ∧ Below w.heap.size w wr) (fun _ ii _ => l.length - (intOf ii).toNat)
    case atStart => exact ⟨0, rfl, Nat.zero_le _, 0, none, 0, [], rfl, Nat.le_refl _, Lib.hid rfl, CopX.nil _ _, (by first | omega | (simp; omega) | simp), b1⟩
    case round =>
      obtain ⟨k, rfl, hk, n, Ac, capc, vs, rfl, hnk, HS, oC, hsz, hb_wr⟩ := hrel
      have hsr := hb_wr.size
      by_cases hlt : k < l.length
      · obtain ⟨b, off, hAe, hbb, hc⟩ := (hr.later hb_wr).at_ (by omega)
        obtain ⟨Aa, ca, Am, cm, c8, ra, rm⟩ := hc k hlt
        obtain ⟨wa, wm⟩ := HW.out _ (nth_mem l k hlt)
        have hnx := take_nth l k hlt
        obtain ⟨d, hd⟩ : ∃ d, Hid (nth l k = d) := ⟨_, rfl⟩
        rw [hd.out] at c8 ra rm wa wm hnx
        have HNX : Hid ((l.take (k + 1)).filter (notAt first) = (l.take k).filter (notAt first) ++ if notAt first d then [d] else []) := Lib.hid (by
          rw [hnx, List.filter_append]
          congr 1
          cases h : notAt first d <;> simp [h])
        obtain ⟨c0, c1, c2, c3, c4, c5, c6, c7⟩ := id c8
        have i1 : (k : Int) < (l.length : Int) := by omega
        have i2 : (0 : Int) ≤ (k : Int) := by omega
        have HO := Lib.hid fun (w : World) ha hm => xone_any (w := w) (A := Aa) (M := Am) ca cm d ha hm (by omega) (by omega)
        unfold OneS at HO
        subst hAe
        clear hc hnx c8 wa wm
        obtain ⟨f, p, z, an, aw, mn, mw, s⟩ := d
        unfold spv at HO
        simp only at *
        by_cases h1 : f = first
        · have g1 : (f != first) = false := by simpa using h1
          have HN2 : Hid ((l.take (k + 1)).filter (notAt first) = (l.take k).filter (notAt first)) := Lib.hid (by rw [HNX.out]; simp [notAt, h1])
          clear h1 HNX
          go_wp2
          go_roundw
          case rel => exact ⟨k + 1, by go_num, by omega, n, Ac, capc, vs, rfl, by omega, Lib.hid (by rw [HN2.out]; exact HS.out), oC.later ((Below.refl _ _).alloc (Nat.le_refl _) _), (by first | omega | (simp; omega) | simp), (by repeat (first | exact Below.refl _ _ | assumption | (refine below_drewN ?_ _) | (refine Below.drew ?_) | (refine Below.alloc ?_ (by first | omega | (simp; omega) | simp) _) | (refine Below.setCell ?_ (by first | omega | (simp; omega) | simp) _) | (refine below_trans ?_ (by assumption) (by first | omega | (simp; omega) | simp))))⟩
          case measure => simp [intOf]; omega
        · have g1 : (f != first) = true := by simpa using h1
          have HN2 : Hid ((l.take (k + 1)).filter (notAt first) = (l.take k).filter (notAt first) ++ [⟨f, p, z, an, aw, mn, mw, s⟩]) := Lib.hid (by rw [HNX.out]; simp [notAt, h1])
          clear h1 HNX
          go_wp2_with fail
          go_at_call 33
          refine (HO.out _ (ra.later (by repeat (first | exact Below.refl _ _ | assumption | (refine below_drewN ?_ _) | (refine Below.drew ?_) | (refine Below.alloc ?_ (by first | omega | (simp; omega) | simp) _) | (refine Below.setCell ?_ (by first | omega | (simp; omega) | simp) _) | (refine below_trans ?_ (by assumption) (by first | omega | (simp; omega) | simp))))) (rm.later (by repeat (first | exact Below.refl _ _ | assumption | (refine below_drewN ?_ _) | (refine Below.drew ?_) | (refine Below.alloc ?_ (by first | omega | (simp; omega) | simp) _) | (refine Below.setCell ?_ (by first | omega | (simp; omega) | simp) _) | (refine below_trans ?_ (by assumption) (by first | omega | (simp; omega) | simp)))))).mono ?_
          rintro e w5 ⟨A5, C5, M5, D5, rfl, o5, o5', hb_w5⟩
          have hs_w5 := hb_w5.size
          (try simp only [World.size_alloc] at hs_w5)
          have bb : Below wr.heap.size wr w5 := (by repeat (first | exact Below.refl _ _ | assumption | (refine below_drewN ?_ _) | (refine Below.drew ?_) | (refine Below.alloc ?_ (by first | omega | (simp; omega) | simp) _) | (refine Below.setCell ?_ (by first | omega | (simp; omega) | simp) _) | (refine below_trans ?_ (by assumption) (by first | omega | (simp; omega) | simp))))
          have hgA := fun g h => (oC.row_.lt g h).2
          have oC := oC.later bb
          have oA : Own w5 w.heap.size A5 aw := o5.mono (by first | omega | (simp; omega) | simp)
          have oM : Own w5 w.heap.size M5 mw := o5'.mono (by first | omega | (simp; omega) | simp)
          have hvn : ∀ g, Ac = some ⟨g, 0, none⟩ → (0 < aw.length → A5 ≠ some ⟨g, 0, none⟩) ∧ (0 < mw.length → M5 ≠ some ⟨g, 0, none⟩) := fun g e => by
            have hg : g < wr.heap.size := hgA g (by rw [e]; rfl)
            refine ⟨fun hl e2 => ?_, fun hl e2 => ?_⟩
            · obtain ⟨q, e3, hq, _⟩ := o5.at_ hl
              (try simp only [World.size_alloc] at hq)
              rw [e2] at e3
              injection e3 with e3
              injection e3 with e3
              omega
            · obtain ⟨q, e3, hq, _⟩ := o5'.at_ hl
              (try simp only [World.size_alloc] at hq)
              rw [e2] at e3
              injection e3 with e3
              injection e3 with e3
              omega
          have HSN := Lib.hid fun (w6 w7 : World) (g7 cap7 : Nat) (hb : Below w5.heap.size w5 w6) h1 h2 h3 => CopX.snoc (w := w6) (w' := w7) (g7 := g7) (cap' := cap7) (v := ⟨⟨f, p, z, an, aw, mn, mw, s⟩, A5, C5, M5, D5⟩) (oC.later hb) (oA.later hb) (oM.later hb) hvn h1 h2 h3
          have oR := oC.row_
          clear o5 o5' oA oM hvn oC
          go_wp2_with (at_builtin; refine wpList_append_lies _ ?_ (.tmp 22) (.tmp 25) 27 ?_ w.heap.size 26 i0 _ 8 96 Try.underlying27 hi hz0 hz1 hz2 rfl (by omega) (.slice Ac n capc) (n) (flat8 vs) ?_ (oR.alloc _) ⟨w5.heap.size, 0, none⟩ 1 1 (cells8 ⟨⟨f, p, z, an, aw, mn, mw, s⟩, A5, C5, M5, D5⟩) ?_ (by simp [cells8]) ?_ (by intro u hu; have := flat8_one [(⟨⟨f, p, z, an, aw, mn, mw, s⟩, A5, C5, M5, D5⟩ : Sv)] u (by simpa [flat8] using hu); exact this) (by omega) (by unfold maxLen; omega) (by omega) (by first | omega | (simp; omega) | simp) _ rfl ?_; rfl; rfl; rfl; rfl; (intro j u hj; rw [add_form]; have hj8 : j < 8 := (by have := (List.getElem?_eq_some_iff.1 hj).1; simpa [cells8] using this); have hg := heap_alloc_new w5 (.cells #[.int .i64 f, .int .i64 p, .int .i64 z, .int .i64 an, .slice A5 aw.length C5, .int .i64 mn, .slice M5 mw.length D5, .bool s] 26); rw [cell_of_row _ _ _ _ _ _ hg, Nat.zero_add, ← hj]; simp [cells8]); intro g cap7 w7 hown hg7 hat hlt; have hb_w7 : Below w.heap.size _ w7 := (Below.refl _ _).grown hg7 (by first | omega | (simp; omega) | simp) (fun b hb => oR.lt b hb |>.1); have hs_w7 := hb_w7.size; (try simp only [World.size_alloc] at hs_w7); have oX := HSN.out _ _ _ _ ((Below.refl w5.heap.size w5).alloc (Nat.le_refl _) _) hown hg7 (by rcases hat with h | h; exact .inl h; exact .inr (by rw [h]; exact Nat.le_refl _)); clear HSN oR hown hg7 hat)
          go_roundw
          case rel => exact ⟨k + 1, by go_num, by omega, n + 1, some ⟨g, 0, none⟩, cap7, _, rfl, by omega, Lib.hid (by rw [sds_app, HS.out, HN2.out]; rfl), oX, (by first | omega | (simp; omega) | simp), (hb_wr.trans (bb.mono hsz)).trans ((((Below.refl w.heap.size w5).alloc (by first | omega | (simp; omega) | simp) _)).trans hb_w7)⟩
          case measure => simp [intOf]; omega
      · obtain rfl : k = l.length := by omega
        have hsd := HS.out
        rw [List.take_length, ← HRE.out] at hsd
        have hrl : r.length = n := by rw [← sds_len hsd]; exact oC.len
        have HSR : Hid (SRow wr wr.heap.size Ac r) := Lib.hid (by rw [← hsd]; exact oC.srow)
        have HRL := Lib.hid hrl
        rcases HY.out with ⟨h1, rfl⟩ | ⟨h1, rfl⟩
        · have g1 : ((n : Int) == (l.length : Int)) = true := by simp; omega
          have g1' : (n == l.length) = true := by simp; omega
          clear h1 hsd hrl
          go_wp2
          go_ret2
          exact ⟨Ac, ⟨capc, by rw [HRL.out]; rfl⟩, HSR.out, hb_wr⟩
        · have g1 : ((n : Int) == (l.length : Int)) = false := by simp; omega
          have g1' : (n == l.length) = false := by simp; omega
          clear h1 hsd hrl
          go_wp2
          go_ret2
          exact ⟨Ac, ⟨capc, by rw [HRL.out]; rfl⟩, HSR.out, hb_wr⟩
  · have HC := Lib.hid fun (w : World) hr => xcheckL_any (w := w) (A := A) (l := l) cap hr hl 2 (.inr ⟨hok, rfl⟩)
    obtain ⟨rfl, rfl⟩ : r = [] ∧ y = 2 := by
      rcases hE with ⟨_, e⟩ | ⟨h, _⟩ | ⟨_, h, _⟩
      · exact e
      · exact absurd h hok
      · exact absurd h hok
    clear hE hok
    go_enter Try.func29, Try.ntmps29
    go_wp2_with fail
    go_at_call 20
    refine (HC.out _ (hr.later (by repeat (first | exact Below.refl _ _ | assumption | (refine below_drewN ?_ _) | (refine Below.drew ?_) | (refine Below.alloc ?_ (by first | omega | (simp; omega) | simp) _) | (refine Below.setCell ?_ (by first | omega | (simp; omega) | simp) _) | (refine below_trans ?_ (by assumption) (by first | omega | (simp; omega) | simp)))))).mono ?_
    rintro e w1 ⟨rfl, hb_w1⟩
    obtain ⟨hc_w1, hf_w1⟩ := bcell hb_w1; have hs_w1 := hb_w1.size; (try simp only [World.size_alloc, World.size_setCell, World.size_drew, World.heap_drewN] at hs_w1)
    go_wp2
    go_ret2
    exact ⟨none, 0, rfl, SRow.nil _ _ _, (by repeat (first | exact Below.refl _ _ | assumption | (refine below_drewN ?_ _) | (refine Below.drew ?_) | (refine Below.alloc ?_ (by first | omega | (simp; omega) | simp) _) | (refine Below.setCell ?_ (by first | omega | (simp; omega) | simp) _) | (refine below_trans ?_ (by assumption) (by first | omega | (simp; omega) | simp))))⟩
end
end Go.Proofs.Ythphefoohkofbaa
