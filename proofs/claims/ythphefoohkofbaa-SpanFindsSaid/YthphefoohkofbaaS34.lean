/- The walk of the law SpanRoom. -/
import Derived.Test.YthphefoohkofbaaS32
import Derived.Test.YthphefoohkofbaaMA
namespace Go.Proofs.Ythphefoohkofbaa
open Go.RowKit
set_option linter.unusedVariables false
set_option linter.unusedSimpArgs false

theorem RoomE.ex (l : List Sd) (size : Int) : ∃ x k y, RoomE l size x k y := by
  by_cases h : OkL l
  · obtain ⟨x, hx⟩ := IdxE.ex l (hasRoom size)
    rcases hx with ⟨rfl, h2⟩ | ⟨i, rfl, h2⟩
    · exact ⟨_, _, _, .inr (.inl ⟨h, .inl ⟨rfl, h2⟩, rfl, rfl, rfl⟩)⟩
    · obtain ⟨k, hk⟩ := IdxN.ex (slotsOf (nth l i).z).toNat (fun k => !tb (nth l i).aw k)
      exact ⟨_, _, _, .inr (.inr ⟨i, k, h, .inr ⟨i, rfl, h2⟩, hk, rfl, rfl, rfl⟩)⟩
  · exact ⟨_, _, _, .inl ⟨h, rfl, rfl, rfl⟩⟩
/-- no bit is free where there is no room -/
theorem full_count {d : Sd} {size : Int} (h : Ok1 d) (hn : hasRoom size d = false) (hz : d.z = size) (hs : d.s = true) : ∀ k, k < (slotsOf d.z).toNat → tb d.aw k = true := by
  unfold hasRoom at hn
  rw [hs, show (d.z == size) = true by simpa using hz, Bool.true_and, Bool.true_and, List.any_eq_false] at hn
  intro k hk
  have := hn k (List.mem_range.2 hk)
  simpa using this
theorem cnt_all (ws : List Nat) (n : Nat) (h : ∀ k, k < n → tb ws k = true) : countTo ws n = n := by
  induction n with
  | zero => rfl
  | succ n ih =>
    unfold countTo
    rw [ih (fun k hk => h k (by omega)), h n (by omega)]
    rfl
section
variable {w : World} {A : Option Addr} {l : List Sd} (cap : Nat)
set_option maxHeartbeats 4000000 in
theorem spanRoom_walk (size : Int) (w : World) (hr : SRow w w.heap.size A l) (hl : l.length ≤ 1466015503658) :
    Calls Try.prog 8 #[.slice A l.length cap, .int .i64 size] w fun e w' => e = .returned (.bool true) ∧ Below w.heap.size w w' := by
  have hl2 : l.length ≤ 17592186044416 := by omega
  obtain ⟨x, k, y, hR⟩ := RoomE.ex l size
  have HRM := Lib.hid fun (w : World) hr => sroom_any (w := w) (A := A) (l := l) cap hr hl2 size x k y hR
  rcases hR with ⟨h, rfl, rfl, rfl⟩ | ⟨h, hI, rfl, rfl, rfl⟩ | ⟨i, r, h, hI, hJ, rfl, rfl, rfl⟩
  · clear h
    go_enter Try.func8, Try.ntmps8
    go_wp2_with fail
    go_at_call 17
    refine (slives_any _).mono ?_
    rintro e w1 ⟨rfl, hb_w1⟩
    obtain ⟨hc_w1, hf_w1⟩ := bcell hb_w1; have hs_w1 := hb_w1.size; (try simp only [World.size_alloc, World.size_setCell, World.size_drew, World.heap_drewN] at hs_w1)
    have b1 : Below w.heap.size w w1 := (by repeat (first | exact Below.refl _ _ | assumption | (refine below_drewN ?_ _) | (refine Below.drew ?_) | (refine Below.alloc ?_ (by first | omega | (simp; omega) | simp) _) | (refine Below.setCell ?_ (by first | omega | (simp; omega) | simp) _) | (refine below_trans ?_ (by assumption) (by first | omega | (simp; omega) | simp))))
    go_wp2_with fail
    go_at_call 23
    refine (HRM.out _ ((hr.later b1).later (by repeat (first | exact Below.refl _ _ | assumption | (refine below_drewN ?_ _) | (refine Below.drew ?_) | (refine Below.alloc ?_ (by first | omega | (simp; omega) | simp) _) | (refine Below.setCell ?_ (by first | omega | (simp; omega) | simp) _) | (refine below_trans ?_ (by assumption) (by first | omega | (simp; omega) | simp)))))).mono ?_
    rintro e w2 ⟨rfl, hb_w2⟩
    obtain ⟨hc_w2, hf_w2⟩ := bcell hb_w2; have hs_w2 := hb_w2.size; (try simp only [World.size_alloc, World.size_setCell, World.size_drew, World.heap_drewN] at hs_w2)
    go_wp2
    go_ret
    exact ⟨rfl, (by repeat (first | exact Below.refl _ _ | assumption | (refine below_drewN ?_ _) | (refine Below.drew ?_) | (refine Below.alloc ?_ (by first | omega | (simp; omega) | simp) _) | (refine Below.setCell ?_ (by first | omega | (simp; omega) | simp) _) | (refine below_trans ?_ (by assumption) (by first | omega | (simp; omega) | simp))))⟩
  · have hno : ∀ j, j < l.length → hasRoom size (nth l j) = false := by
      rcases hI with ⟨_, h2⟩ | ⟨i, h1, _⟩
      · exact h2
      · omega
    have HNO := Lib.hid hno
    have HO := Lib.hid h
    clear h hI hno
    go_enter Try.func8, Try.ntmps8
    go_wp2_with fail
    go_at_call 17
    refine (slives_any _).mono ?_
    rintro e w1 ⟨rfl, hb_w1⟩
    obtain ⟨hc_w1, hf_w1⟩ := bcell hb_w1; have hs_w1 := hb_w1.size; (try simp only [World.size_alloc, World.size_setCell, World.size_drew, World.heap_drewN] at hs_w1)
    have b1 : Below w.heap.size w w1 := (by repeat (first | exact Below.refl _ _ | assumption | (refine below_drewN ?_ _) | (refine Below.drew ?_) | (refine Below.alloc ?_ (by first | omega | (simp; omega) | simp) _) | (refine Below.setCell ?_ (by first | omega | (simp; omega) | simp) _) | (refine below_trans ?_ (by assumption) (by first | omega | (simp; omega) | simp))))
    go_wp2_with fail
    go_at_call 23
    refine (HRM.out _ ((hr.later b1).later (by repeat (first | exact Below.refl _ _ | assumption | (refine below_drewN ?_ _) | (refine Below.drew ?_) | (refine Below.alloc ?_ (by first | omega | (simp; omega) | simp) _) | (refine Below.setCell ?_ (by first | omega | (simp; omega) | simp) _) | (refine below_trans ?_ (by assumption) (by first | omega | (simp; omega) | simp)))))).mono ?_
    rintro e w2 ⟨rfl, hb_w2⟩
    obtain ⟨hc_w2, hf_w2⟩ := bcell hb_w2; have hs_w2 := hb_w2.size; (try simp only [World.size_alloc, World.size_setCell, World.size_drew, World.heap_drewN] at hs_w2)
    have b2 : Below w.heap.size w w2 := (by repeat (first | exact Below.refl _ _ | assumption | (refine below_drewN ?_ _) | (refine Below.drew ?_) | (refine Below.alloc ?_ (by first | omega | (simp; omega) | simp) _) | (refine Below.setCell ?_ (by first | omega | (simp; omega) | simp) _) | (refine below_trans ?_ (by assumption) (by first | omega | (simp; omega) | simp))))
    clear hc_w1 hf_w1 hc_w2 hf_w2
    go_wp2_with fail
    go_loopw [61] (fun ii wr => ∃ j : Nat, ii = .int .i64 (j : Nat) ∧ j ≤ l.length ∧ w.heap.size ≤ wr.heap.size ∧ Below w.heap.size w wr) (fun ii _ => l.length - (intOf ii).toNat)
    case atStart => exact ⟨0, rfl, Nat.zero_le _, (by first | omega | (simp; omega) | simp), b2⟩
    case round =>
      obtain ⟨j, rfl, hj, hsz, hb_wr⟩ := hrel
      have hsr := hb_wr.size
      by_cases hlt : j < l.length
      · obtain ⟨b, off, hAe, hbb, hc⟩ := (hr.later hb_wr).at_ (by omega)
        obtain ⟨Aa, ca, Am, cm, c8, ra, rm⟩ := hc j hlt
        have o1 := HO.out.2.1 j hlt
        have hno := HNO.out j hlt
        have HCT := Lib.hid fun (w : World) hr => count_ok (n := (nth l j).an) (A := Aa) (ws := (nth l j).aw) (w := w) ca hr o1.a
        have hful : ¬ ((nth l j).z = size ∧ (nth l j).s = true) ∨ ((nth l j).z = size ∧ (nth l j).s = true ∧ (countTo (nth l j).aw (nth l j).an.toNat : Int) = (nth l j).an) := by
          by_cases h1 : (nth l j).z = size ∧ (nth l j).s = true
          · right
            have hs := o1.sized.slots
            have := cnt_all (nth l j).aw (nth l j).an.toNat (by rw [o1.an]; exact full_count o1 hno h1.1 h1.2)
            exact ⟨h1.1, h1.2, by rw [this, o1.an]; omega⟩
          · exact .inl h1
        clear o1 hno hc
        obtain ⟨q0, q1, q2, q3, q4, q5, q6, q7⟩ := id c8
        clear c8
        generalize nth l j = d at *
        subst hAe
        obtain ⟨f, p, z, an, aw, mn, mw, s⟩ := d
        simp only at *
        generalize (countTo aw an.toNat : Int) = ct at *
        have i1 : (j : Int) < (l.length : Int) := by omega
        have i2 : (0 : Int) ≤ (j : Int) := by omega
        have hcs : (z == size) = false ∨ ((z == size) = true ∧ s = false) ∨ ((z == size) = true ∧ s = true ∧ decide (ct < an) = false) := by
          rcases hful with h1 | ⟨h1, h2, h3⟩
          · by_cases e1 : z = size
            · cases s
              · exact .inr (.inl ⟨by simpa using e1, rfl⟩)
              · exact absurd ⟨e1, rfl⟩ h1
            · exact .inl (by simpa using e1)
          · exact .inr (.inr ⟨by simpa using h1, h2, decide_eq_false (by omega)⟩)
        clear hful
        go_wp2_with fail
        go_at_call 32
        refine (HCT.out _ (ra.later (by repeat (first | exact Below.refl _ _ | assumption | (refine below_drewN ?_ _) | (refine Below.drew ?_) | (refine Below.alloc ?_ (by first | omega | (simp; omega) | simp) _) | (refine Below.setCell ?_ (by first | omega | (simp; omega) | simp) _) | (refine below_trans ?_ (by assumption) (by first | omega | (simp; omega) | simp)))))).mono ?_
        rintro e w5 ⟨rfl, hb_w5⟩
        obtain ⟨hc_w5, hf_w5⟩ := bcell hb_w5
        have hs5 := hb_w5.size
        (try simp only [World.size_alloc] at hs5)
        have x2 : w5.cell? ⟨wr.heap.size, 2, none⟩ = some (.int .i64 z) := (hc_w5 _ _ (by first | omega | (simp; omega) | simp)).trans (by simp [go_sem])
        have x3 : w5.cell? ⟨wr.heap.size, 3, none⟩ = some (.int .i64 an) := (hc_w5 _ _ (by first | omega | (simp; omega) | simp)).trans (by simp [go_sem])
        have x7 : w5.cell? ⟨wr.heap.size, 7, none⟩ = some (.bool s) := (hc_w5 _ _ (by first | omega | (simp; omega) | simp)).trans (by simp [go_sem])
        clear hc_w5 hf_w5
        rcases hcs with g1 | ⟨g1, rfl⟩ | ⟨g1, rfl, g2⟩
        all_goals
          go_wp2
          go_roundw
          case rel => exact ⟨j + 1, by go_num, by omega, (by first | omega | (simp; omega) | simp), (by repeat (first | exact Below.refl _ _ | assumption | (refine below_drewN ?_ _) | (refine Below.drew ?_) | (refine Below.alloc ?_ (by first | omega | (simp; omega) | simp) _) | (refine Below.setCell ?_ (by first | omega | (simp; omega) | simp) _) | (refine below_trans ?_ (by assumption) (by first | omega | (simp; omega) | simp))))⟩
          case measure => simp [intOf]; omega
      · go_wp2
        go_ret
        exact ⟨rfl, hb_wr⟩
  · have hil := hI.lt
    have o1 := h.2.1 i hil
    have hs := o1.sized.slots
    have hroom : hasRoom size (nth l i) = true := by
      rcases hI with ⟨h1, _⟩ | ⟨j, h1, _, h3, _⟩
      · omega
      · have : j = i := by omega
        rw [← this]; exact h3
    unfold hasRoom at hroom
    rw [Bool.and_eq_true, Bool.and_eq_true, beq_iff_eq, hJ.any, decide_eq_true_eq] at hroom
    obtain ⟨hz, hsw, hk0⟩ := hroom
    obtain ⟨r', rfl, hr1, hr2⟩ : ∃ r' : Nat, k = r' ∧ (r' : Int) < slotsOf (nth l i).z ∧ tb (nth l i).aw r' = false := by
      rcases hJ with ⟨h1, _⟩ | ⟨j, h1, h2, h3, _⟩
      · omega
      · exact ⟨j, h1, by omega, by simpa using h3⟩
    have HG := Lib.hid fun (w : World) (A : Option Addr) (ca : Nat) hr => get_in (n := (nth l i).an) (A := A) (ws := (nth l i).aw) (w := w) ca (r' : Nat) hr o1.a (by omega) (by rw [o1.an]; exact hr1)
    simp only [Int.toNat_natCast] at HG
    rw [hr2] at HG
    have i1 : (i : Int) < (l.length : Int) := by omega
    have i2 : (0 : Int) ≤ (i : Int) := by omega
    clear h hI hJ o1 hs hr1 hr2 hk0
    go_enter Try.func8, Try.ntmps8
    go_wp2_with fail
    go_at_call 17
    refine (slives_any _).mono ?_
    rintro e w1 ⟨rfl, hb_w1⟩
    obtain ⟨hc_w1, hf_w1⟩ := bcell hb_w1; have hs_w1 := hb_w1.size; (try simp only [World.size_alloc, World.size_setCell, World.size_drew, World.heap_drewN] at hs_w1)
    have b1 : Below w.heap.size w w1 := (by repeat (first | exact Below.refl _ _ | assumption | (refine below_drewN ?_ _) | (refine Below.drew ?_) | (refine Below.alloc ?_ (by first | omega | (simp; omega) | simp) _) | (refine Below.setCell ?_ (by first | omega | (simp; omega) | simp) _) | (refine below_trans ?_ (by assumption) (by first | omega | (simp; omega) | simp))))
    go_wp2_with fail
    go_at_call 23
    refine (HRM.out _ ((hr.later b1).later (by repeat (first | exact Below.refl _ _ | assumption | (refine below_drewN ?_ _) | (refine Below.drew ?_) | (refine Below.alloc ?_ (by first | omega | (simp; omega) | simp) _) | (refine Below.setCell ?_ (by first | omega | (simp; omega) | simp) _) | (refine below_trans ?_ (by assumption) (by first | omega | (simp; omega) | simp)))))).mono ?_
    rintro e w2 ⟨rfl, hb_w2⟩
    obtain ⟨hc_w2, hf_w2⟩ := bcell hb_w2; have hs_w2 := hb_w2.size; (try simp only [World.size_alloc, World.size_setCell, World.size_drew, World.heap_drewN] at hs_w2)
    have b2 : Below w.heap.size w w2 := (by repeat (first | exact Below.refl _ _ | assumption | (refine below_drewN ?_ _) | (refine Below.drew ?_) | (refine Below.alloc ?_ (by first | omega | (simp; omega) | simp) _) | (refine Below.setCell ?_ (by first | omega | (simp; omega) | simp) _) | (refine below_trans ?_ (by assumption) (by first | omega | (simp; omega) | simp))))
    clear hc_w1 hf_w1 hc_w2 hf_w2
    obtain ⟨b, off, hAe, hbb, hc⟩ := (hr.later b2).at_ (by omega)
    obtain ⟨Aa, ca, Am, cm, c8, ra, rm⟩ := hc i hil
    have H2 := Lib.hid fun (w : World) h1 => HG.out w Aa ca h1
    clear hc HG
    generalize nth l i = d at *
    subst hAe
    obtain ⟨f, p, z, an, aw, mn, mw, s⟩ := d
    obtain ⟨q0, q1, q2, q3, q4, q5, q6, q7⟩ := id c8
    simp only at *
    subst hz hsw
    go_wp2_with fail
    go_at_call 31
    refine (H2.out _ (ra.later (by repeat (first | exact Below.refl _ _ | assumption | (refine below_drewN ?_ _) | (refine Below.drew ?_) | (refine Below.alloc ?_ (by first | omega | (simp; omega) | simp) _) | (refine Below.setCell ?_ (by first | omega | (simp; omega) | simp) _) | (refine below_trans ?_ (by assumption) (by first | omega | (simp; omega) | simp)))))).mono ?_
    rintro e w3 ⟨rfl, hb_w3⟩
    obtain ⟨hc_w3, hf_w3⟩ := bcell hb_w3; have hs_w3 := hb_w3.size; (try simp only [World.size_alloc, World.size_setCell, World.size_drew, World.heap_drewN] at hs_w3)
    have b23 : Below w2.heap.size w2 w3 := (by repeat (first | exact Below.refl _ _ | assumption | (refine below_drewN ?_ _) | (refine Below.drew ?_) | (refine Below.alloc ?_ (by first | omega | (simp; omega) | simp) _) | (refine Below.setCell ?_ (by first | omega | (simp; omega) | simp) _) | (refine below_trans ?_ (by assumption) (by first | omega | (simp; omega) | simp))))
    have b3 : Below w.heap.size w w3 := b2.trans (b23.mono (by first | omega | (simp; omega) | simp))
    obtain ⟨r0, r1, r2, r3, r4, r5, r6, r7⟩ := c8.later b23
    simp only at r0 r1 r2 r3 r4 r5 r6 r7
    clear q0 q1 q2 q3 q4 q5 q6 q7 hc_w3 hf_w3
    go_wp2
    go_ret
    exact ⟨rfl, b3⟩
end
end Go.Proofs.Ythphefoohkofbaa
