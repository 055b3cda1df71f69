/- The document's Room of spans. -/
import Derived.Test.YthphefoohkofbaaS36
import Derived.Test.YthphefoohkofbaaS34
namespace Go.Proofs.Ythphefoohkofbaa
open Go.RowKit
set_option linter.unusedVariables false
set_option linter.unusedSimpArgs false

theorem hasRoom_no {d : Sd} {size : Int} {n : Nat} (hn : (slotsOf d.z).toNat = n) (h : ∀ q, q < n → ¬ (d.z = size ∧ d.s = true ∧ tb d.aw q = false)) : hasRoom size d = false := by
  unfold hasRoom
  by_cases hz : d.z = size
  · cases hs : d.s
    · simp
    · rw [Bool.and_eq_false_iff]
      right
      rw [Bool.and_eq_false_iff]
      right
      rw [List.any_eq_false]
      intro q hq
      have := h q (by rw [← hn]; exact List.mem_range.1 hq)
      cases hb : tb d.aw q
      · exact absurd ⟨hz, hs, hb⟩ this
      · simp
  · rw [show (d.z == size) = false by simpa using hz, Bool.false_and]
theorem hasRoom_yes {d : Sd} {size : Int} {q : Nat} (hq : q < (slotsOf d.z).toNat) (hz : d.z = size) (hs : d.s = true) (hb : tb d.aw q = false) : hasRoom size d = true := by
  unfold hasRoom
  rw [hs, show (d.z == size) = true by simpa using hz, Bool.true_and, Bool.true_and, List.any_eq_true]
  exact ⟨q, List.mem_range.2 hq, by simp [hb]⟩
section
variable {w : World} {A : Option Addr} {l : List Sd} (cap : Nat)
set_option maxHeartbeats 8000000 in
theorem xroomL_any (hr : SRow w w.heap.size A l) (hl : l.length ≤ 17592186044416) (size : Int) (x k y : Int) (hF : RoomE l size x k y) :
    Calls Try.prog 24 #[.slice A l.length cap, .int .i64 size] w fun e w' => e = .returned (.tuple #[.int .i64 x, .int .i64 k, .int .i64 y]) ∧ Below w.heap.size w w' := by
  by_cases hok : OkL l
  · have HC := Lib.hid fun (w : World) hr => xcheckL_any (w := w) (A := A) (l := l) cap hr hl 0 (.inl ⟨hok, rfl⟩)
    have HO := Lib.hid hok
    have HF := Lib.hid hF
    have h256 := hok.1
    clear hok hF
    go_enter Try.func24, Try.ntmps24
    go_wp2_with fail
    go_at_call 20
    refine (HC.out _ (hr.later (by repeat (first | exact Below.refl _ _ | assumption | (refine below_drewN ?_ _) | (refine Below.drew ?_) | (refine Below.alloc ?_ (by first | omega | (simp; omega) | simp) _) | (refine Below.setCell ?_ (by first | omega | (simp; omega) | simp) _) | (refine below_trans ?_ (by assumption) (by first | omega | (simp; omega) | simp)))))).mono ?_
    rintro e w1 ⟨rfl, hb_w1⟩
    obtain ⟨hc_w1, hf_w1⟩ := bcell hb_w1; have hs_w1 := hb_w1.size; (try simp only [World.size_alloc, World.size_setCell, World.size_drew, World.heap_drewN] at hs_w1)
    have b1 : Below w.heap.size w w1 := (by repeat (first | exact Below.refl _ _ | assumption | (refine below_drewN ?_ _) | (refine Below.drew ?_) | (refine Below.alloc ?_ (by first | omega | (simp; omega) | simp) _) | (refine Below.setCell ?_ (by first | omega | (simp; omega) | simp) _) | (refine below_trans ?_ (by assumption) (by first | omega | (simp; omega) | simp))))
    clear hc_w1 hf_w1
    go_wp2_with fail
    go_loopw [15] (fun ii wr => ∃ i : Nat, ii = .int .i64 (i : Nat) ∧ i ≤ l.length ∧ Hid (∀ j, j < i → hasRoom size (nth l j) = false) ∧ w.heap.size ≤ wr.heap.size ∧ Below w.heap.size w wr) (fun ii _ => l.length - (intOf ii).toNat)
    case atStart => exact ⟨0, rfl, Nat.zero_le _, Lib.hid (fun j hj => by omega), (by first | omega | (simp; omega) | simp), b1⟩
    case round =>
      obtain ⟨i, rfl, hi, HI, hsz, hb_wr⟩ := hrel
      have hsr := hb_wr.size
      by_cases hlt : i < l.length
      · obtain ⟨b, off, hAe, hbb, hc⟩ := (hr.later hb_wr).at_ (by omega)
        obtain ⟨Aa, ca, Am, cm, c8, ra, rm⟩ := hc i hlt
        have o1 := HO.out.2.1 i hlt
        have hs := o1.sized.slots
        obtain ⟨d, hd⟩ : ∃ d, Hid (nth l i = d) := ⟨_, rfl⟩
        rw [hd.out] at c8 ra rm o1 hs
        obtain ⟨x0, x1, x2, x3, x4, x5, x6, x7⟩ := id c8
        have i1 : (i : Int) < (l.length : Int) := by omega
        have i2 : (0 : Int) ≤ (i : Int) := by omega
        clear hc c8
        subst hAe
        have HMY := Lib.hid fun (w : World) => xmany_any (w := w) o1.sized
        have HIS := Lib.hid fun (w : World) (j : Nat) (hj : (j : Int) < slotsOf d.z) hr => is_any (A := Aa) (ws := d.aw) (w := w) (j : Nat) d.an ca hr (by omega) (by rw [o1.aw]; omega) (by rw [o1.aw]; omega)
        simp only [Int.toNat_natCast] at HIS
        have HGOT : Hid (∀ j : Nat, (j : Int) < slotsOf d.z → d.z = size → d.s = true → tb d.aw j = false → (∀ q, q < j → tb d.aw q = true) → x = i ∧ k = j ∧ y = 0) := Lib.hid fun j hj h1 h2 h3 h4 =>
          HF.out.got HO.out (.inr ⟨i, rfl, hlt, by rw [hd.out]; exact hasRoom_yes (q := j) (by omega) h1 h2 h3, HI.out⟩) (by rw [hd.out]; exact .inr ⟨j, rfl, by omega, by show (!tb d.aw j) = true; rw [h3]; rfl, fun q hq => by show (!tb d.aw q) = false; rw [h4 q hq]; rfl⟩)
        have HNO : Hid ((∀ q : Nat, (q : Int) < slotsOf d.z → ¬ (d.z = size ∧ d.s = true ∧ tb d.aw q = false)) → ∀ j, j < i + 1 → hasRoom size (nth l j) = false) := Lib.hid fun h j hj => by
          by_cases e : j = i
          · rw [e, hd.out]
            exact hasRoom_no rfl (fun q hq => h q (by omega))
          · exact HI.out j (by omega)
        have hsl := hs.1
        have hsl8 := hs.2.1
        clear hs o1
        obtain ⟨f, p, z, an, aw, mn, mw, s⟩ := d
        simp only at *
        generalize slotsOf z = n at *
        generalize wr = wA at *
        go_wp2_with fail
        go_loopw [9] (fun jj wr => ∃ j : Nat, jj = .int .i64 (j : Nat) ∧ (j : Int) ≤ n ∧ Hid (∀ q, q < j → ¬ (z = size ∧ s = true ∧ tb aw q = false)) ∧ (wr.cell? ⟨wA.heap.size, 0, none⟩ = some (.int .i64 f) ∧ wr.cell? ⟨wA.heap.size, 1, none⟩ = some (.int .i64 p) ∧ wr.cell? ⟨wA.heap.size, 2, none⟩ = some (.int .i64 z) ∧ wr.cell? ⟨wA.heap.size, 3, none⟩ = some (.int .i64 an) ∧ wr.cell? ⟨wA.heap.size, 4, none⟩ = some (.slice Aa aw.length ca) ∧ wr.cell? ⟨wA.heap.size, 5, none⟩ = some (.int .i64 mn) ∧ wr.cell? ⟨wA.heap.size, 6, none⟩ = some (.slice Am mw.length cm) ∧ wr.cell? ⟨wA.heap.size, 7, none⟩ = some (.bool s)) ∧ wA.heap.size + 1 ≤ wr.heap.size ∧ Below wA.heap.size wA wr) (fun jj _ => n.toNat - (intOf jj).toNat)
        case atStart => exact ⟨0, rfl, by omega, Lib.hid (fun q hq => by omega), by refine ⟨?_, ?_, ?_, ?_, ?_, ?_, ?_, ?_⟩ <;> simp [go_sem], (by first | omega | (simp; omega) | simp), (by repeat (first | exact Below.refl _ _ | assumption | (refine below_drewN ?_ _) | (refine Below.drew ?_) | (refine Below.alloc ?_ (by first | omega | (simp; omega) | simp) _) | (refine Below.setCell ?_ (by first | omega | (simp; omega) | simp) _) | (refine below_trans ?_ (by assumption) (by first | omega | (simp; omega) | simp))))⟩
        case round =>
          obtain ⟨j, rfl, hj, HQ, ⟨y0, y1, y2, y3, y4, y5, y6, y7⟩, hsz2, hb2⟩ := hrel
          have hsr2 := hb2.size
          have rA := ra.later hb2
          by_cases hjn : (j : Int) < n
          · have g5 : decide ((j : Int) < n) = true := decide_eq_true hjn
            have HISJ := Lib.hid fun (w : World) hr => HIS.out w j hjn hr
            by_cases hz : z = size
            · have g6 : (z == size) = true := by simpa using hz
              cases s
              · have HQ2 : Hid (∀ q, q < j + 1 → ¬ (z = size ∧ false = true ∧ tb aw q = false)) := Lib.hid fun q hq h => by cases h.2.1
                clear hz
                go_wp2_with (go_at_call 38; refine (HMY.out _).mono ?_; rintro e w0 ⟨rfl, rfl⟩)
                go_roundw
                case rel => exact ⟨j + 1, by go_num, by omega, HQ2, ⟨y0, y1, y2, y3, y4, y5, y6, y7⟩, (by first | omega | (simp; omega) | simp), hb2⟩
                case measure => simp [intOf]; omega
              · obtain ⟨bt, hbt⟩ : ∃ bt, Hid (tb aw j = bt) := ⟨_, rfl⟩
                rw [hbt.out] at HISJ
                cases bt
                · have hall : ∀ q, q < j → tb aw q = true := fun q hq => by
                    cases hb : tb aw q
                    · exact absurd ⟨hz, rfl, hb⟩ (HQ.out q hq)
                    · rfl
                  obtain ⟨e2, e3, e4⟩ := HGOT.out j hjn hz rfl hbt.out hall
                  have E2 := Lib.hid e2
                  have E3 := Lib.hid e3
                  have E4 := Lib.hid e4
                  clear e2 e3 e4 hz hall
                  go_wp2_with fail
                  go_at_call 38
                  refine (HMY.out _).mono ?_
                  rintro e w0 ⟨rfl, rfl⟩
                  go_wp2_with fail
                  go_at_call 53
                  refine (HISJ.out _ rA).mono ?_
                  rintro e w7 ⟨rfl, hb_w7⟩
                  go_wp2
                  go_ret3
                  exact ⟨by rw [E2.out, E3.out, E4.out]; rfl, hb_wr.trans ((hb2.trans (hb_w7.mono (by omega))).mono hsz)⟩
                · have HQ2 : Hid (∀ q, q < j + 1 → ¬ (z = size ∧ true = true ∧ tb aw q = false)) := Lib.hid fun q hq h => by
                    by_cases e : q = j
                    · rw [e, hbt.out] at h; cases h.2.2
                    · exact HQ.out q (by omega) h
                  clear hz
                  go_wp2_with fail
                  go_at_call 38
                  refine (HMY.out _).mono ?_
                  rintro e w0 ⟨rfl, rfl⟩
                  go_wp2_with fail
                  go_at_call 53
                  refine (HISJ.out _ rA).mono ?_
                  rintro e w7 ⟨rfl, hb_w7⟩
                  have hs7 := hb_w7.size
                  have t0 : w7.cell? ⟨wA.heap.size, 0, none⟩ = some (.int .i64 f) := (hb_w7.cell (p := ⟨wA.heap.size, 0, none⟩) (by first | omega | (simp; omega) | simp)).trans y0
                  have t1 : w7.cell? ⟨wA.heap.size, 1, none⟩ = some (.int .i64 p) := (hb_w7.cell (p := ⟨wA.heap.size, 1, none⟩) (by first | omega | (simp; omega) | simp)).trans y1
                  have t2 : w7.cell? ⟨wA.heap.size, 2, none⟩ = some (.int .i64 z) := (hb_w7.cell (p := ⟨wA.heap.size, 2, none⟩) (by first | omega | (simp; omega) | simp)).trans y2
                  have t3 : w7.cell? ⟨wA.heap.size, 3, none⟩ = some (.int .i64 an) := (hb_w7.cell (p := ⟨wA.heap.size, 3, none⟩) (by first | omega | (simp; omega) | simp)).trans y3
                  have t4 : w7.cell? ⟨wA.heap.size, 4, none⟩ = some (.slice Aa aw.length ca) := (hb_w7.cell (p := ⟨wA.heap.size, 4, none⟩) (by first | omega | (simp; omega) | simp)).trans y4
                  have t5 : w7.cell? ⟨wA.heap.size, 5, none⟩ = some (.int .i64 mn) := (hb_w7.cell (p := ⟨wA.heap.size, 5, none⟩) (by first | omega | (simp; omega) | simp)).trans y5
                  have t6 : w7.cell? ⟨wA.heap.size, 6, none⟩ = some (.slice Am mw.length cm) := (hb_w7.cell (p := ⟨wA.heap.size, 6, none⟩) (by first | omega | (simp; omega) | simp)).trans y6
                  have t7 : w7.cell? ⟨wA.heap.size, 7, none⟩ = some (.bool true) := (hb_w7.cell (p := ⟨wA.heap.size, 7, none⟩) (by first | omega | (simp; omega) | simp)).trans y7
                  go_wp2
                  go_roundw
                  case rel => exact ⟨j + 1, by go_num, by omega, HQ2, ⟨t0, t1, t2, t3, t4, t5, t6, t7⟩, (by first | omega | (simp; omega) | simp), hb2.trans (hb_w7.mono (by omega))⟩
                  case measure => simp [intOf]; omega
            · have g6 : (z == size) = false := by simpa using hz
              have HQ2 : Hid (∀ q, q < j + 1 → ¬ (z = size ∧ s = true ∧ tb aw q = false)) := Lib.hid fun q hq h => hz h.1
              clear hz
              go_wp2_with (go_at_call 38; refine (HMY.out _).mono ?_; rintro e w0 ⟨rfl, rfl⟩)
              go_roundw
              case rel => exact ⟨j + 1, by go_num, by omega, HQ2, ⟨y0, y1, y2, y3, y4, y5, y6, y7⟩, (by first | omega | (simp; omega) | simp), hb2⟩
              case measure => simp [intOf]; omega
          · have g5 : decide ((j : Int) < n) = false := decide_eq_false hjn
            have HI2 := Lib.hid (HNO.out fun q hq => HQ.out q (by omega))
            go_wp2_with (go_at_call 38; refine (HMY.out _).mono ?_; rintro e w0 ⟨rfl, rfl⟩)
            go_roundw
            case rel => exact ⟨i + 1, by go_num, by omega, HI2, (by first | omega | (simp; omega) | simp), hb_wr.trans (hb2.mono hsz)⟩
            case measure => simp [intOf]; omega
      · obtain ⟨e2, e3, e4⟩ := HF.out.none_ HO.out (.inl ⟨rfl, fun j hj => HI.out j (by omega)⟩)
        have E2 := Lib.hid e2
        have E3 := Lib.hid e3
        have E4 := Lib.hid e4
        clear e2 e3 e4
        go_wp2
        go_ret3
        exact ⟨by rw [E2.out, E3.out, E4.out]; rfl, hb_wr⟩
  · have HC := Lib.hid fun (w : World) hr => xcheckL_any (w := w) (A := A) (l := l) cap hr hl 2 (.inr ⟨hok, rfl⟩)
    obtain ⟨rfl, rfl, rfl⟩ : x = 0 ∧ k = 0 ∧ y = 2 := by
      rcases hF with ⟨_, e⟩ | ⟨h, _⟩ | ⟨_, _, h, _⟩
      · exact e
      · exact absurd h hok
      · exact absurd h hok
    clear hF hok
    go_enter Try.func24, Try.ntmps24
    go_wp2_with fail
    go_at_call 20
    refine (HC.out _ (hr.later (by repeat (first | exact Below.refl _ _ | assumption | (refine below_drewN ?_ _) | (refine Below.drew ?_) | (refine Below.alloc ?_ (by first | omega | (simp; omega) | simp) _) | (refine Below.setCell ?_ (by first | omega | (simp; omega) | simp) _) | (refine below_trans ?_ (by assumption) (by first | omega | (simp; omega) | simp)))))).mono ?_
    rintro e w1 ⟨rfl, hb_w1⟩
    obtain ⟨hc_w1, hf_w1⟩ := bcell hb_w1; have hs_w1 := hb_w1.size; (try simp only [World.size_alloc, World.size_setCell, World.size_drew, World.heap_drewN] at hs_w1)
    go_wp2
    go_ret3
    exact ⟨rfl, (by repeat (first | exact Below.refl _ _ | assumption | (refine below_drewN ?_ _) | (refine Below.drew ?_) | (refine Below.alloc ?_ (by first | omega | (simp; omega) | simp) _) | (refine Below.setCell ?_ (by first | omega | (simp; omega) | simp) _) | (refine below_trans ?_ (by assumption) (by first | omega | (simp; omega) | simp))))⟩
end
end Go.Proofs.Ythphefoohkofbaa
