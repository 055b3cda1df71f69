/- The document's Find and Room of spans. -/
import Derived.Test.YthphefoohkofbaaMF
import Derived.Test.YthphefoohkofbaaS32
namespace Go.Proofs.Ythphefoohkofbaa
open Go.RowKit
set_option linter.unusedVariables false
set_option linter.unusedSimpArgs false

theorem IdxN.uniq {n : Nat} {q : Nat → Bool} {r s : Int} (h : IdxN n q r) (h' : IdxN n q s) : r = s := by
  rcases h with ⟨rfl, h1⟩ | ⟨i, rfl, h1, h2, h3⟩
  · rcases h' with ⟨rfl, _⟩ | ⟨j, rfl, g1, g2, _⟩
    · rfl
    · rw [h1 j g1] at g2; cases g2
  · rcases h' with ⟨rfl, g1⟩ | ⟨j, rfl, g1, g2, g3⟩
    · rw [g1 i h1] at h2; cases h2
    · rcases Nat.lt_trichotomy i j with h | h | h
      · rw [g3 i h] at h2; cases h2
      · rw [h]
      · rw [h3 j h] at g2; cases g2
theorem IdxE.uniq {l : List Sd} {p : Sd → Bool} {r s : Int} (h : IdxE l p r) (h' : IdxE l p s) : r = s := IdxN.uniq (n := l.length) (q := fun i => p (nth l i)) h h'
theorem FindE.got {l : List Sd} {a : Nat} {x k y : Int} (h : FindE l a x k y) (ok : OkL l) {i : Nat} (hI : IdxE l (inP a) (i : Nat)) {j : Nat} (hN : IdxN (slotsOf (nth l i).z).toNat (isAt a (nth l i)) (j : Nat)) : x = i ∧ k = j ∧ y = 0 := by
  rcases h with ⟨h, _⟩ | ⟨_, h, _⟩ | ⟨i', _, h, h2⟩
  · exact absurd ok h
  · have := IdxE.uniq h hI; omega
  · have e := IdxE.uniq h hI
    have e : i' = i := by omega
    subst e
    rcases h2 with ⟨h2, _⟩ | ⟨j', h2, e1, e2, e3⟩
    · have := IdxN.uniq h2 hN; omega
    · have := IdxN.uniq h2 hN
      exact ⟨e1, by omega, e3⟩
theorem FindE.dead {l : List Sd} {a : Nat} {x k y : Int} (h : FindE l a x k y) (ok : OkL l) {i : Nat} (hI : IdxE l (inP a) (i : Nat)) (hN : IdxN (slotsOf (nth l i).z).toNat (isAt a (nth l i)) (-1)) : x = 0 ∧ k = 0 ∧ y = 10 := by
  rcases h with ⟨h, _⟩ | ⟨_, h, _⟩ | ⟨i', _, h, h2⟩
  · exact absurd ok h
  · have := IdxE.uniq h hI; omega
  · have e := IdxE.uniq h hI
    have e : i' = i := by omega
    subst e
    rcases h2 with ⟨_, e1, e2, e3⟩ | ⟨j', h2, _⟩
    · exact ⟨e1, e2, e3⟩
    · have := IdxN.uniq h2 hN; omega
theorem FindE.none_ {l : List Sd} {a : Nat} {x k y : Int} (h : FindE l a x k y) (ok : OkL l) (hI : IdxE l (inP a) (-1)) : x = 0 ∧ k = 0 ∧ y = 3 := by
  rcases h with ⟨h, _⟩ | ⟨_, h, e⟩ | ⟨i', _, h, h2⟩
  · exact absurd ok h
  · exact e
  · have := IdxE.uniq h hI; omega
theorem RoomE.got {l : List Sd} {size x k y : Int} (h : RoomE l size x k y) (ok : OkL l) {i : Nat} (hI : IdxE l (hasRoom size) (i : Nat)) {j : Nat} (hN : IdxN (slotsOf (nth l i).z).toNat (fun k => !tb (nth l i).aw k) (j : Nat)) : x = i ∧ k = j ∧ y = 0 := by
  rcases h with ⟨h, _⟩ | ⟨_, h, _⟩ | ⟨i', r, _, h, h2, e1, e2, e3⟩
  · exact absurd ok h
  · have := IdxE.uniq h hI; omega
  · have e := IdxE.uniq h hI
    have e : i' = i := by omega
    subst e
    have := IdxN.uniq h2 hN
    exact ⟨e1, by omega, e3⟩
theorem RoomE.none_ {l : List Sd} {size x k y : Int} (h : RoomE l size x k y) (ok : OkL l) (hI : IdxE l (hasRoom size) (-1)) : x = 0 ∧ k = 0 ∧ y = 3 := by
  rcases h with ⟨h, _⟩ | ⟨_, h, e⟩ | ⟨i', _, _, h, h2⟩
  · exact absurd ok h
  · exact e
  · have := IdxE.uniq h hI; omega
section
variable {w : World} {A : Option Addr} {l : List Sd} (cap : Nat)
set_option maxHeartbeats 8000000 in
theorem xfindL_any (hr : SRow w w.heap.size A l) (hl : l.length ≤ 17592186044416) (a : Nat) (ha : a < W64) (x k y : Int) (hF : FindE l a x k y) :
    Calls Try.prog 22 #[.slice A l.length cap, .int .u64 (a : Nat)] w fun e w' => e = .returned (.tuple #[.int .i64 x, .int .i64 k, .int .i64 y]) ∧ Below w.heap.size w w' := by
  by_cases hok : OkL l
  · have HC := Lib.hid fun (w : World) hr => xcheckL_any (w := w) (A := A) (l := l) cap hr hl 0 (.inl ⟨hok, rfl⟩)
    have HO := Lib.hid hok
    have HF := Lib.hid hF
    have h256 := hok.1
    clear hok hF
    go_enter Try.func22, Try.ntmps22
    go_wp2_with fail
    go_at_call 20
    refine (HC.out _ (hr.later (by repeat (first | exact Below.refl _ _ | assumption | (refine below_drewN ?_ _) | (refine Below.drew ?_) | (refine Below.alloc ?_ (by first | omega | (simp; omega) | simp) _) | (refine Below.setCell ?_ (by first | omega | (simp; omega) | simp) _) | (refine below_trans ?_ (by assumption) (by first | omega | (simp; omega) | simp)))))).mono ?_
    rintro e w1 ⟨rfl, hb_w1⟩
    obtain ⟨hc_w1, hf_w1⟩ := bcell hb_w1; have hs_w1 := hb_w1.size; (try simp only [World.size_alloc, World.size_setCell, World.size_drew, World.heap_drewN] at hs_w1)
    have b1 : Below w.heap.size w w1 := (by repeat (first | exact Below.refl _ _ | assumption | (refine below_drewN ?_ _) | (refine Below.drew ?_) | (refine Below.alloc ?_ (by first | omega | (simp; omega) | simp) _) | (refine Below.setCell ?_ (by first | omega | (simp; omega) | simp) _) | (refine below_trans ?_ (by assumption) (by first | omega | (simp; omega) | simp))))
    clear hc_w1 hf_w1
    go_wp2_with fail
    go_loopw [15] (fun ii wr => ∃ i : Nat, ii = .int .i64 (i : Nat) ∧ i ≤ l.length ∧ Hid (∀ j, j < i → inP a (nth l j) = false) ∧ w.heap.size ≤ wr.heap.size ∧ Below w.heap.size w wr) (fun ii _ => l.length - (intOf ii).toNat)
    case atStart => exact ⟨0, rfl, Nat.zero_le _, Lib.hid (fun j hj => by omega), (by first | omega | (simp; omega) | simp), b1⟩
    case round =>
      obtain ⟨i, rfl, hi, HI, hsz, hb_wr⟩ := hrel
      have hsr := hb_wr.size
      by_cases hlt : i < l.length
      · obtain ⟨b, off, hAe, hbb, hc⟩ := (hr.later hb_wr).at_ (by omega)
        obtain ⟨Aa, ca, Am, cm, c8, ra, rm⟩ := hc i hlt
        have o1 := HO.out.2.1 i hlt
        have p1 := o1.placed
        unfold Placed at p1
        have hs := o1.sized.slots
        obtain ⟨d, hd⟩ : ∃ d, Hid (nth l i = d) := ⟨_, rfl⟩
        rw [hd.out] at c8 ra rm o1 p1 hs
        have HA0 := Lib.hid fun (w : World) => xat_any (w := w) d Aa ca Am cm 0 p1.1 (by omega) 0 (by omega) (by omega) (by omega)
        obtain ⟨x0, x1, x2, x3, x4, x5, x6, x7⟩ := id c8
        have i1 : (i : Int) < (l.length : Int) := by omega
        have i2 : (0 : Int) ≤ (i : Int) := by omega
        clear hc c8
        subst hAe
        have hinp : inP a d = decide (d.f * 16 ≤ (a : Int) ∧ (a : Int) < (d.f + d.p) * 16) := rfl
        by_cases h1 : (a : Int) < d.f * 16
        · have g1 : decide ((a : Int) < d.f * 16 + 0) = true := decide_eq_true (by omega)
          have g1' : decide ((a : Int) < d.f * 16) = true := decide_eq_true h1
          have HI2 : Hid (∀ j, j < i + 1 → inP a (nth l j) = false) := Lib.hid fun j hj => by
            by_cases e : j = i
            · rw [e, hd.out, hinp]; exact decide_eq_false (by omega)
            · exact HI.out j (by omega)
          clear hinp h1 hs o1
          obtain ⟨f, p, z, an, aw, mn, mw, s⟩ := d
          unfold spv at HA0
          simp only at *
          go_wp2_with (go_at_call 42; refine (HA0.out _).mono ?_; rintro e w5 ⟨rfl, hb_w5⟩; have hs5 := hb_w5.size; (try simp only [World.size_alloc] at hs5))
          go_roundw
          case rel => exact ⟨i + 1, by go_num, by omega, HI2, (by first | omega | (simp; omega) | simp), (by repeat (first | exact Below.refl _ _ | assumption | (refine below_drewN ?_ _) | (refine Below.drew ?_) | (refine Below.alloc ?_ (by first | omega | (simp; omega) | simp) _) | (refine Below.setCell ?_ (by first | omega | (simp; omega) | simp) _) | (refine below_trans ?_ (by assumption) (by first | omega | (simp; omega) | simp))))⟩
          case measure => simp [intOf]; omega
        · have g1 : decide ((a : Int) < d.f * 16 + 0) = false := decide_eq_false (by omega)
          have g1' : decide ((a : Int) < d.f * 16) = false := decide_eq_false h1
          have u1 : IntKind.i64.wrap (d.f + d.p) = d.f + d.p := by rw [IntWalk.i64_in _ (by omega)]
          have u2 : IntKind.i64.wrap ((d.f + d.p) * 16) = (d.f + d.p) * 16 := by rw [IntWalk.i64_in _ (by omega)]
          have u3 : IntKind.u64.wrap ((d.f + d.p) * 16) = (d.f + d.p) * 16 := by rw [IntKind.wrap_u64]; omega
          by_cases h2 : (d.f + d.p) * 16 ≤ (a : Int)
          · have g2 : decide ((d.f + d.p) * 16 ≤ (a : Int)) = true := decide_eq_true h2
            have HI2 : Hid (∀ j, j < i + 1 → inP a (nth l j) = false) := Lib.hid fun j hj => by
              by_cases e : j = i
              · rw [e, hd.out, hinp]; exact decide_eq_false (by omega)
              · exact HI.out j (by omega)
            clear hinp h1 h2 hs o1
            obtain ⟨f, p, z, an, aw, mn, mw, s⟩ := d
            unfold spv at HA0
            simp only at *
            go_wp2_with fail
            go_at_call 42
            refine (HA0.out _).mono ?_
            rintro e w5 ⟨rfl, hb_w5⟩
            obtain ⟨hc_w5, hf_w5⟩ := bcell hb_w5
            have hs5 := hb_w5.size
            (try simp only [World.size_alloc] at hs5)
            have y0 : w5.cell? ⟨wr.heap.size, 0, none⟩ = some (.int .i64 f) := (hc_w5 _ _ (by first | omega | (simp; omega) | simp)).trans (by simp [go_sem])
            have y1 : w5.cell? ⟨wr.heap.size, 1, none⟩ = some (.int .i64 p) := (hc_w5 _ _ (by first | omega | (simp; omega) | simp)).trans (by simp [go_sem])
            clear hc_w5 hf_w5
            go_wp2
            go_roundw
            case rel => exact ⟨i + 1, by go_num, by omega, HI2, (by first | omega | (simp; omega) | simp), (by repeat (first | exact Below.refl _ _ | assumption | (refine below_drewN ?_ _) | (refine Below.drew ?_) | (refine Below.alloc ?_ (by first | omega | (simp; omega) | simp) _) | (refine Below.setCell ?_ (by first | omega | (simp; omega) | simp) _) | (refine below_trans ?_ (by assumption) (by first | omega | (simp; omega) | simp))))⟩
            case measure => simp [intOf]; omega
          · have g2 : decide ((d.f + d.p) * 16 ≤ (a : Int)) = false := decide_eq_false h2
            have HIE : Hid (IdxE l (inP a) (i : Nat)) := Lib.hid (.inr ⟨i, rfl, hlt, by rw [hd.out, hinp]; exact decide_eq_true (by omega), HI.out⟩)
            have HMY := Lib.hid fun (w : World) => xmany_any (w := w) o1.sized
            have hgot : ∀ (j : Nat), (j : Int) < slotsOf d.z → isAt a d j = true → (∀ q, q < j → isAt a d q = false) → x = i ∧ k = j ∧ y = 0 := fun j hj h1 h2 => HF.out.got HO.out HIE.out (by rw [hd.out]; exact .inr ⟨j, rfl, by omega, h1, h2⟩)
            have hdead : (∀ q : Nat, (q : Int) < slotsOf d.z → isAt a d q = false) → x = 0 ∧ k = 0 ∧ y = 10 := fun h => HF.out.dead HO.out HIE.out (by rw [hd.out]; exact .inl ⟨rfl, fun q hq => h q (by omega)⟩)
            have hatd : ∀ (j : Nat), isAt a d j = (decide (d.f * 16 + (j : Int) * d.z = (a : Int)) && tb d.aw j) := fun j => rfl
            have hmul : ∀ (j : Nat), (j : Int) < slotsOf d.z → 0 ≤ (j : Int) * d.z ∧ (j : Int) * d.z ≤ 64 := fun j hj => by
              have := o1.in_ (by omega) hj
              omega
            have HAT := Lib.hid fun (w : World) (j : Nat) (hj : (j : Int) < slotsOf d.z) => xat_any (w := w) d Aa ca Am cm (j : Nat) p1.1 (by omega) ((j : Int) * d.z) rfl (hmul j hj).1 (by have := (hmul j hj).2; omega)
            have HIS := Lib.hid fun (w : World) (j : Nat) (hj : (j : Int) < slotsOf d.z) hr => is_any (A := Aa) (ws := d.aw) (w := w) (j : Nat) d.an ca hr (by omega) (by rw [o1.aw]; omega) (by rw [o1.aw]; omega)
            simp only [Int.toNat_natCast] at HIS
            have hwm : ∀ j : Nat, (j : Int) < slotsOf d.z → 0 ≤ d.f * 16 + (j : Int) * d.z := fun j hj => by have := hmul j hj; omega
            have HGOT := Lib.hid hgot
            have HDEAD := Lib.hid hdead
            have HATD := Lib.hid hatd
            have hsl := hs.1
            have hsl8 := hs.2.1
            clear hinp h1 h2 hs o1 hgot hdead hatd hmul hwm p1
            obtain ⟨f, p, z, an, aw, mn, mw, s⟩ := d
            unfold spv at HA0 HAT
            simp only at *
            generalize slotsOf z = n at *
            go_wp2_with fail
            go_at_call 42
            refine (HA0.out _).mono ?_
            rintro e w5 ⟨rfl, hb_w5⟩
            obtain ⟨hc_w5, hf_w5⟩ := bcell hb_w5
            have hs5 := hb_w5.size
            (try simp only [World.size_alloc] at hs5)
            have b5 : Below w.heap.size w w5 := (by repeat (first | exact Below.refl _ _ | assumption | (refine below_drewN ?_ _) | (refine Below.drew ?_) | (refine Below.alloc ?_ (by first | omega | (simp; omega) | simp) _) | (refine Below.setCell ?_ (by first | omega | (simp; omega) | simp) _) | (refine below_trans ?_ (by assumption) (by first | omega | (simp; omega) | simp))))
            have b55 : wr.heap.size < w5.heap.size := by omega
            generalize wr = wA at *
            have y0 : w5.cell? ⟨wA.heap.size, 0, none⟩ = some (.int .i64 f) := (hc_w5 _ _ (by first | omega | (simp; omega) | simp)).trans (by simp [go_sem])
            have y1 : w5.cell? ⟨wA.heap.size, 1, none⟩ = some (.int .i64 p) := (hc_w5 _ _ (by first | omega | (simp; omega) | simp)).trans (by simp [go_sem])
            have y2 : w5.cell? ⟨wA.heap.size, 2, none⟩ = some (.int .i64 z) := (hc_w5 _ _ (by first | omega | (simp; omega) | simp)).trans (by simp [go_sem])
            have y3 : w5.cell? ⟨wA.heap.size, 3, none⟩ = some (.int .i64 an) := (hc_w5 _ _ (by first | omega | (simp; omega) | simp)).trans (by simp [go_sem])
            have y4 : w5.cell? ⟨wA.heap.size, 4, none⟩ = some (.slice Aa aw.length ca) := (hc_w5 _ _ (by first | omega | (simp; omega) | simp)).trans (by simp [go_sem])
            have y5 : w5.cell? ⟨wA.heap.size, 5, none⟩ = some (.int .i64 mn) := (hc_w5 _ _ (by first | omega | (simp; omega) | simp)).trans (by simp [go_sem])
            have y6 : w5.cell? ⟨wA.heap.size, 6, none⟩ = some (.slice Am mw.length cm) := (hc_w5 _ _ (by first | omega | (simp; omega) | simp)).trans (by simp [go_sem])
            have y7 : w5.cell? ⟨wA.heap.size, 7, none⟩ = some (.bool s) := (hc_w5 _ _ (by first | omega | (simp; omega) | simp)).trans (by simp [go_sem])
            have ra5 : Row w5 w5.heap.size Aa aw := ra.later (below_trans ((Below.refl wA.heap.size wA).alloc (Nat.le_refl _) _) hb_w5 (by simp))
            clear hc_w5 hf_w5 hb_w5 x0 x1 x2 x3 x4 x5 x6 x7 hb_wr ra rm HA0
            go_wp2_with fail
            go_loopw [9] (fun jj wr => ∃ j : Nat, jj = .int .i64 (j : Nat) ∧ (j : Int) ≤ n ∧ Hid (∀ q, q < j → isAt a ⟨f, p, z, an, aw, mn, mw, s⟩ q = false) ∧ (wr.cell? ⟨wA.heap.size, 0, none⟩ = some (.int .i64 f) ∧ wr.cell? ⟨wA.heap.size, 1, none⟩ = some (.int .i64 p) ∧ wr.cell? ⟨wA.heap.size, 2, none⟩ = some (.int .i64 z) ∧ wr.cell? ⟨wA.heap.size, 3, none⟩ = some (.int .i64 an) ∧ wr.cell? ⟨wA.heap.size, 4, none⟩ = some (.slice Aa aw.length ca) ∧ wr.cell? ⟨wA.heap.size, 5, none⟩ = some (.int .i64 mn) ∧ wr.cell? ⟨wA.heap.size, 6, none⟩ = some (.slice Am mw.length cm) ∧ wr.cell? ⟨wA.heap.size, 7, none⟩ = some (.bool s)) ∧ w5.heap.size ≤ wr.heap.size ∧ Below w5.heap.size w5 wr) (fun jj _ => n.toNat - (intOf jj).toNat)
            case atStart => exact ⟨0, rfl, by omega, Lib.hid (fun q hq => by omega), ⟨y0, y1, y2, y3, y4, y5, y6, y7⟩, (by first | omega | (simp; omega) | simp), (by repeat (first | exact Below.refl _ _ | assumption | (refine below_drewN ?_ _) | (refine Below.drew ?_) | (refine Below.alloc ?_ (by first | omega | (simp; omega) | simp) _) | (refine Below.setCell ?_ (by first | omega | (simp; omega) | simp) _) | (refine below_trans ?_ (by assumption) (by first | omega | (simp; omega) | simp))))⟩
            case round =>
              clear y0 y1 y2 y3 y4 y5 y6 y7
              obtain ⟨j, rfl, hj, HQ, ⟨y0, y1, y2, y3, y4, y5, y6, y7⟩, hsz2, hb_wr⟩ := hrel
              have hsr2 := hb_wr.size
              have rA := ra5.later hb_wr
              by_cases hjn : (j : Int) < n
              · have g5 : decide ((j : Int) < n) = true := decide_eq_true hjn
                have e1 := HATD.out j
                have HATJ := Lib.hid fun (w : World) => HAT.out w j hjn
                have HISJ := Lib.hid fun (w : World) hr => HIS.out w j hjn hr
                generalize hm : (j : Int) * z = m at *
                generalize hbt : tb aw j = bt at *
                by_cases h3 : f * 16 + m = (a : Int)
                · have g6 : (f * 16 + m == (a : Int)) = true := by simpa using h3
                  rw [decide_eq_true h3, Bool.true_and] at e1
                  cases bt
                  · have HQ2 : Hid (∀ q, q < j + 1 → isAt a ⟨f, p, z, an, aw, mn, mw, s⟩ q = false) := Lib.hid fun q hq => by
                      by_cases e : q = j
                      · rw [e]; exact e1
                      · exact HQ.out q (by omega)
                    clear e1 h3
                    go_wp2_with fail
                    go_at_call 38
                    refine (HMY.out _).mono ?_
                    rintro e w0 ⟨rfl, rfl⟩
                    go_wp2_with fail
                    go_at_call 42
                    refine (HATJ.out _).mono ?_
                    rintro e w6 ⟨rfl, hb_w6⟩
                    have hs6 := hb_w6.size
                    have z0 : w6.cell? ⟨wA.heap.size, 0, none⟩ = some (.int .i64 f) := (hb_w6.cell (p := ⟨wA.heap.size, 0, none⟩) (by first | omega | (simp; omega) | simp)).trans y0
                    have z1 : w6.cell? ⟨wA.heap.size, 1, none⟩ = some (.int .i64 p) := (hb_w6.cell (p := ⟨wA.heap.size, 1, none⟩) (by first | omega | (simp; omega) | simp)).trans y1
                    have z2 : w6.cell? ⟨wA.heap.size, 2, none⟩ = some (.int .i64 z) := (hb_w6.cell (p := ⟨wA.heap.size, 2, none⟩) (by first | omega | (simp; omega) | simp)).trans y2
                    have z3 : w6.cell? ⟨wA.heap.size, 3, none⟩ = some (.int .i64 an) := (hb_w6.cell (p := ⟨wA.heap.size, 3, none⟩) (by first | omega | (simp; omega) | simp)).trans y3
                    have z4 : w6.cell? ⟨wA.heap.size, 4, none⟩ = some (.slice Aa aw.length ca) := (hb_w6.cell (p := ⟨wA.heap.size, 4, none⟩) (by first | omega | (simp; omega) | simp)).trans y4
                    have z5 : w6.cell? ⟨wA.heap.size, 5, none⟩ = some (.int .i64 mn) := (hb_w6.cell (p := ⟨wA.heap.size, 5, none⟩) (by first | omega | (simp; omega) | simp)).trans y5
                    have z6 : w6.cell? ⟨wA.heap.size, 6, none⟩ = some (.slice Am mw.length cm) := (hb_w6.cell (p := ⟨wA.heap.size, 6, none⟩) (by first | omega | (simp; omega) | simp)).trans y6
                    have z7 : w6.cell? ⟨wA.heap.size, 7, none⟩ = some (.bool s) := (hb_w6.cell (p := ⟨wA.heap.size, 7, none⟩) (by first | omega | (simp; omega) | simp)).trans y7
                    go_wp2_with fail
                    go_at_call 53
                    refine (HISJ.out _ (rA.later hb_w6)).mono ?_
                    rintro e w7 ⟨rfl, hb_w7⟩
                    have hs7 := hb_w7.size
                    have t0 : w7.cell? ⟨wA.heap.size, 0, none⟩ = some (.int .i64 f) := (hb_w7.cell (p := ⟨wA.heap.size, 0, none⟩) (by first | omega | (simp; omega) | simp)).trans z0
                    have t1 : w7.cell? ⟨wA.heap.size, 1, none⟩ = some (.int .i64 p) := (hb_w7.cell (p := ⟨wA.heap.size, 1, none⟩) (by first | omega | (simp; omega) | simp)).trans z1
                    have t2 : w7.cell? ⟨wA.heap.size, 2, none⟩ = some (.int .i64 z) := (hb_w7.cell (p := ⟨wA.heap.size, 2, none⟩) (by first | omega | (simp; omega) | simp)).trans z2
                    have t3 : w7.cell? ⟨wA.heap.size, 3, none⟩ = some (.int .i64 an) := (hb_w7.cell (p := ⟨wA.heap.size, 3, none⟩) (by first | omega | (simp; omega) | simp)).trans z3
                    have t4 : w7.cell? ⟨wA.heap.size, 4, none⟩ = some (.slice Aa aw.length ca) := (hb_w7.cell (p := ⟨wA.heap.size, 4, none⟩) (by first | omega | (simp; omega) | simp)).trans z4
                    have t5 : w7.cell? ⟨wA.heap.size, 5, none⟩ = some (.int .i64 mn) := (hb_w7.cell (p := ⟨wA.heap.size, 5, none⟩) (by first | omega | (simp; omega) | simp)).trans z5
                    have t6 : w7.cell? ⟨wA.heap.size, 6, none⟩ = some (.slice Am mw.length cm) := (hb_w7.cell (p := ⟨wA.heap.size, 6, none⟩) (by first | omega | (simp; omega) | simp)).trans z6
                    have t7 : w7.cell? ⟨wA.heap.size, 7, none⟩ = some (.bool s) := (hb_w7.cell (p := ⟨wA.heap.size, 7, none⟩) (by first | omega | (simp; omega) | simp)).trans z7
                    go_wp2
                    go_roundw
                    case rel => exact ⟨j + 1, by go_num, by omega, HQ2, ⟨t0, t1, t2, t3, t4, t5, t6, t7⟩, (by first | omega | (simp; omega) | simp), (hb_wr.trans (hb_w6.mono hsz2)).trans (hb_w7.mono (by omega))⟩
                    case measure => simp [intOf]; omega
                  · obtain ⟨e2, e3, e4⟩ := HGOT.out j hjn e1 HQ.out
                    have E2 := Lib.hid e2
                    have E3 := Lib.hid e3
                    have E4 := Lib.hid e4
                    clear e1 h3 e2 e3 e4
                    go_wp2_with fail
                    go_at_call 38
                    refine (HMY.out _).mono ?_
                    rintro e w0 ⟨rfl, rfl⟩
                    go_wp2_with fail
                    go_at_call 42
                    refine (HATJ.out _).mono ?_
                    rintro e w6 ⟨rfl, hb_w6⟩
                    have hs6 := hb_w6.size
                    have z0 : w6.cell? ⟨wA.heap.size, 0, none⟩ = some (.int .i64 f) := (hb_w6.cell (p := ⟨wA.heap.size, 0, none⟩) (by first | omega | (simp; omega) | simp)).trans y0
                    have z1 : w6.cell? ⟨wA.heap.size, 1, none⟩ = some (.int .i64 p) := (hb_w6.cell (p := ⟨wA.heap.size, 1, none⟩) (by first | omega | (simp; omega) | simp)).trans y1
                    have z2 : w6.cell? ⟨wA.heap.size, 2, none⟩ = some (.int .i64 z) := (hb_w6.cell (p := ⟨wA.heap.size, 2, none⟩) (by first | omega | (simp; omega) | simp)).trans y2
                    have z3 : w6.cell? ⟨wA.heap.size, 3, none⟩ = some (.int .i64 an) := (hb_w6.cell (p := ⟨wA.heap.size, 3, none⟩) (by first | omega | (simp; omega) | simp)).trans y3
                    have z4 : w6.cell? ⟨wA.heap.size, 4, none⟩ = some (.slice Aa aw.length ca) := (hb_w6.cell (p := ⟨wA.heap.size, 4, none⟩) (by first | omega | (simp; omega) | simp)).trans y4
                    have z5 : w6.cell? ⟨wA.heap.size, 5, none⟩ = some (.int .i64 mn) := (hb_w6.cell (p := ⟨wA.heap.size, 5, none⟩) (by first | omega | (simp; omega) | simp)).trans y5
                    have z6 : w6.cell? ⟨wA.heap.size, 6, none⟩ = some (.slice Am mw.length cm) := (hb_w6.cell (p := ⟨wA.heap.size, 6, none⟩) (by first | omega | (simp; omega) | simp)).trans y6
                    have z7 : w6.cell? ⟨wA.heap.size, 7, none⟩ = some (.bool s) := (hb_w6.cell (p := ⟨wA.heap.size, 7, none⟩) (by first | omega | (simp; omega) | simp)).trans y7
                    go_wp2_with fail
                    go_at_call 53
                    refine (HISJ.out _ (rA.later hb_w6)).mono ?_
                    rintro e w7 ⟨rfl, hb_w7⟩
                    go_wp2
                    go_ret3
                    exact ⟨by rw [E2.out, E3.out, E4.out]; rfl, b5.trans (((hb_wr.trans (hb_w6.mono hsz2)).trans (hb_w7.mono (by omega))).mono (by omega))⟩
                · have g6 : (f * 16 + m == (a : Int)) = false := by simpa using h3
                  rw [decide_eq_false h3, Bool.false_and] at e1
                  have HQ2 : Hid (∀ q, q < j + 1 → isAt a ⟨f, p, z, an, aw, mn, mw, s⟩ q = false) := Lib.hid fun q hq => by
                    by_cases e : q = j
                    · rw [e]; exact e1
                    · exact HQ.out q (by omega)
                  clear e1 h3
                  go_wp2_with fail
                  go_at_call 38
                  refine (HMY.out _).mono ?_
                  rintro e w0 ⟨rfl, rfl⟩
                  go_wp2_with fail
                  go_at_call 42
                  refine (HATJ.out _).mono ?_
                  rintro e w6 ⟨rfl, hb_w6⟩
                  have hs6 := hb_w6.size
                  have z0 : w6.cell? ⟨wA.heap.size, 0, none⟩ = some (.int .i64 f) := (hb_w6.cell (p := ⟨wA.heap.size, 0, none⟩) (by first | omega | (simp; omega) | simp)).trans y0
                  have z1 : w6.cell? ⟨wA.heap.size, 1, none⟩ = some (.int .i64 p) := (hb_w6.cell (p := ⟨wA.heap.size, 1, none⟩) (by first | omega | (simp; omega) | simp)).trans y1
                  have z2 : w6.cell? ⟨wA.heap.size, 2, none⟩ = some (.int .i64 z) := (hb_w6.cell (p := ⟨wA.heap.size, 2, none⟩) (by first | omega | (simp; omega) | simp)).trans y2
                  have z3 : w6.cell? ⟨wA.heap.size, 3, none⟩ = some (.int .i64 an) := (hb_w6.cell (p := ⟨wA.heap.size, 3, none⟩) (by first | omega | (simp; omega) | simp)).trans y3
                  have z4 : w6.cell? ⟨wA.heap.size, 4, none⟩ = some (.slice Aa aw.length ca) := (hb_w6.cell (p := ⟨wA.heap.size, 4, none⟩) (by first | omega | (simp; omega) | simp)).trans y4
                  have z5 : w6.cell? ⟨wA.heap.size, 5, none⟩ = some (.int .i64 mn) := (hb_w6.cell (p := ⟨wA.heap.size, 5, none⟩) (by first | omega | (simp; omega) | simp)).trans y5
                  have z6 : w6.cell? ⟨wA.heap.size, 6, none⟩ = some (.slice Am mw.length cm) := (hb_w6.cell (p := ⟨wA.heap.size, 6, none⟩) (by first | omega | (simp; omega) | simp)).trans y6
                  have z7 : w6.cell? ⟨wA.heap.size, 7, none⟩ = some (.bool s) := (hb_w6.cell (p := ⟨wA.heap.size, 7, none⟩) (by first | omega | (simp; omega) | simp)).trans y7
                  go_wp2
                  go_roundw
                  case rel => exact ⟨j + 1, by go_num, by omega, HQ2, ⟨z0, z1, z2, z3, z4, z5, z6, z7⟩, (by first | omega | (simp; omega) | simp), hb_wr.trans (hb_w6.mono hsz2)⟩
                  case measure => simp [intOf]; omega
              · have g5 : decide ((j : Int) < n) = false := decide_eq_false hjn
                obtain ⟨e2, e3, e4⟩ := HDEAD.out (fun q hq => HQ.out q (by omega))
                have E2 := Lib.hid e2
                have E3 := Lib.hid e3
                have E4 := Lib.hid e4
                clear e2 e3 e4
                go_wp2_with (go_at_call 38; refine (HMY.out _).mono ?_; rintro e w0 ⟨rfl, rfl⟩)
                go_ret3
                exact ⟨by rw [E2.out, E3.out, E4.out]; rfl, b5.trans (hb_wr.mono (by omega))⟩
      · obtain ⟨e2, e3, e4⟩ := HF.out.none_ HO.out (.inl ⟨rfl, fun j hj => HI.out j (by omega)⟩)
        have E2 := Lib.hid e2
        have E3 := Lib.hid e3
        have E4 := Lib.hid e4
        clear e2 e3 e4
        go_wp2
        go_ret3
        exact ⟨by rw [E2.out, E3.out, E4.out]; rfl, hb_wr⟩
  · have HC := Lib.hid fun (w : World) hr => xcheckL_any (w := w) (A := A) (l := l) cap hr hl 2 (.inr ⟨hok, rfl⟩)
    obtain ⟨rfl, rfl, rfl⟩ : x = 0 ∧ k = 0 ∧ y = 2 := by
      rcases hF with ⟨_, e⟩ | ⟨h, _⟩ | ⟨_, h, _⟩
      · exact e
      · exact absurd h hok
      · exact absurd h hok
    clear hF hok
    go_enter Try.func22, Try.ntmps22
    go_wp2_with fail
    go_at_call 20
    refine (HC.out _ (hr.later (by repeat (first | exact Below.refl _ _ | assumption | (refine below_drewN ?_ _) | (refine Below.drew ?_) | (refine Below.alloc ?_ (by first | omega | (simp; omega) | simp) _) | (refine Below.setCell ?_ (by first | omega | (simp; omega) | simp) _) | (refine below_trans ?_ (by assumption) (by first | omega | (simp; omega) | simp)))))).mono ?_
    rintro e w1 ⟨rfl, hb_w1⟩
    obtain ⟨hc_w1, hf_w1⟩ := bcell hb_w1; have hs_w1 := hb_w1.size; (try simp only [World.size_alloc, World.size_setCell, World.size_drew, World.heap_drewN] at hs_w1)
    go_wp2
    go_ret3
    exact ⟨rfl, (by repeat (first | exact Below.refl _ _ | assumption | (refine below_drewN ?_ _) | (refine Below.drew ?_) | (refine Below.alloc ?_ (by first | omega | (simp; omega) | simp) _) | (refine Below.setCell ?_ (by first | omega | (simp; omega) | simp) _) | (refine below_trans ?_ (by assumption) (by first | omega | (simp; omega) | simp))))⟩
end
end Go.Proofs.Ythphefoohkofbaa
