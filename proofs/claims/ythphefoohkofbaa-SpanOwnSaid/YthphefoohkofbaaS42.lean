/- The document's Add of spans. -/
import Derived.Test.YthphefoohkofbaaMF
import Derived.Test.YthphefoohkofbaaS32
import Derived.Test.YthphefoohkofbaaS35
namespace Go.Proofs.Ythphefoohkofbaa
open Go.RowKit
set_option linter.unusedVariables false
set_option linter.unusedSimpArgs false

theorem insS_take_succ (l : List Sd) (s : Sd) (n k : Nat) (hn : n ≤ k) (hk : k < l.length) : insS (l.take (k + 1)) s n = insS (l.take k) s n ++ [nth l k] := by
  unfold insS
  rw [take_nth l k hk, List.take_append_of_le_length (by rw [List.length_take]; omega), List.drop_append_of_le_length (by rw [List.length_take]; omega), ← List.append_assoc]
theorem insS_take_eq (l : List Sd) (s : Sd) (n : Nat) (hn : n ≤ l.length) : insS (l.take n) s n = l.take n ++ [s] := by
  unfold insS
  rw [List.take_take, Nat.min_self, List.drop_eq_nil_of_le (by rw [List.length_take]; omega), List.append_nil]
theorem pos_at {l : List Sd} {s : Sd} {n k : Nat} (hok : OkL l) (h1 : Ok1 s) (hp : PosE l s n) (hk : k < l.length) :
    (k < n → (nth l k).f + (nth l k).p ≤ s.f) ∧ (k = n → s.f < (nth l k).f + (nth l k).p) ∧ (n < k → ¬ Clash l s n → s.f + s.p ≤ (nth l k).f) := by
  refine ⟨fun h => pos_before hp k h, fun h => ?_, fun h hc => ?_⟩
  · subst h
    rcases hp with ⟨_, h⟩ | h
    · omega
    · rcases h with ⟨h, _⟩ | ⟨j, h2, _, h3, _⟩
      · omega
      · have : j = k := by omega
        subst this
        unfold hitsS at h3
        exact of_decide_eq_true h3
  · have h2 := hok.apart (i := n) (k := k) h hk
    have h3 := (hok.2.1 n (by omega)).sized.slots
    have h4 : ¬ (nth l n).f < s.f + s.p := fun h => hc ⟨by omega, h⟩
    omega
section
variable {w : World} {A As Ms : Option Addr} {l : List Sd} (cap ca cm : Nat)
set_option maxHeartbeats 16000000 in
theorem xaddL_any (hr : SRow w w.heap.size A l) (hl : l.length ≤ 17592186044416) (d : Sd) (hA : Row w w.heap.size As d.aw) (hM : Row w w.heap.size Ms d.mw) (r : List Sd) (y : Int) (hE : AddE l d r y) :
    Calls Try.prog 27 #[.slice A l.length cap, spv d As ca Ms cm] w fun e w' => ∃ A' c', e = .returned (.tuple #[.slice A' r.length c', .int .i64 y]) ∧ SRow w' w'.heap.size A' r ∧ Below w.heap.size w w' := by
  by_cases hok : OkL l
  · by_cases h1 : Ok1 d
    · obtain ⟨i0, hi, hz0, hz1, hz2⟩ := info_parts info_sp
      obtain ⟨n, hp, hh⟩ : ∃ n, PosE l d n ∧ ((Clash l d n ∧ r = l ∧ y = 4) ∨ (¬ Clash l d n ∧ l.length = 256 ∧ r = l ∧ y = 6) ∨ (¬ Clash l d n ∧ l.length < 256 ∧ r = insS l d n ∧ y = 0)) := by
        rcases hE with ⟨h, _⟩ | ⟨_, h, _⟩ | ⟨n, _, _, hp, hh⟩
        · exact absurd hok h
        · exact absurd h1 h
        · exact ⟨n, hp, hh⟩
      have HC := Lib.hid fun (w : World) hr => xcheckL_any (w := w) (A := A) (l := l) cap hr hl 0 (.inl ⟨hok, rfl⟩)
      have HRT := Lib.hid fun (w : World) ha hm => xright_any (w := w) (A := As) (M := Ms) ca cm d ha hm true ⟨fun _ => h1, fun _ => rfl⟩
      have HW := Lib.hid hok.words
      have hwle : WordsLe l := fun x hx => by
        obtain ⟨e1, e2⟩ := hok.words x hx
        omega
      have HCP := Lib.hid fun (w : World) hr => xcopyL_any (w := w) (A := A) (l := l) cap hr (by have := hok.1; omega) hwle
      have HPA := Lib.hid fun (k : Nat) (hk : k < l.length) => pos_at hok h1 hp hk
      have HO1 := Lib.hid fun (k : Nat) (hk : k < l.length) => hok.2.1 k hk
      have hplaced := h1.placed
      unfold Placed at hplaced
      have hsl := h1.sized.slots
      have hawl := h1.aw
      have hmwl := h1.mw
      have HS := Lib.hid fun (w : World) ha hm => xone_any (w := w) (A := As) (M := Ms) ca cm d ha hm (by omega) (by omega)
      have hn := hp.le
      have h256 := hok.1
      have HH := Lib.hid hh
      unfold OneS at HS
      clear hE hok h1 hh hp hwle hawl hmwl
      obtain ⟨f, p, z, an, aw, mn, mw, s⟩ := d
      unfold spv at HRT HS ⊢
      simp only at *
      have u1 : IntKind.i64.wrap (f + p) = f + p := by rw [IntWalk.i64_in _ (by omega)]
      have f0 := hplaced.1
      have p0 := hsl.2.2.2.2.2.1
      clear hsl
      go_enter Try.func27, Try.ntmps27
      go_wp2_with fail
      go_at_call 20
      refine (HC.out _ (hr.later (by repeat (first | exact Below.refl _ _ | assumption | (refine below_drewN ?_ _) | (refine Below.drew ?_) | (refine Below.alloc ?_ (by first | omega | (simp; omega) | simp) _) | (refine Below.setCell ?_ (by first | omega | (simp; omega) | simp) _) | (refine below_trans ?_ (by assumption) (by first | omega | (simp; omega) | simp)))))).mono ?_
      rintro e w1 ⟨rfl, hb1⟩
      have hs1 := hb1.size
      (try simp only [World.size_alloc] at hs1)
      have b1 : Below w.heap.size w w1 := (by repeat (first | exact Below.refl _ _ | assumption | (refine below_drewN ?_ _) | (refine Below.drew ?_) | (refine Below.alloc ?_ (by first | omega | (simp; omega) | simp) _) | (refine Below.setCell ?_ (by first | omega | (simp; omega) | simp) _) | (refine below_trans ?_ (by assumption) (by first | omega | (simp; omega) | simp))))
      have Q1 : Sp8 w1 w.heap.size 0 ⟨f, p, z, an, aw, mn, mw, s⟩ As ca Ms cm := by constructor <;> exact ((bcell hb1).1 _ _ (by first | omega | (simp; omega) | simp)).trans (by simp [go_sem])
      obtain ⟨q0, q1, q2, q3, q4, q5, q6, q7⟩ := id Q1
      simp only [Nat.zero_add] at q0 q1 q2 q3 q4 q5 q6 q7
      go_wp2_with fail
      go_at_call 40
      refine (HRT.out _ (hA.later b1) (hM.later b1)).mono ?_
      rintro e w2 ⟨rfl, c2⟩
      have hs2 := c2.size
      have b2 : Below w.heap.size w w2 := b1.trans (c2.mono (by omega))
      have Q2 := Q1.later c2
      have l02 : w.heap.size < w2.heap.size := by omega
      clear q0 q1 q2 q3 q4 q5 q6 q7 hb1 Q1 hs1 hs2 c2
      go_wp2_with fail
      go_loopw [6, 7, 20] (fun c pp ii wr => ∃ k : Nat, ii = .int .i64 (k : Nat) ∧ k ≤ l.length ∧ ∃ (m : Nat) (Ac : Option Addr) (capc : Nat) (vs : List Sv), c = .slice Ac m capc ∧ m ≤ k + 1 ∧ ((pp = .bool false ∧ k ≤ n ∧ m ≤ k ∧ Hid (sdsOf vs = l.take k)) ∨ (pp = .bool true ∧ n < k ∧ Hid (¬ Clash l ⟨f, p, z, an, aw, mn, mw, s⟩ n) ∧ Hid (sdsOf vs = insS (l.take k) ⟨f, p, z, an, aw, mn, mw, s⟩ n))) ∧ CopX wr w2.heap.size Ac m capc vs ∧ w2.heap.size ≤ wr.heap.size ∧ Below w2.heap.size w2 wr) (fun _ _ ii _ => l.length - (intOf ii).toNat)
      case atStart => exact ⟨0, rfl, Nat.zero_le _, 0, none, 0, [], rfl, by omega, .inl ⟨rfl, Nat.zero_le _, Nat.le_refl _, Lib.hid rfl⟩, CopX.nil _ _, (by first | omega | (simp; omega) | simp), (by repeat (first | exact Below.refl _ _ | assumption | (refine below_drewN ?_ _) | (refine Below.drew ?_) | (refine Below.alloc ?_ (by first | omega | (simp; omega) | simp) _) | (refine Below.setCell ?_ (by first | omega | (simp; omega) | simp) _) | (refine below_trans ?_ (by assumption) (by first | omega | (simp; omega) | simp))))⟩
      case round =>
        obtain ⟨k, rfl, hk, m, Ac, capc, vs, rfl, hmk, hpp, oC, hsz, hb_wr⟩ := hrel
        have hsr := hb_wr.size
        have bwr : Below w.heap.size w wr := b2.trans (hb_wr.mono (by omega))
        have l0r : w.heap.size < wr.heap.size := by omega
        have Q3 := Q2.below hb_wr (by omega)
        obtain ⟨q0, q1, q2, q3, q4, q5, q6, q7⟩ := id Q3
        simp only [Nat.zero_add] at q0 q1 q2 q3 q4 q5 q6 q7
        clear Q3
        by_cases hlt : k < l.length
        · obtain ⟨b, off, hAe, hbb, hc⟩ := (hr.below bwr).at_ (by omega)
          obtain ⟨Aa, cx, Am, cy, c8, ra, rm⟩ := hc k hlt
          obtain ⟨wa, wm⟩ := HW.out _ (nth_mem l k hlt)
          obtain ⟨pa, pb, pc⟩ := HPA.out k hlt
          have o1 := HO1.out k hlt
          have p1' := o1.placed
          unfold Placed at p1'
          have s1' := o1.sized.slots.2.2.2.2.2
          have hnx := take_nth l k hlt
          have hins := fun h => insS_take_succ l ⟨f, p, z, an, aw, mn, mw, s⟩ n k h hlt
          obtain ⟨x, hx⟩ : ∃ x, Hid (nth l k = x) := ⟨_, rfl⟩
          rw [hx.out] at c8 ra rm wa wm hnx hins pa pb pc p1' s1'
          obtain ⟨c0, c1, c2, c3, c4, c5, c6, c7⟩ := id c8
          have i1 : (k : Int) < (l.length : Int) := by omega
          have i2 : (0 : Int) ≤ (k : Int) := by omega
          have HO := Lib.hid fun (w : World) ha hm => xone_any (w := w) (A := Aa) (M := Am) cx cy x ha hm (by omega) (by omega)
          unfold OneS at HO
          have HRA := Lib.hid fun (W : World) (hb : Below w.heap.size wr W) => (ra.below hb).more (show w.heap.size ≤ W.heap.size by have := hb.size; omega)
          have HRM := Lib.hid fun (W : World) (hb : Below w.heap.size wr W) => (rm.below hb).more (show w.heap.size ≤ W.heap.size by have := hb.size; omega)
          have HNX := Lib.hid hnx
          have HINS := Lib.hid hins
          subst hAe
          clear hc c8 wa wm o1 hnx hins ra rm
          obtain ⟨f1, p1, z1, an1, aw1, mn1, mw1, s1⟩ := x
          unfold spv at HO
          simp only at *
          have u2 : IntKind.i64.wrap (f1 + p1) = f1 + p1 := by rw [IntWalk.i64_in _ (by omega)]
          rcases hpp with ⟨rfl, hkn, hmk2, HSV⟩ | ⟨rfl, hkn, HNC, HSV⟩
          · by_cases hke : k = n
            · have e1 := pb hke
              have g2 : decide (f < f1 + p1) = true := decide_eq_true e1
              by_cases hcl : f1 < f + p
              · have g1 : decide (f1 < f + p) = true := decide_eq_true hcl
                have hC : Clash l ⟨f, p, z, an, aw, mn, mw, s⟩ n := ⟨by omega, by rw [← hke, hx.out]; exact hcl⟩
                obtain ⟨er, ey⟩ : r = l ∧ y = 4 := by
                  rcases HH.out with ⟨_, a, b⟩ | ⟨h, _⟩ | ⟨h, _⟩
                  · exact ⟨a, b⟩
                  · exact absurd hC h
                  · exact absurd hC h
                have ER := Lib.hid er
                have EY := Lib.hid ey
                clear er ey hC pa pb pc hcl e1 hke
                go_wp2_with fail
                go_at_call 25
                refine (HCP.out _ ((hr.later bwr).later ((Below.refl _ _).alloc (Nat.le_refl _) _))).mono ?_
                rintro e w5 ⟨A5, c5, us, rfl, hus, o5, hb5⟩
                have hs5 := hb5.size
                (try simp only [World.size_alloc] at hs5)
                have bz : Below w.heap.size w w5 := (by repeat (first | exact Below.refl _ _ | assumption | (refine below_drewN ?_ _) | (refine Below.drew ?_) | (refine Below.alloc ?_ (by first | omega | (simp; omega) | simp) _) | (refine Below.setCell ?_ (by first | omega | (simp; omega) | simp) _) | (refine below_trans ?_ (by assumption) (by first | omega | (simp; omega) | simp))))
                have HSR : Hid (SRow w5 w5.heap.size A5 r) := Lib.hid (by rw [ER.out, ← hus]; exact o5.srow)
                clear o5 hus
                go_wp2
                go_ret2
                first
                  | exact ⟨A5, c5, by rw [ER.out, EY.out]; rfl, HSR.out, bz⟩
                  | exact ⟨A5, ⟨c5, by rw [ER.out, EY.out]; rfl⟩, HSR.out, bz⟩
              · have g1 : decide (f1 < f + p) = false := decide_eq_false hcl
                have g3 : decide (f < f1) = true := decide_eq_true (by omega)
                have HNC : Hid (¬ Clash l ⟨f, p, z, an, aw, mn, mw, s⟩ n) := Lib.hid (fun h => by
                  have h2 := h.2
                  rw [← hke, hx.out] at h2
                  exact hcl h2)
                have HSN2 : Hid (insS (l.take (k + 1)) ⟨f, p, z, an, aw, mn, mw, s⟩ n = l.take k ++ [⟨f, p, z, an, aw, mn, mw, s⟩] ++ [⟨f1, p1, z1, an1, aw1, mn1, mw1, s1⟩]) := Lib.hid (by rw [HINS.out (by omega), hke, insS_take_eq _ _ _ hn])
                have HKE := Lib.hid hke
                clear pa pb pc hcl e1 hke
                go_wp2_with fail
                go_at_call 33
                refine (HS.out _ ((hA.later bwr).later ((Below.refl _ _).alloc (Nat.le_refl _) _)) ((hM.later bwr).later ((Below.refl _ _).alloc (Nat.le_refl _) _))).mono ?_
                rintro e w5a ⟨A5a, C5a, M5a, D5a, rfl, o5a, o5'a, hb_w5a⟩
                have hs_w5a := hb_w5a.size
                (try simp only [World.size_alloc] at hs_w5a)
                have bba : Below wr.heap.size wr w5a := (by repeat (first | exact Below.refl _ _ | assumption | (refine below_drewN ?_ _) | (refine Below.drew ?_) | (refine Below.alloc ?_ (by first | omega | (simp; omega) | simp) _) | (refine Below.setCell ?_ (by first | omega | (simp; omega) | simp) _) | (refine below_trans ?_ (by assumption) (by first | omega | (simp; omega) | simp))))
                have oCa := oC.later bba
                have oAa : Own w5a w2.heap.size A5a aw := o5a.mono (by first | omega | (simp; omega) | simp)
                have oMa : Own w5a w2.heap.size M5a mw := o5'a.mono (by first | omega | (simp; omega) | simp)
                have hvna : ∀ g, Ac = some ⟨g, 0, none⟩ → (0 < aw.length → A5a ≠ some ⟨g, 0, none⟩) ∧ (0 < mw.length → M5a ≠ some ⟨g, 0, none⟩) := fun g e => by
                  have hg : g < wr.heap.size := (oC.row_.lt g (by rw [e]; rfl)).2
                  refine ⟨fun hl e2 => ?_, fun hl e2 => ?_⟩
                  · obtain ⟨q, e3, hq, _⟩ := o5a.at_ hl
                    (try simp only [World.size_alloc] at hq)
                    rw [e2] at e3
                    injection e3 with e3
                    injection e3 with e3
                    omega
                  · obtain ⟨q, e3, hq, _⟩ := o5'a.at_ hl
                    (try simp only [World.size_alloc] at hq)
                    rw [e2] at e3
                    injection e3 with e3
                    injection e3 with e3
                    omega
                have HSNa := Lib.hid fun (w6 w7 : World) (g7 cap7 : Nat) (hb : Below w5a.heap.size w5a w6) h1 h2 h3 => CopX.snoc (w := w6) (w' := w7) (g7 := g7) (cap' := cap7) (v := ⟨⟨f, p, z, an, aw, mn, mw, s⟩, A5a, C5a, M5a, D5a⟩) (oCa.later hb) (oAa.later hb) (oMa.later hb) hvna h1 h2 h3
                have oRa := oCa.row_
                clear o5a o5'a oAa oMa hvna oCa
                have y5_0 : w5a.cell? ⟨wr.heap.size, 0, none⟩ = some (.int .i64 f1) := ((bcell hb_w5a).1 _ _ (by first | omega | (simp; omega) | simp)).trans (by simp [go_sem])
                have y5_1 : w5a.cell? ⟨wr.heap.size, 1, none⟩ = some (.int .i64 p1) := ((bcell hb_w5a).1 _ _ (by first | omega | (simp; omega) | simp)).trans (by simp [go_sem])
                have y5_2 : w5a.cell? ⟨wr.heap.size, 2, none⟩ = some (.int .i64 z1) := ((bcell hb_w5a).1 _ _ (by first | omega | (simp; omega) | simp)).trans (by simp [go_sem])
                have y5_3 : w5a.cell? ⟨wr.heap.size, 3, none⟩ = some (.int .i64 an1) := ((bcell hb_w5a).1 _ _ (by first | omega | (simp; omega) | simp)).trans (by simp [go_sem])
                have y5_4 : w5a.cell? ⟨wr.heap.size, 4, none⟩ = some (.slice Aa aw1.length cx) := ((bcell hb_w5a).1 _ _ (by first | omega | (simp; omega) | simp)).trans (by simp [go_sem])
                have y5_5 : w5a.cell? ⟨wr.heap.size, 5, none⟩ = some (.int .i64 mn1) := ((bcell hb_w5a).1 _ _ (by first | omega | (simp; omega) | simp)).trans (by simp [go_sem])
                have y5_6 : w5a.cell? ⟨wr.heap.size, 6, none⟩ = some (.slice Am mw1.length cy) := ((bcell hb_w5a).1 _ _ (by first | omega | (simp; omega) | simp)).trans (by simp [go_sem])
                have y5_7 : w5a.cell? ⟨wr.heap.size, 7, none⟩ = some (.bool s1) := ((bcell hb_w5a).1 _ _ (by first | omega | (simp; omega) | simp)).trans (by simp [go_sem])
                have hrow := oC.row_
                go_wp2_with (at_builtin; refine wpList_append_lies _ ?_ (.tmp 53) (.tmp 56) 27 ?_ w2.heap.size 26 i0 _ 8 96 Try.underlying27 hi hz0 hz1 hz2 rfl (by omega) (.slice Ac m capc) (m) (flat8 vs) ?_ (oRa.alloc _) ⟨w5a.heap.size, 0, none⟩ 1 1 (cells8 ⟨⟨f, p, z, an, aw, mn, mw, s⟩, A5a, C5a, M5a, D5a⟩) ?_ (by simp [cells8]) ?_ (by intro u hu; have := flat8_one [(⟨⟨f, p, z, an, aw, mn, mw, s⟩, A5a, C5a, M5a, D5a⟩ : Sv)] u (by simpa [flat8] using hu); exact this) (by omega) (by unfold maxLen; omega) (by omega) (by first | omega | (simp; omega) | simp) _ rfl ?_; rfl; rfl; rfl; rfl; (intro j u hj; rw [add_form]; have hj8 : j < 8 := (by have := (List.getElem?_eq_some_iff.1 hj).1; simpa [cells8] using this); have hg := heap_alloc_new w5a (.cells #[.int .i64 f, .int .i64 p, .int .i64 z, .int .i64 an, .slice A5a aw.length C5a, .int .i64 mn, .slice M5a mw.length D5a, .bool s] 26); rw [cell_of_row _ _ _ _ _ _ hg, Nat.zero_add, ← hj]; simp [cells8]); intro ga cap7a w7a howna hg7a hata hlta; have hb_w7a : Below w2.heap.size _ w7a := (Below.refl _ _).grown hg7a (by first | omega | (simp; omega) | simp) (fun b hb => oRa.lt b hb |>.1); have hs_w7a := hb_w7a.size; (try simp only [World.size_alloc] at hs_w7a); have oXa := HSNa.out _ _ _ _ ((Below.refl w5a.heap.size w5a).alloc (Nat.le_refl _) _) howna hg7a (by rcases hata with h | h; exact .inl h; exact .inr (by rw [h]; exact Nat.le_refl _)); have hkp : ∀ j, w7a.cell? ⟨wr.heap.size, j, none⟩ = _ := fun j => World.cell?_of_block (hg7a.block wr.heap.size (by simp only [World.size_alloc]; omega) (fun e => absurd (hrow.lt _ e.symm).2 (Nat.lt_irrefl _))); have y0 := (hkp 0).trans ((((Below.refl w5a.heap.size w5a).alloc (Nat.le_refl _) _).cell (p := ⟨wr.heap.size, 0, none⟩) (by first | omega | (simp; omega) | simp)).trans y5_0); have y1 := (hkp 1).trans ((((Below.refl w5a.heap.size w5a).alloc (Nat.le_refl _) _).cell (p := ⟨wr.heap.size, 1, none⟩) (by first | omega | (simp; omega) | simp)).trans y5_1); have y2 := (hkp 2).trans ((((Below.refl w5a.heap.size w5a).alloc (Nat.le_refl _) _).cell (p := ⟨wr.heap.size, 2, none⟩) (by first | omega | (simp; omega) | simp)).trans y5_2); have y3 := (hkp 3).trans ((((Below.refl w5a.heap.size w5a).alloc (Nat.le_refl _) _).cell (p := ⟨wr.heap.size, 3, none⟩) (by first | omega | (simp; omega) | simp)).trans y5_3); have y4 := (hkp 4).trans ((((Below.refl w5a.heap.size w5a).alloc (Nat.le_refl _) _).cell (p := ⟨wr.heap.size, 4, none⟩) (by first | omega | (simp; omega) | simp)).trans y5_4); have y5 := (hkp 5).trans ((((Below.refl w5a.heap.size w5a).alloc (Nat.le_refl _) _).cell (p := ⟨wr.heap.size, 5, none⟩) (by first | omega | (simp; omega) | simp)).trans y5_5); have y6 := (hkp 6).trans ((((Below.refl w5a.heap.size w5a).alloc (Nat.le_refl _) _).cell (p := ⟨wr.heap.size, 6, none⟩) (by first | omega | (simp; omega) | simp)).trans y5_6); have y7 := (hkp 7).trans ((((Below.refl w5a.heap.size w5a).alloc (Nat.le_refl _) _).cell (p := ⟨wr.heap.size, 7, none⟩) (by first | omega | (simp; omega) | simp)).trans y5_7); clear hkp hrow y5_0 y5_1 y5_2 y5_3 y5_4 y5_5 y5_6 y5_7 HSNa oRa howna hg7a hata)
                have bWa : Below w2.heap.size wr w7a := (bba.mono hsz).trans ((((Below.refl w2.heap.size w5a).alloc (by first | omega | (simp; omega) | simp) _)).trans hb_w7a)
                go_at_call 33
                refine (HO.out _ (HRA.out _ (bWa.mono (by omega))) (HRM.out _ (bWa.mono (by omega)))).mono ?_
                rintro e w5b ⟨A5b, C5b, M5b, D5b, rfl, o5b, o5'b, hb_w5b⟩
                have hs_w5b := hb_w5b.size
                (try simp only [World.size_alloc] at hs_w5b)
                have bbb : Below w7a.heap.size w7a w5b := (by repeat (first | exact Below.refl _ _ | assumption | (refine below_drewN ?_ _) | (refine Below.drew ?_) | (refine Below.alloc ?_ (by first | omega | (simp; omega) | simp) _) | (refine Below.setCell ?_ (by first | omega | (simp; omega) | simp) _) | (refine below_trans ?_ (by assumption) (by first | omega | (simp; omega) | simp))))
                have oCb := oXa.later bbb
                have oAb : Own w5b w2.heap.size A5b aw1 := o5b.mono (by first | omega | (simp; omega) | simp)
                have oMb : Own w5b w2.heap.size M5b mw1 := o5'b.mono (by first | omega | (simp; omega) | simp)
                have hvnb : ∀ g, (some ⟨ga, 0, none⟩ : Option Addr) = some ⟨g, 0, none⟩ → (0 < aw1.length → A5b ≠ some ⟨g, 0, none⟩) ∧ (0 < mw1.length → M5b ≠ some ⟨g, 0, none⟩) := fun g e => by
                  have hg : g < w7a.heap.size := (oXa.row_.lt g (by rw [e]; rfl)).2
                  refine ⟨fun hl e2 => ?_, fun hl e2 => ?_⟩
                  · obtain ⟨q, e3, hq, _⟩ := o5b.at_ hl
                    (try simp only [World.size_alloc] at hq)
                    rw [e2] at e3
                    injection e3 with e3
                    injection e3 with e3
                    omega
                  · obtain ⟨q, e3, hq, _⟩ := o5'b.at_ hl
                    (try simp only [World.size_alloc] at hq)
                    rw [e2] at e3
                    injection e3 with e3
                    injection e3 with e3
                    omega
                have HSNb := Lib.hid fun (w6 w7 : World) (g7 cap7 : Nat) (hb : Below w5b.heap.size w5b w6) h1 h2 h3 => CopX.snoc (w := w6) (w' := w7) (g7 := g7) (cap' := cap7) (v := ⟨⟨f1, p1, z1, an1, aw1, mn1, mw1, s1⟩, A5b, C5b, M5b, D5b⟩) (oCb.later hb) (oAb.later hb) (oMb.later hb) hvnb h1 h2 h3
                have oRb := oCb.row_
                clear o5b o5'b oAb oMb hvnb oCb
                go_wp2_with (at_builtin; refine wpList_append_lies _ ?_ (.tmp 58) (.tmp 61) 27 ?_ w2.heap.size 26 i0 _ 8 96 Try.underlying27 hi hz0 hz1 hz2 rfl (by omega) (.slice (some ⟨ga, 0, none⟩ : Option Addr) (m + 1) cap7a) ((m + 1)) (flat8 (vs ++ [⟨⟨f, p, z, an, aw, mn, mw, s⟩, A5a, C5a, M5a, D5a⟩])) ?_ (oRb.alloc _) ⟨w5b.heap.size, 0, none⟩ 1 1 (cells8 ⟨⟨f1, p1, z1, an1, aw1, mn1, mw1, s1⟩, A5b, C5b, M5b, D5b⟩) ?_ (by simp [cells8]) ?_ (by intro u hu; have := flat8_one [(⟨⟨f1, p1, z1, an1, aw1, mn1, mw1, s1⟩, A5b, C5b, M5b, D5b⟩ : Sv)] u (by simpa [flat8] using hu); exact this) (by omega) (by unfold maxLen; omega) (by omega) (by first | omega | (simp; omega) | simp) _ rfl ?_; rfl; rfl; rfl; rfl; (intro j u hj; rw [add_form]; have hj8 : j < 8 := (by have := (List.getElem?_eq_some_iff.1 hj).1; simpa [cells8] using this); have hg := heap_alloc_new w5b (.cells #[.int .i64 f1, .int .i64 p1, .int .i64 z1, .int .i64 an1, .slice A5b aw1.length C5b, .int .i64 mn1, .slice M5b mw1.length D5b, .bool s1] 26); rw [cell_of_row _ _ _ _ _ _ hg, Nat.zero_add, ← hj]; simp [cells8]); intro gb cap7b w7b hownb hg7b hatb hltb; have hb_w7b : Below w2.heap.size _ w7b := (Below.refl _ _).grown hg7b (by first | omega | (simp; omega) | simp) (fun b hb => oRb.lt b hb |>.1); have hs_w7b := hb_w7b.size; (try simp only [World.size_alloc] at hs_w7b); have oXb := HSNb.out _ _ _ _ ((Below.refl w5b.heap.size w5b).alloc (Nat.le_refl _) _) hownb hg7b (by rcases hatb with h | h; exact .inl h; exact .inr (by rw [h]; exact Nat.le_refl _)); clear HSNb oRb hownb hg7b hatb)
                have hs7 := bWa.size
                have bWb : Below w2.heap.size w7a w7b := (bbb.mono (by omega)).trans ((((Below.refl w2.heap.size w5b).alloc (by first | omega | (simp; omega) | simp) _)).trans hb_w7b)
                go_roundw
                case rel => exact ⟨k + 1, by go_num, by omega, m + 1 + 1, some ⟨gb, 0, none⟩, cap7b, _, rfl, by omega, .inr ⟨rfl, by have := HKE.out; omega, HNC, Lib.hid (by rw [sds_app, sds_app, HSV.out, HSN2.out]; rfl)⟩, oXb, (by first | omega | (simp; omega) | simp), hb_wr.trans (bWa.trans bWb)⟩
                case measure => simp [intOf]; omega
            · have e1 := pa (by omega)
              have g1 : decide (f1 < f + p) = true := decide_eq_true (by omega)
              have g2 : decide (f < f1 + p1) = false := decide_eq_false (by omega)
              have g3 : decide (f < f1) = false := decide_eq_false (by omega)
              clear pa pb pc
              go_wp2_with fail
              go_at_call 33
              refine (HO.out _ (HRA.out _ ((Below.refl _ _).alloc (by omega) _)) (HRM.out _ ((Below.refl _ _).alloc (by omega) _))).mono ?_
              rintro e w5a ⟨A5a, C5a, M5a, D5a, rfl, o5a, o5'a, hb_w5a⟩
              have hs_w5a := hb_w5a.size
              (try simp only [World.size_alloc] at hs_w5a)
              have bba : Below wr.heap.size wr w5a := (by repeat (first | exact Below.refl _ _ | assumption | (refine below_drewN ?_ _) | (refine Below.drew ?_) | (refine Below.alloc ?_ (by first | omega | (simp; omega) | simp) _) | (refine Below.setCell ?_ (by first | omega | (simp; omega) | simp) _) | (refine below_trans ?_ (by assumption) (by first | omega | (simp; omega) | simp))))
              have oCa := oC.later bba
              have oAa : Own w5a w2.heap.size A5a aw1 := o5a.mono (by first | omega | (simp; omega) | simp)
              have oMa : Own w5a w2.heap.size M5a mw1 := o5'a.mono (by first | omega | (simp; omega) | simp)
              have hvna : ∀ g, Ac = some ⟨g, 0, none⟩ → (0 < aw1.length → A5a ≠ some ⟨g, 0, none⟩) ∧ (0 < mw1.length → M5a ≠ some ⟨g, 0, none⟩) := fun g e => by
                have hg : g < wr.heap.size := (oC.row_.lt g (by rw [e]; rfl)).2
                refine ⟨fun hl e2 => ?_, fun hl e2 => ?_⟩
                · obtain ⟨q, e3, hq, _⟩ := o5a.at_ hl
                  (try simp only [World.size_alloc] at hq)
                  rw [e2] at e3
                  injection e3 with e3
                  injection e3 with e3
                  omega
                · obtain ⟨q, e3, hq, _⟩ := o5'a.at_ hl
                  (try simp only [World.size_alloc] at hq)
                  rw [e2] at e3
                  injection e3 with e3
                  injection e3 with e3
                  omega
              have HSNa := Lib.hid fun (w6 w7 : World) (g7 cap7 : Nat) (hb : Below w5a.heap.size w5a w6) h1 h2 h3 => CopX.snoc (w := w6) (w' := w7) (g7 := g7) (cap' := cap7) (v := ⟨⟨f1, p1, z1, an1, aw1, mn1, mw1, s1⟩, A5a, C5a, M5a, D5a⟩) (oCa.later hb) (oAa.later hb) (oMa.later hb) hvna h1 h2 h3
              have oRa := oCa.row_
              clear o5a o5'a oAa oMa hvna oCa
              go_wp2_with (at_builtin; refine wpList_append_lies _ ?_ (.tmp 58) (.tmp 61) 27 ?_ w2.heap.size 26 i0 _ 8 96 Try.underlying27 hi hz0 hz1 hz2 rfl (by omega) (.slice Ac m capc) (m) (flat8 vs) ?_ (oRa.alloc _) ⟨w5a.heap.size, 0, none⟩ 1 1 (cells8 ⟨⟨f1, p1, z1, an1, aw1, mn1, mw1, s1⟩, A5a, C5a, M5a, D5a⟩) ?_ (by simp [cells8]) ?_ (by intro u hu; have := flat8_one [(⟨⟨f1, p1, z1, an1, aw1, mn1, mw1, s1⟩, A5a, C5a, M5a, D5a⟩ : Sv)] u (by simpa [flat8] using hu); exact this) (by omega) (by unfold maxLen; omega) (by omega) (by first | omega | (simp; omega) | simp) _ rfl ?_; rfl; rfl; rfl; rfl; (intro j u hj; rw [add_form]; have hj8 : j < 8 := (by have := (List.getElem?_eq_some_iff.1 hj).1; simpa [cells8] using this); have hg := heap_alloc_new w5a (.cells #[.int .i64 f1, .int .i64 p1, .int .i64 z1, .int .i64 an1, .slice A5a aw1.length C5a, .int .i64 mn1, .slice M5a mw1.length D5a, .bool s1] 26); rw [cell_of_row _ _ _ _ _ _ hg, Nat.zero_add, ← hj]; simp [cells8]); intro ga cap7a w7a howna hg7a hata hlta; have hb_w7a : Below w2.heap.size _ w7a := (Below.refl _ _).grown hg7a (by first | omega | (simp; omega) | simp) (fun b hb => oRa.lt b hb |>.1); have hs_w7a := hb_w7a.size; (try simp only [World.size_alloc] at hs_w7a); have oXa := HSNa.out _ _ _ _ ((Below.refl w5a.heap.size w5a).alloc (Nat.le_refl _) _) howna hg7a (by rcases hata with h | h; exact .inl h; exact .inr (by rw [h]; exact Nat.le_refl _)); clear HSNa oRa howna hg7a hata)
              have bWa : Below w2.heap.size wr w7a := (bba.mono hsz).trans ((((Below.refl w2.heap.size w5a).alloc (by first | omega | (simp; omega) | simp) _)).trans hb_w7a)
              go_roundw
              case rel => exact ⟨k + 1, by go_num, by omega, m + 1, some ⟨ga, 0, none⟩, cap7a, _, rfl, by omega, .inl ⟨rfl, by omega, by omega, Lib.hid (by rw [sds_app, HSV.out, HNX.out]; rfl)⟩, oXa, (by first | omega | (simp; omega) | simp), hb_wr.trans bWa⟩
              case measure => simp [intOf]; omega
          · have e1 := pc hkn HNC.out
            have g1 : decide (f1 < f + p) = false := decide_eq_false (by omega)
            clear pa pb pc
            go_wp2_with fail
            go_at_call 33
            refine (HO.out _ (HRA.out _ ((Below.refl _ _).alloc (by omega) _)) (HRM.out _ ((Below.refl _ _).alloc (by omega) _))).mono ?_
            rintro e w5a ⟨A5a, C5a, M5a, D5a, rfl, o5a, o5'a, hb_w5a⟩
            have hs_w5a := hb_w5a.size
            (try simp only [World.size_alloc] at hs_w5a)
            have bba : Below wr.heap.size wr w5a := (by repeat (first | exact Below.refl _ _ | assumption | (refine below_drewN ?_ _) | (refine Below.drew ?_) | (refine Below.alloc ?_ (by first | omega | (simp; omega) | simp) _) | (refine Below.setCell ?_ (by first | omega | (simp; omega) | simp) _) | (refine below_trans ?_ (by assumption) (by first | omega | (simp; omega) | simp))))
            have oCa := oC.later bba
            have oAa : Own w5a w2.heap.size A5a aw1 := o5a.mono (by first | omega | (simp; omega) | simp)
            have oMa : Own w5a w2.heap.size M5a mw1 := o5'a.mono (by first | omega | (simp; omega) | simp)
            have hvna : ∀ g, Ac = some ⟨g, 0, none⟩ → (0 < aw1.length → A5a ≠ some ⟨g, 0, none⟩) ∧ (0 < mw1.length → M5a ≠ some ⟨g, 0, none⟩) := fun g e => by
              have hg : g < wr.heap.size := (oC.row_.lt g (by rw [e]; rfl)).2
              refine ⟨fun hl e2 => ?_, fun hl e2 => ?_⟩
              · obtain ⟨q, e3, hq, _⟩ := o5a.at_ hl
                (try simp only [World.size_alloc] at hq)
                rw [e2] at e3
                injection e3 with e3
                injection e3 with e3
                omega
              · obtain ⟨q, e3, hq, _⟩ := o5'a.at_ hl
                (try simp only [World.size_alloc] at hq)
                rw [e2] at e3
                injection e3 with e3
                injection e3 with e3
                omega
            have HSNa := Lib.hid fun (w6 w7 : World) (g7 cap7 : Nat) (hb : Below w5a.heap.size w5a w6) h1 h2 h3 => CopX.snoc (w := w6) (w' := w7) (g7 := g7) (cap' := cap7) (v := ⟨⟨f1, p1, z1, an1, aw1, mn1, mw1, s1⟩, A5a, C5a, M5a, D5a⟩) (oCa.later hb) (oAa.later hb) (oMa.later hb) hvna h1 h2 h3
            have oRa := oCa.row_
            clear o5a o5'a oAa oMa hvna oCa
            go_wp2_with (at_builtin; refine wpList_append_lies _ ?_ (.tmp 58) (.tmp 61) 27 ?_ w2.heap.size 26 i0 _ 8 96 Try.underlying27 hi hz0 hz1 hz2 rfl (by omega) (.slice Ac m capc) (m) (flat8 vs) ?_ (oRa.alloc _) ⟨w5a.heap.size, 0, none⟩ 1 1 (cells8 ⟨⟨f1, p1, z1, an1, aw1, mn1, mw1, s1⟩, A5a, C5a, M5a, D5a⟩) ?_ (by simp [cells8]) ?_ (by intro u hu; have := flat8_one [(⟨⟨f1, p1, z1, an1, aw1, mn1, mw1, s1⟩, A5a, C5a, M5a, D5a⟩ : Sv)] u (by simpa [flat8] using hu); exact this) (by omega) (by unfold maxLen; omega) (by omega) (by first | omega | (simp; omega) | simp) _ rfl ?_; rfl; rfl; rfl; rfl; (intro j u hj; rw [add_form]; have hj8 : j < 8 := (by have := (List.getElem?_eq_some_iff.1 hj).1; simpa [cells8] using this); have hg := heap_alloc_new w5a (.cells #[.int .i64 f1, .int .i64 p1, .int .i64 z1, .int .i64 an1, .slice A5a aw1.length C5a, .int .i64 mn1, .slice M5a mw1.length D5a, .bool s1] 26); rw [cell_of_row _ _ _ _ _ _ hg, Nat.zero_add, ← hj]; simp [cells8]); intro ga cap7a w7a howna hg7a hata hlta; have hb_w7a : Below w2.heap.size _ w7a := (Below.refl _ _).grown hg7a (by first | omega | (simp; omega) | simp) (fun b hb => oRa.lt b hb |>.1); have hs_w7a := hb_w7a.size; (try simp only [World.size_alloc] at hs_w7a); have oXa := HSNa.out _ _ _ _ ((Below.refl w5a.heap.size w5a).alloc (Nat.le_refl _) _) howna hg7a (by rcases hata with h | h; exact .inl h; exact .inr (by rw [h]; exact Nat.le_refl _)); clear HSNa oRa howna hg7a hata)
            have bWa : Below w2.heap.size wr w7a := (bba.mono hsz).trans ((((Below.refl w2.heap.size w5a).alloc (by first | omega | (simp; omega) | simp) _)).trans hb_w7a)
            go_roundw
            case rel => exact ⟨k + 1, by go_num, by omega, m + 1, some ⟨ga, 0, none⟩, cap7a, _, rfl, by omega, .inr ⟨rfl, by omega, HNC, Lib.hid (by rw [sds_app, HSV.out, HINS.out (by omega)]; rfl)⟩, oXa, (by first | omega | (simp; omega) | simp), hb_wr.trans bWa⟩
            case measure => simp [intOf]; omega
        · obtain rfl : k = l.length := by omega
          have hNC : ¬ Clash l ⟨f, p, z, an, aw, mn, mw, s⟩ n := by
            rcases hpp with ⟨_, h, _⟩ | ⟨_, _, h, _⟩
            · exact fun hc => by have := hc.1; omega
            · exact h.out
          by_cases hf : l.length = 256
          · obtain ⟨er, ey⟩ : r = l ∧ y = 6 := by
              rcases HH.out with ⟨h, _⟩ | ⟨_, _, a, b⟩ | ⟨_, h, _⟩
              · exact absurd h hNC
              · exact ⟨a, b⟩
              · omega
            have ER := Lib.hid er
            have EY := Lib.hid ey
            have g4 : ((l.length : Int) == 256) = true := by simp; omega
            have g4' : (l.length == 256) = true := by simp; omega
            clear er ey hf hNC hpp
            go_wp2_with fail
            go_at_call 25
            refine (HCP.out _ (hr.later bwr)).mono ?_
            rintro e w5 ⟨A5, c5, us, rfl, hus, o5, hb5⟩
            have hs5 := hb5.size
            (try simp only [World.size_alloc] at hs5)
            have bz : Below w.heap.size w w5 := bwr.trans (hb5.mono (by omega))
            have HSR : Hid (SRow w5 w5.heap.size A5 r) := Lib.hid (by rw [ER.out, ← hus]; exact o5.srow)
            clear o5 hus
            go_wp2
            go_ret2
            first
              | exact ⟨A5, c5, by rw [ER.out, EY.out]; rfl, HSR.out, bz⟩
              | exact ⟨A5, ⟨c5, by rw [ER.out, EY.out]; rfl⟩, HSR.out, bz⟩
          · obtain ⟨er, ey⟩ : r = insS l ⟨f, p, z, an, aw, mn, mw, s⟩ n ∧ y = 0 := by
              rcases HH.out with ⟨h, _⟩ | ⟨_, h, _⟩ | ⟨_, _, a, b⟩
              · exact absurd h hNC
              · exact absurd h hf
              · exact ⟨a, b⟩
            have ER := Lib.hid er
            have EY := Lib.hid ey
            have g4 : ((l.length : Int) == 256) = false := by simp; omega
            have g4' : (l.length == 256) = false := by simp; omega
            clear er ey hf hNC
            rcases hpp with ⟨rfl, hkn, hmk2, HSV⟩ | ⟨rfl, hkn, HNC, HSV⟩
            · have HR2 : Hid (r = l ++ [⟨f, p, z, an, aw, mn, mw, s⟩]) := Lib.hid (by
                have e := insS_take_eq l ⟨f, p, z, an, aw, mn, mw, s⟩ n hn
                have e2 : n = l.length := by omega
                rw [ER.out]
                rw [e2, List.take_length] at e
                rw [e2]
                exact e)
              have HSV2 : Hid (sdsOf vs = l) := Lib.hid (by rw [HSV.out, List.take_length])
              go_wp2_with fail
              go_at_call 33
              refine (HS.out _ (hA.later bwr) (hM.later bwr)).mono ?_
              rintro e w5a ⟨A5a, C5a, M5a, D5a, rfl, o5a, o5'a, hb_w5a⟩
              have hs_w5a := hb_w5a.size
              (try simp only [World.size_alloc] at hs_w5a)
              have bba : Below wr.heap.size wr w5a := (by repeat (first | exact Below.refl _ _ | assumption | (refine below_drewN ?_ _) | (refine Below.drew ?_) | (refine Below.alloc ?_ (by first | omega | (simp; omega) | simp) _) | (refine Below.setCell ?_ (by first | omega | (simp; omega) | simp) _) | (refine below_trans ?_ (by assumption) (by first | omega | (simp; omega) | simp))))
              have oCa := oC.later bba
              have oAa : Own w5a w2.heap.size A5a aw := o5a.mono (by first | omega | (simp; omega) | simp)
              have oMa : Own w5a w2.heap.size M5a mw := o5'a.mono (by first | omega | (simp; omega) | simp)
              have hvna : ∀ g, Ac = some ⟨g, 0, none⟩ → (0 < aw.length → A5a ≠ some ⟨g, 0, none⟩) ∧ (0 < mw.length → M5a ≠ some ⟨g, 0, none⟩) := fun g e => by
                have hg : g < wr.heap.size := (oC.row_.lt g (by rw [e]; rfl)).2
                refine ⟨fun hl e2 => ?_, fun hl e2 => ?_⟩
                · obtain ⟨q, e3, hq, _⟩ := o5a.at_ hl
                  (try simp only [World.size_alloc] at hq)
                  rw [e2] at e3
                  injection e3 with e3
                  injection e3 with e3
                  omega
                · obtain ⟨q, e3, hq, _⟩ := o5'a.at_ hl
                  (try simp only [World.size_alloc] at hq)
                  rw [e2] at e3
                  injection e3 with e3
                  injection e3 with e3
                  omega
              have HSNa := Lib.hid fun (w6 w7 : World) (g7 cap7 : Nat) (hb : Below w5a.heap.size w5a w6) h1 h2 h3 => CopX.snoc (w := w6) (w' := w7) (g7 := g7) (cap' := cap7) (v := ⟨⟨f, p, z, an, aw, mn, mw, s⟩, A5a, C5a, M5a, D5a⟩) (oCa.later hb) (oAa.later hb) (oMa.later hb) hvna h1 h2 h3
              have oRa := oCa.row_
              clear o5a o5'a oAa oMa hvna oCa
              go_wp2_with (at_builtin; refine wpList_append_lies _ ?_ (.tmp 71) (.tmp 74) 27 ?_ w2.heap.size 26 i0 _ 8 96 Try.underlying27 hi hz0 hz1 hz2 rfl (by omega) (.slice Ac m capc) (m) (flat8 vs) ?_ (oRa.alloc _) ⟨w5a.heap.size, 0, none⟩ 1 1 (cells8 ⟨⟨f, p, z, an, aw, mn, mw, s⟩, A5a, C5a, M5a, D5a⟩) ?_ (by simp [cells8]) ?_ (by intro u hu; have := flat8_one [(⟨⟨f, p, z, an, aw, mn, mw, s⟩, A5a, C5a, M5a, D5a⟩ : Sv)] u (by simpa [flat8] using hu); exact this) (by omega) (by unfold maxLen; omega) (by omega) (by first | omega | (simp; omega) | simp) _ rfl ?_; rfl; rfl; rfl; rfl; (intro j u hj; rw [add_form]; have hj8 : j < 8 := (by have := (List.getElem?_eq_some_iff.1 hj).1; simpa [cells8] using this); have hg := heap_alloc_new w5a (.cells #[.int .i64 f, .int .i64 p, .int .i64 z, .int .i64 an, .slice A5a aw.length C5a, .int .i64 mn, .slice M5a mw.length D5a, .bool s] 26); rw [cell_of_row _ _ _ _ _ _ hg, Nat.zero_add, ← hj]; simp [cells8]); intro ga cap7a w7a howna hg7a hata hlta; have hb_w7a : Below w2.heap.size _ w7a := (Below.refl _ _).grown hg7a (by first | omega | (simp; omega) | simp) (fun b hb => oRa.lt b hb |>.1); have hs_w7a := hb_w7a.size; (try simp only [World.size_alloc] at hs_w7a); have oXa := HSNa.out _ _ _ _ ((Below.refl w5a.heap.size w5a).alloc (Nat.le_refl _) _) howna hg7a (by rcases hata with h | h; exact .inl h; exact .inr (by rw [h]; exact Nat.le_refl _)); clear HSNa oRa howna hg7a hata)
              have bWa : Below w2.heap.size wr w7a := (bba.mono hsz).trans ((((Below.refl w2.heap.size w5a).alloc (by first | omega | (simp; omega) | simp) _)).trans hb_w7a)
              have HSR : Hid (sdsOf _ = r ∧ SRow w7a w7a.heap.size (some ⟨ga, 0, none⟩) r) := Lib.hid (by
                have e : sdsOf (vs ++ [⟨⟨f, p, z, an, aw, mn, mw, s⟩, A5a, C5a, M5a, D5a⟩]) = r := by rw [sds_app, HSV2.out, HR2.out]; rfl
                refine ⟨e, ?_⟩
                rw [← e]
                exact oXa.srow)
              have HRL : Hid (r.length = m + 1) := Lib.hid (by rw [← sds_len HSR.out.1]; exact oXa.len)
              have bz : Below w.heap.size w w7a := bwr.trans (bWa.mono (by omega))
              go_ret2
              exact ⟨some ⟨ga, 0, none⟩, cap7a, by rw [HRL.out, EY.out]; rfl, HSR.out.2, bz⟩
            · have hsd := HSV.out
              rw [List.take_length, ← ER.out] at hsd
              have hrl : r.length = m := by rw [← sds_len hsd]; exact oC.len
              have HSR : Hid (SRow wr wr.heap.size Ac r) := Lib.hid (by rw [← hsd]; exact oC.srow)
              have HRL := Lib.hid hrl
              clear hsd hrl
              go_wp2
              go_ret2
              exact ⟨Ac, capc, by rw [HRL.out, EY.out]; rfl, HSR.out, bwr⟩
    · have HC := Lib.hid fun (w : World) hr => xcheckL_any (w := w) (A := A) (l := l) cap hr hl 0 (.inl ⟨hok, rfl⟩)
      have HRT := Lib.hid fun (w : World) ha hm => xright_any (w := w) (A := As) (M := Ms) ca cm d ha hm false ⟨fun e => (by cases e), fun k => absurd k h1⟩
      obtain ⟨rfl, rfl⟩ : r = [] ∧ y = 2 := by
        rcases hE with ⟨_, e⟩ | ⟨_, _, e⟩ | ⟨_, _, h, _⟩
        · exact e
        · exact e
        · exact absurd h h1
      clear hE hok h1
      obtain ⟨f, p, z, an, aw, mn, mw, s⟩ := d
      unfold spv at HRT ⊢
      simp only at *
      go_enter Try.func27, Try.ntmps27
      go_wp2_with fail
      go_at_call 20
      refine (HC.out _ (hr.later (by repeat (first | exact Below.refl _ _ | assumption | (refine below_drewN ?_ _) | (refine Below.drew ?_) | (refine Below.alloc ?_ (by first | omega | (simp; omega) | simp) _) | (refine Below.setCell ?_ (by first | omega | (simp; omega) | simp) _) | (refine below_trans ?_ (by assumption) (by first | omega | (simp; omega) | simp)))))).mono ?_
      rintro e w1 ⟨rfl, hb1⟩
      have hs1 := hb1.size
      (try simp only [World.size_alloc] at hs1)
      have b1 : Below w.heap.size w w1 := (by repeat (first | exact Below.refl _ _ | assumption | (refine below_drewN ?_ _) | (refine Below.drew ?_) | (refine Below.alloc ?_ (by first | omega | (simp; omega) | simp) _) | (refine Below.setCell ?_ (by first | omega | (simp; omega) | simp) _) | (refine below_trans ?_ (by assumption) (by first | omega | (simp; omega) | simp))))
      have Q1 : Sp8 w1 w.heap.size 0 ⟨f, p, z, an, aw, mn, mw, s⟩ As ca Ms cm := by constructor <;> exact ((bcell hb1).1 _ _ (by first | omega | (simp; omega) | simp)).trans (by simp [go_sem])
      obtain ⟨q0, q1, q2, q3, q4, q5, q6, q7⟩ := id Q1
      simp only [Nat.zero_add] at q0 q1 q2 q3 q4 q5 q6 q7
      go_wp2_with fail
      go_at_call 40
      refine (HRT.out _ (hA.later b1) (hM.later b1)).mono ?_
      rintro e w2 ⟨rfl, c2⟩
      have b2 : Below w.heap.size w w2 := b1.trans (c2.mono (by omega))
      go_wp2
      go_ret2
      exact ⟨none, 0, rfl, SRow.nil _ _ _, b2⟩
  · have HC := Lib.hid fun (w : World) hr => xcheckL_any (w := w) (A := A) (l := l) cap hr hl 2 (.inr ⟨hok, rfl⟩)
    obtain ⟨rfl, rfl⟩ : r = [] ∧ y = 2 := by
      rcases hE with ⟨_, e⟩ | ⟨h, _⟩ | ⟨_, h, _⟩
      · exact e
      · exact absurd h hok
      · exact absurd h hok
    clear hE hok
    obtain ⟨f, p, z, an, aw, mn, mw, s⟩ := d
    unfold spv
    simp only at *
    go_enter Try.func27, Try.ntmps27
    go_wp2_with fail
    go_at_call 20
    refine (HC.out _ (hr.later (by repeat (first | exact Below.refl _ _ | assumption | (refine below_drewN ?_ _) | (refine Below.drew ?_) | (refine Below.alloc ?_ (by first | omega | (simp; omega) | simp) _) | (refine Below.setCell ?_ (by first | omega | (simp; omega) | simp) _) | (refine below_trans ?_ (by assumption) (by first | omega | (simp; omega) | simp)))))).mono ?_
    rintro e w1 ⟨rfl, hb1⟩
    have b1 : Below w.heap.size w w1 := (by repeat (first | exact Below.refl _ _ | assumption | (refine below_drewN ?_ _) | (refine Below.drew ?_) | (refine Below.alloc ?_ (by first | omega | (simp; omega) | simp) _) | (refine Below.setCell ?_ (by first | omega | (simp; omega) | simp) _) | (refine below_trans ?_ (by assumption) (by first | omega | (simp; omega) | simp))))
    go_wp2
    go_ret2
    exact ⟨none, 0, rfl, SRow.nil _ _ _, b1⟩
end
end Go.Proofs.Ythphefoohkofbaa
