/- The walk of the law ClassWaste. -/
import Derived.Test.YtcokfdgbgeeabaaDoorK3
namespace Go.Proofs.YtcokfdgbgeeabaaDoor
open Go.RowKit
set_option linter.unusedVariables false
set_option linter.unusedSimpArgs false

theorem allW_two (l m : List Int) : AllW (l ++ m) (l.length + m.length) ↔ (AllW l l.length ∧ AllW m m.length) := by
  constructor
  · intro h
    refine ⟨fun j hj => ?_, fun j hj => ?_⟩
    · have := h j (by omega)
      simp only [List.getD_eq_getElem?_getD] at this ⊢
      rwa [List.getElem?_append_left hj] at this
    · have := h (l.length + j) (by omega)
      simp only [List.getD_eq_getElem?_getD] at this ⊢
      rwa [List.getElem?_append_right (by omega), Nat.add_sub_cancel_left] at this
  · rintro ⟨h1, h2⟩ j hj
    by_cases hl : j < l.length
    · have := h1 j hl
      simp only [List.getD_eq_getElem?_getD] at this ⊢
      rwa [List.getElem?_append_left hl]
    · have := h2 (j - l.length) (by omega)
      simp only [List.getD_eq_getElem?_getD] at this ⊢
      rwa [List.getElem?_append_right (by omega)]
theorem wsum_two (l m : List Int) : wsum (l ++ m) (l.length + m.length) = wsum l l.length + wsum m m.length := by
  have h1 : ∀ k, k ≤ l.length → wsum (l ++ m) k = wsum l k := by
    intro k
    induction k with
    | zero => intro _; rfl
    | succ k ih =>
      intro hk
      have e : (l ++ m).getD k 0 = l.getD k 0 := by
        simp only [List.getD_eq_getElem?_getD]
        rw [List.getElem?_append_left (by omega)]
      rw [wsum, wsum, ih (by omega), e]
  have h2 : ∀ k, k ≤ m.length → wsum (l ++ m) (l.length + k) = wsum l l.length + wsum m k := by
    intro k
    induction k with
    | zero =>
      intro _
      rw [Nat.add_zero, h1 _ (Nat.le_refl _)]
      show _ = wsum l l.length + 0
      omega
    | succ k ih =>
      intro hk
      have e : (l ++ m).getD (l.length + k) 0 = m.getD k 0 := by
        simp only [List.getD_eq_getElem?_getD]
        rw [List.getElem?_append_right (by omega), Nat.add_sub_cancel_left]
      rw [← Nat.add_assoc, wsum, wsum, ih (by omega), e]
      omega
  exact h2 _ (Nat.le_refl _)
theorem irow_one (w : World) (x : Int) (hx : I63 x) : IRow (w.alloc (.cells #[.int .i64 x] 3)) (w.alloc (.cells #[.int .i64 x] 3)).heap.size (some ⟨w.heap.size, 0, none⟩) [x] :=
  ⟨fun z hz => by
    simp at hz
    rw [hz]
    exact hx, fun _ => ⟨w.heap.size, 0, rfl, by simp, fun i hi => by
      have h2 : i = 0 := by simp at hi; omega
      subst h2
      simp [go_sem]⟩⟩
theorem half_slot (x : Int) (h0 : 1 ≤ x) (h1 : 2 < x) (h2 : x ≤ 16) : 2 * (rmOf x - x) < rmOf x := by
  unfold rmOf
  repeat' split
  all_goals omega

/-- the last loop: each one's waste -/
theorem waste_loop_facts (x : Int) (h : In x) : ∃ n c : Int, Hid (wsum [x] [x].length = n) ∧ Hid (clsOf x = c) ∧ 0 ≤ n ∧ n ≤ 15 ∧ ((c = 0) ∨ (c = -1) ∨ (∃ s, 0 < c ∧ c < 4 ∧ Hid (szOf c = s) ∧ 2 * n < s)) := by
  have hw : wsum [x] [x].length = rmOf x - x := by show (0 : Int) + (rmOf x - x) = _; omega
  have hb := rm_bounds x h.1
  refine ⟨rmOf x - x, clsOf x, hw, rfl, hb.1, hb.2, ?_⟩
  rcases clsOf_case x h.1 with ⟨g, hc⟩ | ⟨g', g, hc⟩ | ⟨g', g, hc⟩ | ⟨g', g, hc⟩ | ⟨g', hc⟩
  · exact .inl hc
  · refine .inr (.inr ⟨_, by omega, by omega, rfl, ?_⟩)
    rw [hc, show szOf 1 = 4 by decide]
    unfold rmOf; repeat' split
    all_goals omega
  · refine .inr (.inr ⟨_, by omega, by omega, rfl, ?_⟩)
    rw [hc, show szOf 2 = 8 by decide]
    unfold rmOf; repeat' split
    all_goals omega
  · refine .inr (.inr ⟨_, by omega, by omega, rfl, ?_⟩)
    rw [hc, show szOf 3 = 16 by decide]
    unfold rmOf; repeat' split
    all_goals omega
  · exact .inr (.inl hc)

theorem cwaste_ex (xs : List Int) (hl : xs.length ≤ 17592186044416) : ∃ r y : Int, ((AllW xs xs.length ∧ r = wsum xs xs.length ∧ y = 0) ∨ (¬ AllW xs xs.length ∧ y = 1)) ∧
    ∀ (w : World) (A : Option Addr) (cap L : Nat), xs.length = L → Sizes w → IRow w w.heap.size A xs → Calls Tryd.prog 16 #[.slice A L cap] w fun e w' => e = .returned (.tuple #[.int .i64 r, .int .i64 y]) ∧ w = w' := by
  by_cases h : AllW xs xs.length
  · exact ⟨_, _, .inl ⟨h, rfl, rfl⟩, fun w A cap L hL hs hr => by subst hL; exact (cwaste_any cap hs hr hl).mono fun e w' hh => ⟨hh.1.good h, hh.2⟩⟩
  · exact ⟨0, 1, .inr ⟨h, rfl⟩, fun w A cap L hL hs hr => by subst hL; exact (cwaste_any cap hs hr hl).mono fun e w' hh => ⟨hh.1.bad h, hh.2⟩⟩
set_option maxHeartbeats 4000000 in
theorem classWaste_walk (A B : Option Addr) (cap cb : Nat) (l m : List Int) (w : World) (hs : Sizes w) (hp : IRow w w.heap.size A l) (hq : IRow w w.heap.size B m) (hl1 : l.length ≤ 17592186044416) (hl2 : m.length ≤ 17592186044416) :
    Calls Tryd.prog 5 #[.slice A l.length cap, .slice B m.length cb] w fun e w' => e = .returned (.bool true) ∧ Below w.heap.size w w' := by
  obtain ⟨r1, y1, c1, S1⟩ := cwaste_ex l hl1
  obtain ⟨r2, y2, c2, S2⟩ := cwaste_ex m hl2
  have P1 := Lib.hid S1
  have P2 := Lib.hid S2
  obtain ⟨i0, hi, hz0, hz1, hz2⟩ := info_parts info_int
  clear S1 S2
  by_cases h1 : l.length ≤ 1000 ∧ m.length ≤ 1000
  · obtain ⟨h1, h2⟩ := h1
    have hlm : (l ++ m).length ≤ 17592186044416 := by rw [List.length_append]; omega
    obtain ⟨r3, y3, c3, S3⟩ := cwaste_ex (l ++ m) hlm
    have P3 := Lib.hid S3
    clear S3 hlm
    have D : (AllW l l.length ∧ y1 = 0 ∧ y2 = 0 ∧ y3 = 0 ∧ (r1 + r2 != r3) = false ∧ 0 ≤ r1 ∧ r1 ≤ 15000 ∧ 0 ≤ r2 ∧ r2 ≤ 15000) ∨ (((y1 != 0) = true ∨ ((y1 != 0) = false ∧ (y2 != 0) = true)) ∧ (y3 != 0) = true) := by
      have hA := allW_two l m
      rw [List.length_append] at c3
      rcases c1 with ⟨a1, a2, rfl⟩ | ⟨a, rfl⟩
      · rcases c2 with ⟨b1, b2, rfl⟩ | ⟨b, rfl⟩
        · rcases c3 with ⟨d1, d2, rfl⟩ | ⟨d, _⟩
          · have w1 := wsum_bounds l l.length a1
            have w2 := wsum_bounds m m.length b1
            refine .inl ⟨a1, rfl, rfl, rfl, ?_, by omega, by omega, by omega, by omega⟩
            rw [d2, a2, b2, wsum_two]
            simp
          · exact absurd (hA.2 ⟨a1, b1⟩) d
        · rcases c3 with ⟨d1, d2, rfl⟩ | ⟨d, rfl⟩
          · exact absurd (hA.1 d1).2 b
          · exact .inr ⟨.inr ⟨by decide, by decide⟩, by decide⟩
      · rcases c3 with ⟨d1, d2, rfl⟩ | ⟨d, rfl⟩
        · exact absurd (hA.1 d1).1 a
        · exact .inr ⟨.inl (by decide), by decide⟩
    have HD := Lib.hid D
    clear D c1 c2 c3
    have hd1 : decide (1000 < (l.length : Int)) = false := decide_eq_false (by omega)
    have hd2 : decide (1000 < (m.length : Int)) = false := decide_eq_false (by omega)
    go_enter Tryd.func5, Tryd.ntmps5
    go_wp2_with fail
    go_at_call 18
    refine (clives_any _ hs).mono ?_
    rintro e w3 ⟨rfl, hb_w3⟩
    obtain ⟨hc_w3, hf_w3⟩ := bcell hb_w3; have hs_w3 := hb_w3.size; (try simp only [World.size_alloc, World.size_setCell, World.size_drew, World.heap_drewN] at hs_w3)
    have T3 := hs.later hb_w3
    have hp3 := hp.later hb_w3
    have hq3 := hq.later hb_w3
    go_wp2_with fail
    go_at_call 16
    refine (P1.out _ _ _ _ rfl T3 hp3).mono ?_
    rintro e w0 ⟨rfl, rfl⟩
    go_wp2_with fail
    go_at_call 16
    refine (P2.out _ _ _ _ rfl T3 hq3).mono ?_
    rintro e w0 ⟨rfl, rfl⟩
    clear hc_w3 hf_w3
    by_cases n1 : 0 < l.length
    · by_cases n2 : 0 < m.length
      · obtain ⟨bl, ol, rfl, _, _⟩ := hp3.at_ n1
        obtain ⟨bm, om, rfl, _, _⟩ := hq3.at_ n2
        have HN1 := Lib.hid n1
        have HN2 := Lib.hid n2
        go_wp2_with (first
          | (at_builtin; refine wpList_append_lies _ ?_ (.tmp 40) (.tmp 41) 22 ?_ w3.heap.size 3 i0 _ 1 8 Tryd.underlying22 hi hz0 hz1 hz2 rfl (by omega) (.slice (some ⟨w3.heap.size, 0, none⟩) 0 0) 0 [] ?_ (own_empty_int w3 _ rfl) ⟨bl, ol, none⟩ l.length cap (ivals l) ?_ (by simp [ivals]) (hp3.src (by repeat (first | exact Below.refl _ _ | assumption | (refine below_drewN ?_ _) | (refine Below.drew ?_) | (refine Below.alloc ?_ (by first | omega | (simp; omega) | simp) _) | (refine Below.setCell ?_ (by first | omega | (simp; omega) | simp) _) | (refine below_trans ?_ (by assumption) (by first | omega | (simp; omega) | simp))))) (ivals_one l) HN1.out (by unfold maxLen; omega) (by omega) (by simp) _ rfl ?_; rfl; rfl; rfl; rfl; intro g cap4 w4 hown4 hg4 hat4 hlt4; simp only [Nat.zero_add, List.nil_append] at hown4; have hb_w4 : Below w3.heap.size _ w4 := (Below.refl _ _).grown hg4 (by first | omega | (simp; omega) | simp) (fun k hk => (by simp [Value.ownBlock] at hk; omega)); have hs_w4 := hb_w4.size; (try simp only [World.size_alloc] at hs_w4))
          | (at_builtin; refine wpList_append_lies _ ?_ (.tmp 42) (.tmp 43) 22 ?_ w3.heap.size 3 i0 _ 1 8 Tryd.underlying22 hi hz0 hz1 hz2 rfl (by omega) (.slice (some ⟨g, 0, none⟩) l.length cap4) l.length (ivals l) ?_ hown4 ⟨bm, om, none⟩ m.length cb (ivals m) ?_ (by simp [ivals]) (hq3.src (by repeat (first | exact Below.refl _ _ | assumption | (refine below_drewN ?_ _) | (refine Below.drew ?_) | (refine Below.alloc ?_ (by first | omega | (simp; omega) | simp) _) | (refine Below.setCell ?_ (by first | omega | (simp; omega) | simp) _) | (refine below_trans ?_ (by assumption) (by first | omega | (simp; omega) | simp))))) (ivals_one m) HN2.out (by unfold maxLen; omega) (by omega) (by omega) _ rfl ?_; rfl; rfl; rfl; rfl; intro g5 cap5 w5 hown5 hg5 hat5 hlt5; have hbg := ibase_of_owns hown4; have hb_w5 : Below w3.heap.size w4 w5 := (Below.refl _ _).grown hg5 (by first | omega | (simp; omega) | simp) (fun k hk => (by simp [Value.ownBlock] at hk; omega)); have hs_w5 := hb_w5.size; (try simp only [World.size_alloc] at hs_w5); have hq5 : Below w3.heap.size w3 w5 := (below_trans ((Below.refl _ _).alloc (Nat.le_refl _) _) (below_trans hb_w4 hb_w5 (Nat.le_refl _)) (Nat.le_refl _)); have r5 : IRow w5 w5.heap.size (some ⟨g5, 0, none⟩) (l ++ m) := (IRow.of_owns (by rw [List.length_append]; simpa [ivals] using hown5) (fun z hz => (by rcases List.mem_append.1 hz with hz | hz; exact hp.in_ z hz; exact hq.in_ z hz)))))
        go_at_call 16
        refine (P3.out _ _ _ (l.length + m.length) List.length_append (T3.later hq5) r5).mono ?_
        rintro e w0 ⟨rfl, rfl⟩
        have HB : Below w.heap.size w w5 := below_trans hb_w3 hq5 hb_w3.size
        have TK : Sizes w5 := T3.later hq5
        have RK : IRow w5 w5.heap.size _ l := hp3.later hq5
        rcases HD.out with ⟨hA, rfl, rfl, rfl, e1, b1, b2, b3, b4⟩ | ⟨hy1 | ⟨hy1, hy2⟩, hy3⟩
        · have HA := Lib.hid hA
          clear hA
          go_wp2_with fail
          go_loopw [67] (fun i wr => ∃ k : Nat, i = .int .i64 (k : Nat) ∧ k ≤ l.length ∧ Sizes wr ∧ IRow wr wr.heap.size (some ⟨bl, ol, none⟩) l ∧ Below w.heap.size w wr) (fun i _ => l.length - (intOf i).toNat)
          case atStart => exact ⟨0, rfl, Nat.zero_le _, TK, RK, HB⟩
          case round =>
            obtain ⟨k, rfl, hk, TS, TR, hb_wr⟩ := hrel
            have hsr := hb_wr.size
            by_cases hlt : k < l.length
            · obtain ⟨bx, ox, hbo, hbx, hcx⟩ := TR.at_ (by omega)
              injection hbo with hbo
              injection hbo with hbo1 hbo2
              subst hbo1 hbo2
              have hck := hcx k hlt
              have hix := TR.get k
              obtain ⟨x, hx⟩ := inamed l k
              rw [hx.out] at hck hix
              have HI : Hid (In x) := Lib.hid (by have := HA.out k hlt; rwa [hx.out] at this)
              have HX := Lib.hid hix
              clear hcx hix
              obtain ⟨n, c, hn, hc, n0, n15, hcase⟩ := waste_loop_facts x HI.out
              have f1 : decide (n < 0) = false := decide_eq_false (by omega)
              have f2 : decide (15 < n) = false := decide_eq_false (by omega)
              have HW : Hid (AllW [x] [x].length) := Lib.hid (fun j hj => by
                have hj0 : j = 0 := by simp at hj; omega
                subst hj0
                exact HI.out)
              rcases hcase with rfl | rfl | ⟨s, s0, s4, hsz, s2⟩
              all_goals
                go_wp2_with fail
                go_at_call 16
                refine (cwaste_any 1 (TS.later (by repeat (first | exact Below.refl _ _ | assumption | (refine below_drewN ?_ _) | (refine Below.drew ?_) | (refine Below.alloc ?_ (by first | omega | (simp; omega) | simp) _) | (refine Below.setCell ?_ (by first | omega | (simp; omega) | simp) _) | (refine below_trans ?_ (by assumption) (by first | omega | (simp; omega) | simp))))) (irow_one wr x HX.out) (by simp)).mono ?_
                rintro e w0 ⟨hh, rfl⟩
                rw [hh.good HW.out, hn.out]
                clear hh
                go_wp2_with fail
                go_at_call 8
                refine (cof_in (TS.later (by repeat (first | exact Below.refl _ _ | assumption | (refine below_drewN ?_ _) | (refine Below.drew ?_) | (refine Below.alloc ?_ (by first | omega | (simp; omega) | simp) _) | (refine Below.setCell ?_ (by first | omega | (simp; omega) | simp) _) | (refine below_trans ?_ (by assumption) (by first | omega | (simp; omega) | simp))))) x HI.out.1 HI.out.2).mono ?_
                rintro e w0 ⟨rfl, rfl⟩
                rw [hc.out]
              · skip
                go_wp2_with fail
                go_at_call 10
                refine (csize_in (TS.later (by repeat (first | exact Below.refl _ _ | assumption | (refine below_drewN ?_ _) | (refine Below.drew ?_) | (refine Below.alloc ?_ (by first | omega | (simp; omega) | simp) _) | (refine Below.setCell ?_ (by first | omega | (simp; omega) | simp) _) | (refine below_trans ?_ (by assumption) (by first | omega | (simp; omega) | simp))))) 0 (by omega) (by omega)).mono ?_
                rintro e w0 ⟨rfl, rfl⟩
                go_wp2
                go_roundw
                case rel => exact ⟨k + 1, by go_num, by omega, TS.later (by repeat (first | exact Below.refl _ _ | assumption | (refine below_drewN ?_ _) | (refine Below.drew ?_) | (refine Below.alloc ?_ (by first | omega | (simp; omega) | simp) _) | (refine Below.setCell ?_ (by first | omega | (simp; omega) | simp) _) | (refine below_trans ?_ (by assumption) (by first | omega | (simp; omega) | simp)))), TR.later (by repeat (first | exact Below.refl _ _ | assumption | (refine below_drewN ?_ _) | (refine Below.drew ?_) | (refine Below.alloc ?_ (by first | omega | (simp; omega) | simp) _) | (refine Below.setCell ?_ (by first | omega | (simp; omega) | simp) _) | (refine below_trans ?_ (by assumption) (by first | omega | (simp; omega) | simp)))), (by repeat (first | exact Below.refl _ _ | assumption | (refine below_drewN ?_ _) | (refine Below.drew ?_) | (refine Below.alloc ?_ (by first | omega | (simp; omega) | simp) _) | (refine Below.setCell ?_ (by first | omega | (simp; omega) | simp) _) | (refine below_trans ?_ (by assumption) (by first | omega | (simp; omega) | simp))))⟩
                case measure => simp [intOf]; omega
              · skip
                go_wp2_with fail
                go_at_call 10
                refine (csize_out (-1) (by omega)).mono ?_
                rintro e w0 ⟨rfl, rfl⟩
                go_wp2
                go_roundw
                case rel => exact ⟨k + 1, by go_num, by omega, TS.later (by repeat (first | exact Below.refl _ _ | assumption | (refine below_drewN ?_ _) | (refine Below.drew ?_) | (refine Below.alloc ?_ (by first | omega | (simp; omega) | simp) _) | (refine Below.setCell ?_ (by first | omega | (simp; omega) | simp) _) | (refine below_trans ?_ (by assumption) (by first | omega | (simp; omega) | simp)))), TR.later (by repeat (first | exact Below.refl _ _ | assumption | (refine below_drewN ?_ _) | (refine Below.drew ?_) | (refine Below.alloc ?_ (by first | omega | (simp; omega) | simp) _) | (refine Below.setCell ?_ (by first | omega | (simp; omega) | simp) _) | (refine below_trans ?_ (by assumption) (by first | omega | (simp; omega) | simp)))), (by repeat (first | exact Below.refl _ _ | assumption | (refine below_drewN ?_ _) | (refine Below.drew ?_) | (refine Below.alloc ?_ (by first | omega | (simp; omega) | simp) _) | (refine Below.setCell ?_ (by first | omega | (simp; omega) | simp) _) | (refine below_trans ?_ (by assumption) (by first | omega | (simp; omega) | simp))))⟩
                case measure => simp [intOf]; omega
              · have f3 : decide (0 < c) = true := decide_eq_true s0
                have f4 : decide (c < 0) = false := decide_eq_false (by omega)
                have f5 : decide (s ≤ 2 * n) = false := decide_eq_false (by omega)
                go_wp2_with fail
                go_at_call 10
                refine (csize_in (TS.later (by repeat (first | exact Below.refl _ _ | assumption | (refine below_drewN ?_ _) | (refine Below.drew ?_) | (refine Below.alloc ?_ (by first | omega | (simp; omega) | simp) _) | (refine Below.setCell ?_ (by first | omega | (simp; omega) | simp) _) | (refine below_trans ?_ (by assumption) (by first | omega | (simp; omega) | simp))))) c (by omega) s4).mono ?_
                rintro e w0 ⟨rfl, rfl⟩
                rw [hsz.out]
                go_wp2
                go_roundw
                case rel => exact ⟨k + 1, by go_num, by omega, TS.later (by repeat (first | exact Below.refl _ _ | assumption | (refine below_drewN ?_ _) | (refine Below.drew ?_) | (refine Below.alloc ?_ (by first | omega | (simp; omega) | simp) _) | (refine Below.setCell ?_ (by first | omega | (simp; omega) | simp) _) | (refine below_trans ?_ (by assumption) (by first | omega | (simp; omega) | simp)))), TR.later (by repeat (first | exact Below.refl _ _ | assumption | (refine below_drewN ?_ _) | (refine Below.drew ?_) | (refine Below.alloc ?_ (by first | omega | (simp; omega) | simp) _) | (refine Below.setCell ?_ (by first | omega | (simp; omega) | simp) _) | (refine below_trans ?_ (by assumption) (by first | omega | (simp; omega) | simp)))), (by repeat (first | exact Below.refl _ _ | assumption | (refine below_drewN ?_ _) | (refine Below.drew ?_) | (refine Below.alloc ?_ (by first | omega | (simp; omega) | simp) _) | (refine Below.setCell ?_ (by first | omega | (simp; omega) | simp) _) | (refine below_trans ?_ (by assumption) (by first | omega | (simp; omega) | simp))))⟩
                case measure => simp [intOf]; omega
            · go_wp2
              go_ret
              exact ⟨rfl, hb_wr⟩
        · go_wp2
          go_ret
          exact ⟨rfl, HB⟩
        · go_wp2
          go_ret
          exact ⟨rfl, HB⟩
      · obtain rfl : m = [] := List.eq_nil_of_length_eq_zero (by omega)
        obtain ⟨bl, ol, rfl, _, _⟩ := hp3.at_ n1
        have HN1 := Lib.hid n1
        rcases B with _ | ac
        all_goals
          go_wp2_with (first
            | (at_builtin; refine wpList_append_lies _ ?_ (.tmp 40) (.tmp 41) 22 ?_ w3.heap.size 3 i0 _ 1 8 Tryd.underlying22 hi hz0 hz1 hz2 rfl (by omega) (.slice (some ⟨w3.heap.size, 0, none⟩) 0 0) 0 [] ?_ (own_empty_int w3 _ rfl) ⟨bl, ol, none⟩ l.length cap (ivals l) ?_ (by simp [ivals]) (hp3.src (by repeat (first | exact Below.refl _ _ | assumption | (refine below_drewN ?_ _) | (refine Below.drew ?_) | (refine Below.alloc ?_ (by first | omega | (simp; omega) | simp) _) | (refine Below.setCell ?_ (by first | omega | (simp; omega) | simp) _) | (refine below_trans ?_ (by assumption) (by first | omega | (simp; omega) | simp))))) (ivals_one l) HN1.out (by unfold maxLen; omega) (by omega) (by simp) _ rfl ?_; rfl; rfl; rfl; rfl; intro g cap4 w4 hown4 hg4 hat4 hlt4; simp only [Nat.zero_add, List.nil_append] at hown4; have hb_w4 : Below w3.heap.size _ w4 := (Below.refl _ _).grown hg4 (by first | omega | (simp; omega) | simp) (fun k hk => (by simp [Value.ownBlock] at hk; omega)); have hs_w4 := hb_w4.size; (try simp only [World.size_alloc] at hs_w4); have hq5 : Below w3.heap.size w3 w4 := (below_trans ((Below.refl _ _).alloc (Nat.le_refl _) _) hb_w4 (Nat.le_refl _)); have hcp : l.length ≤ cap4 := icap_of_owns hown4; have hcp2 : ¬ cap4 < l.length := (by omega); have r4 : IRow w4 w4.heap.size (some ⟨g, 0, none⟩) (l ++ []) := (by rw [List.append_nil]; exact IRow.of_owns hown4 hp.in_)))
          go_at_call 16
          refine (P3.out _ _ _ l.length (by rw [List.append_nil]) (T3.later hq5) r4).mono ?_
          rintro e w0 ⟨rfl, rfl⟩
          have HB : Below w.heap.size w w4 := below_trans hb_w3 hq5 hb_w3.size
          have TK : Sizes w4 := T3.later hq5
          have RK : IRow w4 w4.heap.size _ l := hp3.later hq5
          rcases HD.out with ⟨hA, rfl, rfl, rfl, e1, b1, b2, b3, b4⟩ | ⟨hy1 | ⟨hy1, hy2⟩, hy3⟩
          · have HA := Lib.hid hA
            clear hA
            go_wp2_with fail
            go_loopw [67] (fun i wr => ∃ k : Nat, i = .int .i64 (k : Nat) ∧ k ≤ l.length ∧ Sizes wr ∧ IRow wr wr.heap.size (some ⟨bl, ol, none⟩) l ∧ Below w.heap.size w wr) (fun i _ => l.length - (intOf i).toNat)
            case atStart => exact ⟨0, rfl, Nat.zero_le _, TK, RK, HB⟩
            case round =>
              obtain ⟨k, rfl, hk, TS, TR, hb_wr⟩ := hrel
              have hsr := hb_wr.size
              by_cases hlt : k < l.length
              · obtain ⟨bx, ox, hbo, hbx, hcx⟩ := TR.at_ (by omega)
                injection hbo with hbo
                injection hbo with hbo1 hbo2
                subst hbo1 hbo2
                have hck := hcx k hlt
                have hix := TR.get k
                obtain ⟨x, hx⟩ := inamed l k
                rw [hx.out] at hck hix
                have HI : Hid (In x) := Lib.hid (by have := HA.out k hlt; rwa [hx.out] at this)
                have HX := Lib.hid hix
                clear hcx hix
                obtain ⟨n, c, hn, hc, n0, n15, hcase⟩ := waste_loop_facts x HI.out
                have f1 : decide (n < 0) = false := decide_eq_false (by omega)
                have f2 : decide (15 < n) = false := decide_eq_false (by omega)
                have HW : Hid (AllW [x] [x].length) := Lib.hid (fun j hj => by
                  have hj0 : j = 0 := by simp at hj; omega
                  subst hj0
                  exact HI.out)
                rcases hcase with rfl | rfl | ⟨s, s0, s4, hsz, s2⟩
                all_goals
                  go_wp2_with fail
                  go_at_call 16
                  refine (cwaste_any 1 (TS.later (by repeat (first | exact Below.refl _ _ | assumption | (refine below_drewN ?_ _) | (refine Below.drew ?_) | (refine Below.alloc ?_ (by first | omega | (simp; omega) | simp) _) | (refine Below.setCell ?_ (by first | omega | (simp; omega) | simp) _) | (refine below_trans ?_ (by assumption) (by first | omega | (simp; omega) | simp))))) (irow_one wr x HX.out) (by simp)).mono ?_
                  rintro e w0 ⟨hh, rfl⟩
                  rw [hh.good HW.out, hn.out]
                  clear hh
                  go_wp2_with fail
                  go_at_call 8
                  refine (cof_in (TS.later (by repeat (first | exact Below.refl _ _ | assumption | (refine below_drewN ?_ _) | (refine Below.drew ?_) | (refine Below.alloc ?_ (by first | omega | (simp; omega) | simp) _) | (refine Below.setCell ?_ (by first | omega | (simp; omega) | simp) _) | (refine below_trans ?_ (by assumption) (by first | omega | (simp; omega) | simp))))) x HI.out.1 HI.out.2).mono ?_
                  rintro e w0 ⟨rfl, rfl⟩
                  rw [hc.out]
                · skip
                  go_wp2_with fail
                  go_at_call 10
                  refine (csize_in (TS.later (by repeat (first | exact Below.refl _ _ | assumption | (refine below_drewN ?_ _) | (refine Below.drew ?_) | (refine Below.alloc ?_ (by first | omega | (simp; omega) | simp) _) | (refine Below.setCell ?_ (by first | omega | (simp; omega) | simp) _) | (refine below_trans ?_ (by assumption) (by first | omega | (simp; omega) | simp))))) 0 (by omega) (by omega)).mono ?_
                  rintro e w0 ⟨rfl, rfl⟩
                  go_wp2
                  go_roundw
                  case rel => exact ⟨k + 1, by go_num, by omega, TS.later (by repeat (first | exact Below.refl _ _ | assumption | (refine below_drewN ?_ _) | (refine Below.drew ?_) | (refine Below.alloc ?_ (by first | omega | (simp; omega) | simp) _) | (refine Below.setCell ?_ (by first | omega | (simp; omega) | simp) _) | (refine below_trans ?_ (by assumption) (by first | omega | (simp; omega) | simp)))), TR.later (by repeat (first | exact Below.refl _ _ | assumption | (refine below_drewN ?_ _) | (refine Below.drew ?_) | (refine Below.alloc ?_ (by first | omega | (simp; omega) | simp) _) | (refine Below.setCell ?_ (by first | omega | (simp; omega) | simp) _) | (refine below_trans ?_ (by assumption) (by first | omega | (simp; omega) | simp)))), (by repeat (first | exact Below.refl _ _ | assumption | (refine below_drewN ?_ _) | (refine Below.drew ?_) | (refine Below.alloc ?_ (by first | omega | (simp; omega) | simp) _) | (refine Below.setCell ?_ (by first | omega | (simp; omega) | simp) _) | (refine below_trans ?_ (by assumption) (by first | omega | (simp; omega) | simp))))⟩
                  case measure => simp [intOf]; omega
                · skip
                  go_wp2_with fail
                  go_at_call 10
                  refine (csize_out (-1) (by omega)).mono ?_
                  rintro e w0 ⟨rfl, rfl⟩
                  go_wp2
                  go_roundw
                  case rel => exact ⟨k + 1, by go_num, by omega, TS.later (by repeat (first | exact Below.refl _ _ | assumption | (refine below_drewN ?_ _) | (refine Below.drew ?_) | (refine Below.alloc ?_ (by first | omega | (simp; omega) | simp) _) | (refine Below.setCell ?_ (by first | omega | (simp; omega) | simp) _) | (refine below_trans ?_ (by assumption) (by first | omega | (simp; omega) | simp)))), TR.later (by repeat (first | exact Below.refl _ _ | assumption | (refine below_drewN ?_ _) | (refine Below.drew ?_) | (refine Below.alloc ?_ (by first | omega | (simp; omega) | simp) _) | (refine Below.setCell ?_ (by first | omega | (simp; omega) | simp) _) | (refine below_trans ?_ (by assumption) (by first | omega | (simp; omega) | simp)))), (by repeat (first | exact Below.refl _ _ | assumption | (refine below_drewN ?_ _) | (refine Below.drew ?_) | (refine Below.alloc ?_ (by first | omega | (simp; omega) | simp) _) | (refine Below.setCell ?_ (by first | omega | (simp; omega) | simp) _) | (refine below_trans ?_ (by assumption) (by first | omega | (simp; omega) | simp))))⟩
                  case measure => simp [intOf]; omega
                · have f3 : decide (0 < c) = true := decide_eq_true s0
                  have f4 : decide (c < 0) = false := decide_eq_false (by omega)
                  have f5 : decide (s ≤ 2 * n) = false := decide_eq_false (by omega)
                  go_wp2_with fail
                  go_at_call 10
                  refine (csize_in (TS.later (by repeat (first | exact Below.refl _ _ | assumption | (refine below_drewN ?_ _) | (refine Below.drew ?_) | (refine Below.alloc ?_ (by first | omega | (simp; omega) | simp) _) | (refine Below.setCell ?_ (by first | omega | (simp; omega) | simp) _) | (refine below_trans ?_ (by assumption) (by first | omega | (simp; omega) | simp))))) c (by omega) s4).mono ?_
                  rintro e w0 ⟨rfl, rfl⟩
                  rw [hsz.out]
                  go_wp2
                  go_roundw
                  case rel => exact ⟨k + 1, by go_num, by omega, TS.later (by repeat (first | exact Below.refl _ _ | assumption | (refine below_drewN ?_ _) | (refine Below.drew ?_) | (refine Below.alloc ?_ (by first | omega | (simp; omega) | simp) _) | (refine Below.setCell ?_ (by first | omega | (simp; omega) | simp) _) | (refine below_trans ?_ (by assumption) (by first | omega | (simp; omega) | simp)))), TR.later (by repeat (first | exact Below.refl _ _ | assumption | (refine below_drewN ?_ _) | (refine Below.drew ?_) | (refine Below.alloc ?_ (by first | omega | (simp; omega) | simp) _) | (refine Below.setCell ?_ (by first | omega | (simp; omega) | simp) _) | (refine below_trans ?_ (by assumption) (by first | omega | (simp; omega) | simp)))), (by repeat (first | exact Below.refl _ _ | assumption | (refine below_drewN ?_ _) | (refine Below.drew ?_) | (refine Below.alloc ?_ (by first | omega | (simp; omega) | simp) _) | (refine Below.setCell ?_ (by first | omega | (simp; omega) | simp) _) | (refine below_trans ?_ (by assumption) (by first | omega | (simp; omega) | simp))))⟩
                  case measure => simp [intOf]; omega
              · go_wp2
                go_ret
                exact ⟨rfl, hb_wr⟩
          · go_wp2
            go_ret
            exact ⟨rfl, HB⟩
          · go_wp2
            go_ret
            exact ⟨rfl, HB⟩
    · obtain rfl : l = [] := List.eq_nil_of_length_eq_zero (by omega)
      by_cases n2 : 0 < m.length
      · obtain ⟨bm, om, rfl, _, _⟩ := hq3.at_ n2
        have HN2 := Lib.hid n2
        rcases A with _ | ab
        all_goals
          go_wp2_with (first
            | (at_builtin; refine wpList_append_lies _ ?_ (.tmp 42) (.tmp 43) 22 ?_ w3.heap.size 3 i0 _ 1 8 Tryd.underlying22 hi hz0 hz1 hz2 rfl (by omega) (.slice (some ⟨w3.heap.size, 0, none⟩) 0 0) 0 [] ?_ (own_empty_int w3 _ rfl) ⟨bm, om, none⟩ m.length cb (ivals m) ?_ (by simp [ivals]) (hq3.src (by repeat (first | exact Below.refl _ _ | assumption | (refine below_drewN ?_ _) | (refine Below.drew ?_) | (refine Below.alloc ?_ (by first | omega | (simp; omega) | simp) _) | (refine Below.setCell ?_ (by first | omega | (simp; omega) | simp) _) | (refine below_trans ?_ (by assumption) (by first | omega | (simp; omega) | simp))))) (ivals_one m) HN2.out (by unfold maxLen; omega) (by omega) (by simp) _ rfl ?_; rfl; rfl; rfl; rfl; intro g5 cap5 w5 hown5 hg5 hat5 hlt5; simp only [Nat.zero_add, List.nil_append] at hown5; have hb_w5 : Below w3.heap.size _ w5 := (Below.refl _ _).grown hg5 (by first | omega | (simp; omega) | simp) (fun k hk => (by simp [Value.ownBlock] at hk; omega)); have hs_w5 := hb_w5.size; (try simp only [World.size_alloc] at hs_w5); have hq5 : Below w3.heap.size w3 w5 := (below_trans ((Below.refl _ _).alloc (Nat.le_refl _) _) hb_w5 (Nat.le_refl _)); have r5 : IRow w5 w5.heap.size (some ⟨g5, 0, none⟩) ([] ++ m) := (by rw [List.nil_append]; exact IRow.of_owns hown5 hq.in_)))
          go_at_call 16
          refine (P3.out _ _ _ m.length (by rw [List.nil_append]) (T3.later hq5) r5).mono ?_
          rintro e w0 ⟨rfl, rfl⟩
          have HB : Below w.heap.size w w5 := below_trans hb_w3 hq5 hb_w3.size
          rcases HD.out with ⟨hA, rfl, rfl, rfl, e1, b1, b2, b3, b4⟩ | ⟨hy1 | ⟨hy1, hy2⟩, hy3⟩
          · go_wp2_with fail
            go_loopw [67] (fun i wr => i = .int .i64 0 ∧ Below w.heap.size w wr) (fun _ _ => 0)
            case atStart => exact ⟨rfl, HB⟩
            case round =>
              obtain ⟨rfl, HB2⟩ := hrel
              go_wp2
              go_ret
              exact ⟨rfl, HB2⟩
          · go_wp2
            go_ret
            exact ⟨rfl, HB⟩
          · go_wp2
            go_ret
            exact ⟨rfl, HB⟩
      · obtain rfl : m = [] := List.eq_nil_of_length_eq_zero (by omega)
        rcases A with _ | ab <;> rcases B with _ | ac
        all_goals
          go_wp2_with fail
          go_at_call 16
          refine (P3.out _ _ _ 0 rfl (T3.later (by repeat (first | exact Below.refl _ _ | assumption | (refine below_drewN ?_ _) | (refine Below.drew ?_) | (refine Below.alloc ?_ (by first | omega | (simp; omega) | simp) _) | (refine Below.setCell ?_ (by first | omega | (simp; omega) | simp) _) | (refine below_trans ?_ (by assumption) (by first | omega | (simp; omega) | simp))))) (IRow.nil _ _ _)).mono ?_
          rintro e w0 ⟨rfl, rfl⟩
          rcases HD.out with ⟨hA, rfl, rfl, rfl, e1, b1, b2, b3, b4⟩ | ⟨hy1 | ⟨hy1, hy2⟩, hy3⟩
          · go_wp2_with fail
            go_loopw [67] (fun i wr => i = .int .i64 0 ∧ Below w.heap.size w wr) (fun _ _ => 0)
            case atStart => exact ⟨rfl, (by repeat (first | exact Below.refl _ _ | assumption | (refine below_drewN ?_ _) | (refine Below.drew ?_) | (refine Below.alloc ?_ (by first | omega | (simp; omega) | simp) _) | (refine Below.setCell ?_ (by first | omega | (simp; omega) | simp) _) | (refine below_trans ?_ (by assumption) (by first | omega | (simp; omega) | simp))))⟩
            case round =>
              obtain ⟨rfl, HB2⟩ := hrel
              go_wp2
              go_ret
              exact ⟨rfl, HB2⟩
          · go_wp2
            go_ret
            exact ⟨rfl, (by repeat (first | exact Below.refl _ _ | assumption | (refine below_drewN ?_ _) | (refine Below.drew ?_) | (refine Below.alloc ?_ (by first | omega | (simp; omega) | simp) _) | (refine Below.setCell ?_ (by first | omega | (simp; omega) | simp) _) | (refine below_trans ?_ (by assumption) (by first | omega | (simp; omega) | simp))))⟩
          · go_wp2
            go_ret
            exact ⟨rfl, (by repeat (first | exact Below.refl _ _ | assumption | (refine below_drewN ?_ _) | (refine Below.drew ?_) | (refine Below.alloc ?_ (by first | omega | (simp; omega) | simp) _) | (refine Below.setCell ?_ (by first | omega | (simp; omega) | simp) _) | (refine below_trans ?_ (by assumption) (by first | omega | (simp; omega) | simp))))⟩
  · by_cases h2 : l.length ≤ 1000
    · have hd1 : decide (1000 < (l.length : Int)) = false := decide_eq_false (by omega)
      have hd2 : decide (1000 < (m.length : Int)) = true := decide_eq_true (by omega)
      clear h1
      go_enter Tryd.func5, Tryd.ntmps5
      go_wp2_with fail
      go_at_call 18
      refine (clives_any _ hs).mono ?_
      rintro e w3 ⟨rfl, hb_w3⟩
      obtain ⟨hc_w3, hf_w3⟩ := bcell hb_w3; have hs_w3 := hb_w3.size; (try simp only [World.size_alloc, World.size_setCell, World.size_drew, World.heap_drewN] at hs_w3)
      go_wp2
      go_ret
      exact ⟨rfl, (by repeat (first | exact Below.refl _ _ | assumption | (refine below_drewN ?_ _) | (refine Below.drew ?_) | (refine Below.alloc ?_ (by first | omega | (simp; omega) | simp) _) | (refine Below.setCell ?_ (by first | omega | (simp; omega) | simp) _) | (refine below_trans ?_ (by assumption) (by first | omega | (simp; omega) | simp))))⟩
    · have hd1 : decide (1000 < (l.length : Int)) = true := decide_eq_true (by omega)
      clear h1
      go_enter Tryd.func5, Tryd.ntmps5
      go_wp2_with fail
      go_at_call 18
      refine (clives_any _ hs).mono ?_
      rintro e w3 ⟨rfl, hb_w3⟩
      obtain ⟨hc_w3, hf_w3⟩ := bcell hb_w3; have hs_w3 := hb_w3.size; (try simp only [World.size_alloc, World.size_setCell, World.size_drew, World.heap_drewN] at hs_w3)
      go_wp2
      go_ret
      exact ⟨rfl, (by repeat (first | exact Below.refl _ _ | assumption | (refine below_drewN ?_ _) | (refine Below.drew ?_) | (refine Below.alloc ?_ (by first | omega | (simp; omega) | simp) _) | (refine Below.setCell ?_ (by first | omega | (simp; omega) | simp) _) | (refine below_trans ?_ (by assumption) (by first | omega | (simp; omega) | simp))))⟩
end Go.Proofs.YtcokfdgbgeeabaaDoor
