/- The walk of the law ArenaSums. -/
import Derived.Test.YtbhblffomlhopabD2
import Derived.Deep.RegionHeld3
import Derived.Deep.AppendLies
namespace Go.Proofs.Ytbhblffomlhopab
open Go.RowKit
set_option linter.unusedVariables false
set_option linter.unusedSimpArgs false

/-- what a sum comes to -/
def sumV (ws ps : List Nat) : Nat := if ws.length ≤ 16384 then sumTo ws ps ps.length else 0
theorem sum_two (ws l m : List Nat) : sumTo ws (l ++ m) (l.length + m.length) = (sumTo ws l l.length + sumTo ws m m.length) % W64 := by
  have h1 : ∀ k, k ≤ l.length → sumTo ws (l ++ m) k = sumTo ws l k := by
    intro k
    induction k with
    | zero => intro _; rfl
    | succ k ih =>
      intro hk
      have e : (l ++ m).getD k 0 = l.getD k 0 := by
        simp only [List.getD_eq_getElem?_getD]
        rw [List.getElem?_append_left (by omega)]
      rw [sumTo, sumTo, ih (by omega), e]
  have hlt : ∀ (ps : List Nat) k, sumTo ws ps k < W64 := by
    intro ps k
    cases k with
    | zero => show 0 < W64; decide
    | succ k => exact Nat.mod_lt _ (by decide)
  have h2 : ∀ k, k ≤ m.length → sumTo ws (l ++ m) (l.length + k) = (sumTo ws l l.length + sumTo ws m k) % W64 := by
    intro k
    induction k with
    | zero =>
      intro _
      rw [Nat.add_zero, h1 _ (Nat.le_refl _)]
      show _ = (sumTo ws l l.length + 0) % W64
      rw [Nat.add_zero, Nat.mod_eq_of_lt (hlt _ _)]
    | succ k ih =>
      intro hk
      have e : (l ++ m).getD (l.length + k) 0 = m.getD k 0 := by
        simp only [List.getD_eq_getElem?_getD]
        rw [List.getElem?_append_right (by omega), Nat.add_sub_cancel_left]
      rw [← Nat.add_assoc, sumTo, sumTo, ih (by omega), e]
      unfold W64
      omega
  exact h2 _ (Nat.le_refl _)
theorem allIn_two (ws l m : List Nat) : AllIn ws (l ++ m) (l.length + m.length) ↔ (AllIn ws l l.length ∧ AllIn ws m m.length) := by
  constructor
  · intro h
    refine ⟨fun j hj => ?_, fun j hj => ?_⟩
    · have := h j (by omega)
      simp only [List.getD_eq_getElem?_getD] at this ⊢
      rwa [List.getElem?_append_left hj] at this
    · have := h (l.length + j) (by omega)
      simp only [List.getD_eq_getElem?_getD] at this ⊢
      rwa [List.getElem?_append_right (by omega), Nat.add_sub_cancel_left] at this
  · rintro ⟨h1, h2⟩ j hj
    by_cases hl : j < l.length
    · have := h1 j hl
      simp only [List.getD_eq_getElem?_getD] at this ⊢
      rwa [List.getElem?_append_left hl]
    · have := h2 (j - l.length) (by omega)
      simp only [List.getD_eq_getElem?_getD] at this ⊢
      rwa [List.getElem?_append_right (by omega)]
/-- a sum, whatever it is: what is told, and whether it is one -/
theorem sum_ex (ws ps : List Nat) (hl : ps.length ≤ 17592186044416) : ∃ (s : Nat) (y : Int), ((ws.length ≤ 16384 ∧ AllIn ws ps ps.length ∧ s = sumTo ws ps ps.length ∧ y = 0) ∨ (¬ (ws.length ≤ 16384 ∧ AllIn ws ps ps.length) ∧ (y = 1 ∨ y = 2))) ∧
    ∀ (w : World) (A B : Option Addr) (cap cap' L : Nat), ps.length = L → Row w w.heap.size A ws → Row w w.heap.size B ps → Calls Try.prog 21 #[.agg #[.slice A ws.length cap], .slice B L cap'] w fun e w' => e = .returned (.tuple #[.int .u64 (s : Nat), .int .i64 y]) ∧ Below w.heap.size w w' := by
  by_cases h : ws.length ≤ 16384
  · by_cases ha : AllIn ws ps ps.length
    · refine ⟨_, 0, .inl ⟨h, ha, rfl, rfl⟩, ?_⟩
      rintro w A B cap cap' L rfl hr hp
      refine (sum_ok cap cap' hr hp hl h).mono fun e w' ⟨he, hb⟩ => ⟨?_, hb⟩
      rcases he with ⟨_, he⟩ | ⟨hn, _⟩
      · exact he
      · exact absurd ha hn
    · refine ⟨0, 1, .inr ⟨fun hh => ha hh.2, .inl rfl⟩, ?_⟩
      rintro w A B cap cap' L rfl hr hp
      refine (sum_ok cap cap' hr hp hl h).mono fun e w' ⟨he, hb⟩ => ⟨?_, hb⟩
      rcases he with ⟨hn, _⟩ | ⟨_, he⟩
      · exact absurd hn ha
      · exact he
  · refine ⟨0, 2, .inr ⟨fun hh => h hh.1, .inr rfl⟩, ?_⟩
    rintro w A B cap cap' L rfl hr hp
    exact sum_bad cap cap' h

theorem base_of_owns {w : World} {B t s n cap g : Nat} {xs : List Value} (h : w.ownsRow B t s (.slice (some ⟨g, 0, none⟩) n cap) n xs) : B ≤ g := by
  obtain ⟨_, ⟨h1, h2⟩ | ⟨g', cap', cur, e, h2, _, h3, _⟩⟩ := h
  · injection h1 with h1; cases h1
  · injection e with e1 e2 e3
    injection e1 with e1
    injection e1 with e1
    omega
theorem own_empty1 (w w' : World) (h : w'.heap = (w.alloc (.cells #[] 25)).heap) : w'.ownsRow w.heap.size 25 1 (.slice (some ⟨w.heap.size, 0, none⟩) 0 0) 0 [] :=
  ⟨rfl, .inr ⟨w.heap.size, 0, #[], rfl, Nat.le_refl _, by rw [h]; exact heap_alloc_new _ _, Nat.le_refl _, Nat.zero_le _, rfl, rfl⟩⟩
set_option maxHeartbeats 1000000 in
theorem arenaSums_walk (A B C : Option Addr) (cap cb cc : Nat) (ws l m : List Nat) (w : World) (hr : Row w w.heap.size A ws) (hp : Row w w.heap.size B l) (hq : Row w w.heap.size C m) (hl0 : ws.length ≤ 17592186044416) (hl1 : l.length ≤ 17592186044416) (hl2 : m.length ≤ 17592186044416) :
    Calls Try.prog 7 #[.agg #[.slice A ws.length cap], .slice B l.length cb, .slice C m.length cc] w fun e w' => e = .returned (.bool true) ∧ Below w.heap.size w w' := by
  obtain ⟨s1, y1, c1, S1⟩ := sum_ex ws l hl1
  obtain ⟨s2, y2, c2, S2⟩ := sum_ex ws m hl2
  have P1 := Lib.hid S1
  have P2 := Lib.hid S2
  have K1 := Lib.hid c1
  have K2 := Lib.hid c2
  obtain ⟨i0, hi, hz0, hz1, hz2⟩ := info_parts info_u64
  clear S1 S2 c1 c2
  by_cases h1 : l.length ≤ 1000 ∧ m.length ≤ 1000
  · obtain ⟨h1, h2⟩ := h1
    have hlm : (l ++ m).length ≤ 17592186044416 := by rw [List.length_append]; omega
    obtain ⟨s3, y3, c3, S3⟩ := sum_ex ws (l ++ m) hlm
    have P3 := Lib.hid S3
    have K3 := Lib.hid c3
    clear S3 c3 hlm
    have D : (y1 = 0 ∧ y2 = 0 ∧ y3 = 0 ∧ s3 = (s1 + s2) % W64) ∨ (((y1 != 0) = true ∨ ((y1 != 0) = false ∧ (y2 != 0) = true)) ∧ (y3 != 0) = true) := by
      have hA := allIn_two ws l m
      rw [← List.length_append] at hA
      have ne : ∀ {y : Int}, (y = 1 ∨ y = 2) → (y != 0) = true := fun h => by rcases h with rfl | rfl <;> decide
      rcases K1.out with ⟨a1, a2, a3, a4⟩ | ⟨a, a4⟩
      · rcases K2.out with ⟨b1, b2, b3, b4⟩ | ⟨b, b4⟩
        · rcases K3.out with ⟨d1, d2, d3, d4⟩ | ⟨d, _⟩
          · exact .inl ⟨a4, b4, d4, by rw [d3, a3, b3, List.length_append, sum_two]⟩
          · exact absurd ⟨a1, hA.2 ⟨a2, b2⟩⟩ d
        · rcases K3.out with ⟨d1, d2, d3, d4⟩ | ⟨d, d4⟩
          · exact absurd ⟨d1, (hA.1 d2).2⟩ b
          · exact .inr ⟨.inr ⟨by rw [a4]; decide, ne b4⟩, ne d4⟩
      · rcases K3.out with ⟨d1, d2, d3, d4⟩ | ⟨d, d4⟩
        · exact absurd ⟨d1, (hA.1 d2).1⟩ a
        · exact .inr ⟨.inl (ne a4), ne d4⟩
    have HD := Lib.hid D
    clear D
    have hd1 : decide (1000 < (l.length : Int)) = false := by simp; omega
    have hd2 : decide (1000 < (m.length : Int)) = false := by simp; omega
    go_enter Try.func7, Try.ntmps7
    go_wp2_with fail
    go_at_call 13
    refine (words_any _).mono ?_
    rintro e w1 ⟨rfl, hb_w1⟩
    obtain ⟨hc_w1, hf_w1⟩ := bcell hb_w1; have hz_w1_w_0 : w.heap.size < w1.heap.size := (by have hzz := hb_w1.size; (try simp only [World.size_alloc, World.size_setCell, World.size_drew, World.heap_drewN] at hzz); omega); have hs_w1 := hb_w1.size; (try simp only [World.size_alloc, World.size_setCell, World.size_drew, World.heap_drewN] at hs_w1)
    go_wp2_with fail
    go_at_call 21
    refine (P1.out _ _ _ _ _ _ rfl (hr.later (by repeat (first | exact Below.refl _ _ | assumption | (refine below_drewN ?_ _) | (refine Below.drew ?_) | (refine Below.alloc ?_ (by first | omega | (simp; omega) | simp) _) | (refine Below.setCell ?_ (by first | omega | (simp; omega) | simp) _) | (refine below_trans ?_ (by assumption) (by first | omega | (simp; omega) | simp))))) (hp.later (by repeat (first | exact Below.refl _ _ | assumption | (refine below_drewN ?_ _) | (refine Below.drew ?_) | (refine Below.alloc ?_ (by first | omega | (simp; omega) | simp) _) | (refine Below.setCell ?_ (by first | omega | (simp; omega) | simp) _) | (refine below_trans ?_ (by assumption) (by first | omega | (simp; omega) | simp)))))).mono ?_
    rintro e w2 ⟨rfl, hb_w2⟩
    obtain ⟨hc_w2, hf_w2⟩ := bcell hb_w2; have hz_w2_w_0 : w.heap.size < w2.heap.size := (by have hzz := hb_w2.size; (try simp only [World.size_alloc, World.size_setCell, World.size_drew, World.heap_drewN] at hzz); omega); have hs_w2 := hb_w2.size; (try simp only [World.size_alloc, World.size_setCell, World.size_drew, World.heap_drewN] at hs_w2)
    go_wp2_with fail
    go_at_call 21
    refine (P2.out _ _ _ _ _ _ rfl (hr.later (by repeat (first | exact Below.refl _ _ | assumption | (refine below_drewN ?_ _) | (refine Below.drew ?_) | (refine Below.alloc ?_ (by first | omega | (simp; omega) | simp) _) | (refine Below.setCell ?_ (by first | omega | (simp; omega) | simp) _) | (refine below_trans ?_ (by assumption) (by first | omega | (simp; omega) | simp))))) (hq.later (by repeat (first | exact Below.refl _ _ | assumption | (refine below_drewN ?_ _) | (refine Below.drew ?_) | (refine Below.alloc ?_ (by first | omega | (simp; omega) | simp) _) | (refine Below.setCell ?_ (by first | omega | (simp; omega) | simp) _) | (refine below_trans ?_ (by assumption) (by first | omega | (simp; omega) | simp)))))).mono ?_
    rintro e w3 ⟨rfl, hb_w3⟩
    obtain ⟨hc_w3, hf_w3⟩ := bcell hb_w3; have hz_w3_w_0 : w.heap.size < w3.heap.size := (by have hzz := hb_w3.size; (try simp only [World.size_alloc, World.size_setCell, World.size_drew, World.heap_drewN] at hzz); omega); have hs_w3 := hb_w3.size; (try simp only [World.size_alloc, World.size_setCell, World.size_drew, World.heap_drewN] at hs_w3)
    go_wp2_with fail
    have k3 : w3.cell? ⟨w.heap.size, 0, none⟩ = some (.slice A ws.length cap) := (hc_w3 _ _ (by first | omega | (simp; omega) | simp)).trans ((hc_w2 _ _ (by first | omega | (simp; omega) | simp)).trans ((hc_w1 _ _ (by first | omega | (simp; omega) | simp)).trans (by simp [go_sem])))
    by_cases n1 : 0 < l.length
    · by_cases n2 : 0 < m.length
      · obtain ⟨bl, ol, rfl, _, _⟩ := hp.at_ n1
        obtain ⟨bm, om, rfl, _, _⟩ := hq.at_ n2
        have HN1 := Lib.hid n1
        have HN2 := Lib.hid n2
        go_region_held3 (fun X : World => X.cell? ⟨w.heap.size, 0, none⟩ = some (.slice A ws.length cap))
          ((first | assumption | exact k3 | exact ((World.cell?_alloc_lt w3 _ ⟨w.heap.size, 0, none⟩ (by simp; omega)).trans k3)))
          ((first
            | (refine step_append_lies _ rfl (.tmp 37) (.tmp 38) 22 rfl w3.heap.size 25 i0 _ 1 8 Try.underlying22 hi hz0 hz1 hz2 rfl (by omega) (.slice (some ⟨w3.heap.size, 0, none⟩) 0 0) 0 [] (by simp [Act.eval, Act.put]) (own_empty1 w3 _ rfl) ⟨bl, ol, none⟩ l.length cb (vals l) (by simp [Act.eval, Act.put]) (by simp [vals]) (hp.src2 (by repeat (first | exact Below.refl _ _ | assumption | (refine below_drewN ?_ _) | (refine Below.drew ?_) | (refine Below.alloc ?_ (by first | omega | (simp; omega) | simp) _) | (refine Below.setCell ?_ (by first | omega | (simp; omega) | simp) _) | (refine below_trans ?_ (by assumption) (by first | omega | (simp; omega) | simp))))) (vals_one l) HN1.out (by unfold maxLen; omega) (by omega) (by simp) _ rfl ?_; intro g cap4 w4 hown4 hg4 hat4 hlt4; simp only [Nat.zero_add, List.nil_append] at hown4; have hb_w4 : Below w3.heap.size _ w4 := (Below.refl _ _).grown hg4 (by first | omega | (simp; omega) | simp) (fun k hk => (by simp [Value.ownBlock] at hk; omega)); obtain ⟨hc_w4, hf_w4⟩ := bcell hb_w4; have hz_w4_w_0 : w.heap.size < w4.heap.size := (by have hzz := hb_w4.size; (try simp only [World.size_alloc, World.size_setCell, World.size_drew, World.heap_drewN] at hzz); omega); have hs_w4 := hb_w4.size; (try simp only [World.size_alloc, World.size_setCell, World.size_drew, World.heap_drewN] at hs_w4); have k4 : w4.cell? ⟨w.heap.size, 0, none⟩ = some (.slice A ws.length cap) := ((hc_w4 _ _ (by first | omega | (simp; omega) | simp)).trans ((World.cell?_alloc_lt w3 _ ⟨w.heap.size, 0, none⟩ (by simp; omega)).trans k3)))
            | (go_at_call 21; refine (P3.out _ _ _ _ _ (l.length + m.length) List.length_append (hr.later (by repeat (first | exact Below.refl _ _ | assumption | (refine below_drewN ?_ _) | (refine Below.drew ?_) | (refine Below.alloc ?_ (by first | omega | (simp; omega) | simp) _) | (refine Below.setCell ?_ (by first | omega | (simp; omega) | simp) _) | (refine below_trans ?_ (by assumption) (by first | omega | (simp; omega) | simp))))) r5).mono ?_; rintro e w6 ⟨rfl, hb_w6⟩; obtain ⟨hc_w6, hf_w6⟩ := bcell hb_w6; have hz_w6_w_0 : w.heap.size < w6.heap.size := (by have hzz := hb_w6.size; (try simp only [World.size_alloc, World.size_setCell, World.size_drew, World.heap_drewN] at hzz); omega); have hs_w6 := hb_w6.size; (try simp only [World.size_alloc, World.size_setCell, World.size_drew, World.heap_drewN] at hs_w6); have k6 : w6.cell? ⟨w.heap.size, 0, none⟩ = some (.slice A ws.length cap) := ((hc_w6 _ _ (by first | omega | (simp; omega) | simp)).trans k5))
            | (refine step_append_lies _ rfl (.tmp 39) (.tmp 40) 22 rfl w3.heap.size 25 i0 _ 1 8 Try.underlying22 hi hz0 hz1 hz2 rfl (by omega) (.slice (some ⟨g, 0, none⟩) l.length cap4) l.length (vals l) (by simp [Act.eval, Act.put]) hown4 ⟨bm, om, none⟩ m.length cc (vals m) (by simp [Act.eval, Act.put]) (by simp [vals]) (hq.src2 (by repeat (first | exact Below.refl _ _ | assumption | (refine below_drewN ?_ _) | (refine Below.drew ?_) | (refine Below.alloc ?_ (by first | omega | (simp; omega) | simp) _) | (refine Below.setCell ?_ (by first | omega | (simp; omega) | simp) _) | (refine below_trans ?_ (by assumption) (by first | omega | (simp; omega) | simp))))) (vals_one m) HN2.out (by unfold maxLen; omega) (by omega) (by omega) _ rfl ?_; intro g5 cap5 w5 hown5 hg5 hat5 hlt5; have hbg := base_of_owns hown4; have hb_w5 : Below w3.heap.size w4 w5 := (Below.refl _ _).grown hg5 (by first | omega | (simp; omega) | simp) (fun k hk => (by simp [Value.ownBlock] at hk; omega)); obtain ⟨hc_w5, hf_w5⟩ := bcell hb_w5; have hz_w5_w_0 : w.heap.size < w5.heap.size := (by have hzz := hb_w5.size; (try simp only [World.size_alloc, World.size_setCell, World.size_drew, World.heap_drewN] at hzz); omega); have hs_w5 := hb_w5.size; (try simp only [World.size_alloc, World.size_setCell, World.size_drew, World.heap_drewN] at hs_w5); have k5 : w5.cell? ⟨w.heap.size, 0, none⟩ = some (.slice A ws.length cap) := ((hc_w5 _ _ (by first | omega | (simp; omega) | simp)).trans k4); have r5 : Row w5 w5.heap.size (some ⟨g5, 0, none⟩) (l ++ m) := ((Own.of_owns (by rw [List.length_append]; simpa [vals] using hown5) (fun z hz => by rcases List.mem_append.1 hz with hz | hz; exact hp.words z hz; exact hq.words z hz)).row))))
        all_goals
          rcases HD.out with ⟨rfl, rfl, rfl, E⟩ | ⟨hy1 | ⟨hy1, hy2⟩, hy3⟩
          · have e1 := wrap_add s1 s2
            rw [← E] at e1
            have e2 : ((s3 : Int) == (s3 : Int)) = true := by simp
            clear E
            go_wp2
            go_ret
            exact ⟨rfl, (by repeat (first | exact Below.refl _ _ | assumption | (refine below_drewN ?_ _) | (refine Below.drew ?_) | (refine Below.alloc ?_ (by first | omega | (simp; omega) | simp) _) | (refine Below.setCell ?_ (by first | omega | (simp; omega) | simp) _) | (refine below_trans ?_ (by assumption) (by first | omega | (simp; omega) | simp))))⟩
          · go_wp2
            go_ret
            exact ⟨rfl, (by repeat (first | exact Below.refl _ _ | assumption | (refine below_drewN ?_ _) | (refine Below.drew ?_) | (refine Below.alloc ?_ (by first | omega | (simp; omega) | simp) _) | (refine Below.setCell ?_ (by first | omega | (simp; omega) | simp) _) | (refine below_trans ?_ (by assumption) (by first | omega | (simp; omega) | simp))))⟩
          · go_wp2
            go_ret
            exact ⟨rfl, (by repeat (first | exact Below.refl _ _ | assumption | (refine below_drewN ?_ _) | (refine Below.drew ?_) | (refine Below.alloc ?_ (by first | omega | (simp; omega) | simp) _) | (refine Below.setCell ?_ (by first | omega | (simp; omega) | simp) _) | (refine below_trans ?_ (by assumption) (by first | omega | (simp; omega) | simp))))⟩
      · obtain rfl : m = [] := List.eq_nil_of_length_eq_zero (by omega)
        obtain ⟨bl, ol, rfl, _, _⟩ := hp.at_ n1
        have HN1 := Lib.hid n1
        rcases C with _ | ac
        all_goals
          go_region_held3 (fun X : World => X.cell? ⟨w.heap.size, 0, none⟩ = some (.slice A ws.length cap))
            ((first | assumption | exact k3 | exact ((World.cell?_alloc_lt w3 _ ⟨w.heap.size, 0, none⟩ (by simp; omega)).trans k3)))
            ((first
              | (refine step_append_lies _ rfl (.tmp 37) (.tmp 38) 22 rfl w3.heap.size 25 i0 _ 1 8 Try.underlying22 hi hz0 hz1 hz2 rfl (by omega) (.slice (some ⟨w3.heap.size, 0, none⟩) 0 0) 0 [] (by simp [Act.eval, Act.put]) (own_empty1 w3 _ rfl) ⟨bl, ol, none⟩ l.length cb (vals l) (by simp [Act.eval, Act.put]) (by simp [vals]) (hp.src2 (by repeat (first | exact Below.refl _ _ | assumption | (refine below_drewN ?_ _) | (refine Below.drew ?_) | (refine Below.alloc ?_ (by first | omega | (simp; omega) | simp) _) | (refine Below.setCell ?_ (by first | omega | (simp; omega) | simp) _) | (refine below_trans ?_ (by assumption) (by first | omega | (simp; omega) | simp))))) (vals_one l) HN1.out (by unfold maxLen; omega) (by omega) (by simp) _ rfl ?_; intro g cap4 w4 hown4 hg4 hat4 hlt4; simp only [Nat.zero_add, List.nil_append] at hown4; have hb_w4 : Below w3.heap.size _ w4 := (Below.refl _ _).grown hg4 (by first | omega | (simp; omega) | simp) (fun k hk => (by simp [Value.ownBlock] at hk; omega)); obtain ⟨hc_w4, hf_w4⟩ := bcell hb_w4; have hz_w4_w_0 : w.heap.size < w4.heap.size := (by have hzz := hb_w4.size; (try simp only [World.size_alloc, World.size_setCell, World.size_drew, World.heap_drewN] at hzz); omega); have hs_w4 := hb_w4.size; (try simp only [World.size_alloc, World.size_setCell, World.size_drew, World.heap_drewN] at hs_w4); have k4 : w4.cell? ⟨w.heap.size, 0, none⟩ = some (.slice A ws.length cap) := ((hc_w4 _ _ (by first | omega | (simp; omega) | simp)).trans ((World.cell?_alloc_lt w3 _ ⟨w.heap.size, 0, none⟩ (by simp; omega)).trans k3)); have hcp : l.length ≤ cap4 := cap_of_owns hown4; have hcp2 : ¬ cap4 < l.length := (by omega); have r4 : Row w4 w4.heap.size (some ⟨g, 0, none⟩) (l ++ []) := (by rw [List.append_nil]; exact (Own.of_owns hown4 hp.words).row))
              | (go_at_call 21; refine (P3.out _ _ _ _ _ l.length (by rw [List.append_nil]) (hr.later (by repeat (first | exact Below.refl _ _ | assumption | (refine below_drewN ?_ _) | (refine Below.drew ?_) | (refine Below.alloc ?_ (by first | omega | (simp; omega) | simp) _) | (refine Below.setCell ?_ (by first | omega | (simp; omega) | simp) _) | (refine below_trans ?_ (by assumption) (by first | omega | (simp; omega) | simp))))) (r4.later (by repeat (first | exact Below.refl _ _ | assumption | (refine below_drewN ?_ _) | (refine Below.drew ?_) | (refine Below.alloc ?_ (by first | omega | (simp; omega) | simp) _) | (refine Below.setCell ?_ (by first | omega | (simp; omega) | simp) _) | (refine below_trans ?_ (by assumption) (by first | omega | (simp; omega) | simp)))))).mono ?_; rintro e w6 ⟨rfl, hb_w6⟩; obtain ⟨hc_w6, hf_w6⟩ := bcell hb_w6; have hz_w6_w_0 : w.heap.size < w6.heap.size := (by have hzz := hb_w6.size; (try simp only [World.size_alloc, World.size_setCell, World.size_drew, World.heap_drewN] at hzz); omega); have hs_w6 := hb_w6.size; (try simp only [World.size_alloc, World.size_setCell, World.size_drew, World.heap_drewN] at hs_w6); have k6 : w6.cell? ⟨w.heap.size, 0, none⟩ = some (.slice A ws.length cap) := ((hc_w6 _ _ (by first | omega | (simp; omega) | simp)).trans k4))))
          all_goals
            rcases HD.out with ⟨rfl, rfl, rfl, E⟩ | ⟨hy1 | ⟨hy1, hy2⟩, hy3⟩
            · have e1 := wrap_add s1 s2
              rw [← E] at e1
              have e2 : ((s3 : Int) == (s3 : Int)) = true := by simp
              clear E
              go_wp2
              go_ret
              exact ⟨rfl, (by repeat (first | exact Below.refl _ _ | assumption | (refine below_drewN ?_ _) | (refine Below.drew ?_) | (refine Below.alloc ?_ (by first | omega | (simp; omega) | simp) _) | (refine Below.setCell ?_ (by first | omega | (simp; omega) | simp) _) | (refine below_trans ?_ (by assumption) (by first | omega | (simp; omega) | simp))))⟩
            · go_wp2
              go_ret
              exact ⟨rfl, (by repeat (first | exact Below.refl _ _ | assumption | (refine below_drewN ?_ _) | (refine Below.drew ?_) | (refine Below.alloc ?_ (by first | omega | (simp; omega) | simp) _) | (refine Below.setCell ?_ (by first | omega | (simp; omega) | simp) _) | (refine below_trans ?_ (by assumption) (by first | omega | (simp; omega) | simp))))⟩
            · go_wp2
              go_ret
              exact ⟨rfl, (by repeat (first | exact Below.refl _ _ | assumption | (refine below_drewN ?_ _) | (refine Below.drew ?_) | (refine Below.alloc ?_ (by first | omega | (simp; omega) | simp) _) | (refine Below.setCell ?_ (by first | omega | (simp; omega) | simp) _) | (refine below_trans ?_ (by assumption) (by first | omega | (simp; omega) | simp))))⟩
    · obtain rfl : l = [] := List.eq_nil_of_length_eq_zero (by omega)
      by_cases n2 : 0 < m.length
      · obtain ⟨bm, om, rfl, _, _⟩ := hq.at_ n2
        have HN2 := Lib.hid n2
        rcases B with _ | ab
        all_goals
          go_region_held3 (fun X : World => X.cell? ⟨w.heap.size, 0, none⟩ = some (.slice A ws.length cap))
            ((first | assumption | exact k3 | exact ((World.cell?_alloc_lt w3 _ ⟨w.heap.size, 0, none⟩ (by simp; omega)).trans k3)))
            ((first
              | (go_at_call 21; refine (P3.out _ _ _ _ _ m.length (by rw [List.nil_append]) (hr.later (by repeat (first | exact Below.refl _ _ | assumption | (refine below_drewN ?_ _) | (refine Below.drew ?_) | (refine Below.alloc ?_ (by first | omega | (simp; omega) | simp) _) | (refine Below.setCell ?_ (by first | omega | (simp; omega) | simp) _) | (refine below_trans ?_ (by assumption) (by first | omega | (simp; omega) | simp))))) r5).mono ?_; rintro e w6 ⟨rfl, hb_w6⟩; obtain ⟨hc_w6, hf_w6⟩ := bcell hb_w6; have hz_w6_w_0 : w.heap.size < w6.heap.size := (by have hzz := hb_w6.size; (try simp only [World.size_alloc, World.size_setCell, World.size_drew, World.heap_drewN] at hzz); omega); have hs_w6 := hb_w6.size; (try simp only [World.size_alloc, World.size_setCell, World.size_drew, World.heap_drewN] at hs_w6); have k6 : w6.cell? ⟨w.heap.size, 0, none⟩ = some (.slice A ws.length cap) := ((hc_w6 _ _ (by first | omega | (simp; omega) | simp)).trans k5))
              | (refine step_append_lies _ rfl (.tmp 39) (.tmp 40) 22 rfl w3.heap.size 25 i0 _ 1 8 Try.underlying22 hi hz0 hz1 hz2 rfl (by omega) (.slice (some ⟨w3.heap.size, 0, none⟩) 0 0) 0 [] (by simp [Act.eval, Act.put]) (own_empty1 w3 _ rfl) ⟨bm, om, none⟩ m.length cc (vals m) (by simp [Act.eval, Act.put]) (by simp [vals]) (hq.src2 (by repeat (first | exact Below.refl _ _ | assumption | (refine below_drewN ?_ _) | (refine Below.drew ?_) | (refine Below.alloc ?_ (by first | omega | (simp; omega) | simp) _) | (refine Below.setCell ?_ (by first | omega | (simp; omega) | simp) _) | (refine below_trans ?_ (by assumption) (by first | omega | (simp; omega) | simp))))) (vals_one m) HN2.out (by unfold maxLen; omega) (by omega) (by simp) _ rfl ?_; intro g5 cap5 w5 hown5 hg5 hat5 hlt5; simp only [Nat.zero_add, List.nil_append] at hown5; have hb_w5 : Below w3.heap.size _ w5 := (Below.refl _ _).grown hg5 (by first | omega | (simp; omega) | simp) (fun k hk => (by simp [Value.ownBlock] at hk; omega)); obtain ⟨hc_w5, hf_w5⟩ := bcell hb_w5; have hz_w5_w_0 : w.heap.size < w5.heap.size := (by have hzz := hb_w5.size; (try simp only [World.size_alloc, World.size_setCell, World.size_drew, World.heap_drewN] at hzz); omega); have hs_w5 := hb_w5.size; (try simp only [World.size_alloc, World.size_setCell, World.size_drew, World.heap_drewN] at hs_w5); have k5 : w5.cell? ⟨w.heap.size, 0, none⟩ = some (.slice A ws.length cap) := ((hc_w5 _ _ (by first | omega | (simp; omega) | simp)).trans ((World.cell?_alloc_lt w3 _ ⟨w.heap.size, 0, none⟩ (by simp; omega)).trans k3)); have r5 : Row w5 w5.heap.size (some ⟨g5, 0, none⟩) ([] ++ m) := (by rw [List.nil_append]; exact (Own.of_owns hown5 hq.words).row))))
          all_goals
            rcases HD.out with ⟨rfl, rfl, rfl, E⟩ | ⟨hy1 | ⟨hy1, hy2⟩, hy3⟩
            · have e1 := wrap_add s1 s2
              rw [← E] at e1
              have e2 : ((s3 : Int) == (s3 : Int)) = true := by simp
              clear E
              go_wp2
              go_ret
              exact ⟨rfl, (by repeat (first | exact Below.refl _ _ | assumption | (refine below_drewN ?_ _) | (refine Below.drew ?_) | (refine Below.alloc ?_ (by first | omega | (simp; omega) | simp) _) | (refine Below.setCell ?_ (by first | omega | (simp; omega) | simp) _) | (refine below_trans ?_ (by assumption) (by first | omega | (simp; omega) | simp))))⟩
            · go_wp2
              go_ret
              exact ⟨rfl, (by repeat (first | exact Below.refl _ _ | assumption | (refine below_drewN ?_ _) | (refine Below.drew ?_) | (refine Below.alloc ?_ (by first | omega | (simp; omega) | simp) _) | (refine Below.setCell ?_ (by first | omega | (simp; omega) | simp) _) | (refine below_trans ?_ (by assumption) (by first | omega | (simp; omega) | simp))))⟩
            · go_wp2
              go_ret
              exact ⟨rfl, (by repeat (first | exact Below.refl _ _ | assumption | (refine below_drewN ?_ _) | (refine Below.drew ?_) | (refine Below.alloc ?_ (by first | omega | (simp; omega) | simp) _) | (refine Below.setCell ?_ (by first | omega | (simp; omega) | simp) _) | (refine below_trans ?_ (by assumption) (by first | omega | (simp; omega) | simp))))⟩
      · obtain rfl : m = [] := List.eq_nil_of_length_eq_zero (by omega)
        rcases B with _ | ab <;> rcases C with _ | ac
        all_goals
          go_region_held3 (fun X : World => X.cell? ⟨w.heap.size, 0, none⟩ = some (.slice A ws.length cap))
            ((first | assumption | exact k3 | exact ((World.cell?_alloc_lt w3 _ ⟨w.heap.size, 0, none⟩ (by simp; omega)).trans k3)))
            ((first
              | (go_at_call 21; refine (P3.out _ _ _ _ _ 0 rfl (hr.later (by repeat (first | exact Below.refl _ _ | assumption | (refine below_drewN ?_ _) | (refine Below.drew ?_) | (refine Below.alloc ?_ (by first | omega | (simp; omega) | simp) _) | (refine Below.setCell ?_ (by first | omega | (simp; omega) | simp) _) | (refine below_trans ?_ (by assumption) (by first | omega | (simp; omega) | simp))))) ⟨fun z hz => by simp at hz, fun hz => by simp at hz⟩).mono ?_; rintro e w6 ⟨rfl, hb_w6⟩; obtain ⟨hc_w6, hf_w6⟩ := bcell hb_w6; have hz_w6_w_0 : w.heap.size < w6.heap.size := (by have hzz := hb_w6.size; (try simp only [World.size_alloc, World.size_setCell, World.size_drew, World.heap_drewN] at hzz); omega); have hs_w6 := hb_w6.size; (try simp only [World.size_alloc, World.size_setCell, World.size_drew, World.heap_drewN] at hs_w6); have k6 : w6.cell? ⟨w.heap.size, 0, none⟩ = some (.slice A ws.length cap) := ((hc_w6 _ _ (by first | omega | (simp; omega) | simp)).trans ((World.cell?_alloc_lt w3 _ ⟨w.heap.size, 0, none⟩ (by simp; omega)).trans k3)))))
          all_goals
            rcases HD.out with ⟨rfl, rfl, rfl, E⟩ | ⟨hy1 | ⟨hy1, hy2⟩, hy3⟩
            · have e1 := wrap_add s1 s2
              rw [← E] at e1
              have e2 : ((s3 : Int) == (s3 : Int)) = true := by simp
              clear E
              go_wp2
              go_ret
              exact ⟨rfl, (by repeat (first | exact Below.refl _ _ | assumption | (refine below_drewN ?_ _) | (refine Below.drew ?_) | (refine Below.alloc ?_ (by first | omega | (simp; omega) | simp) _) | (refine Below.setCell ?_ (by first | omega | (simp; omega) | simp) _) | (refine below_trans ?_ (by assumption) (by first | omega | (simp; omega) | simp))))⟩
            · go_wp2
              go_ret
              exact ⟨rfl, (by repeat (first | exact Below.refl _ _ | assumption | (refine below_drewN ?_ _) | (refine Below.drew ?_) | (refine Below.alloc ?_ (by first | omega | (simp; omega) | simp) _) | (refine Below.setCell ?_ (by first | omega | (simp; omega) | simp) _) | (refine below_trans ?_ (by assumption) (by first | omega | (simp; omega) | simp))))⟩
            · go_wp2
              go_ret
              exact ⟨rfl, (by repeat (first | exact Below.refl _ _ | assumption | (refine below_drewN ?_ _) | (refine Below.drew ?_) | (refine Below.alloc ?_ (by first | omega | (simp; omega) | simp) _) | (refine Below.setCell ?_ (by first | omega | (simp; omega) | simp) _) | (refine below_trans ?_ (by assumption) (by first | omega | (simp; omega) | simp))))⟩
  · by_cases h2 : l.length ≤ 1000
    · have hd1 : decide (1000 < (l.length : Int)) = false := by simp; omega
      have hd2 : decide (1000 < (m.length : Int)) = true := by simp; omega
      clear h1
      go_enter Try.func7, Try.ntmps7
      go_wp2_with fail
      go_at_call 13
      refine (words_any _).mono ?_
      rintro e w1 ⟨rfl, hb_w1⟩
      obtain ⟨hc_w1, hf_w1⟩ := bcell hb_w1; have hz_w1_w_0 : w.heap.size < w1.heap.size := (by have hzz := hb_w1.size; (try simp only [World.size_alloc, World.size_setCell, World.size_drew, World.heap_drewN] at hzz); omega); have hs_w1 := hb_w1.size; (try simp only [World.size_alloc, World.size_setCell, World.size_drew, World.heap_drewN] at hs_w1)
      go_wp2
      go_ret
      exact ⟨rfl, (by repeat (first | exact Below.refl _ _ | assumption | (refine below_drewN ?_ _) | (refine Below.drew ?_) | (refine Below.alloc ?_ (by first | omega | (simp; omega) | simp) _) | (refine Below.setCell ?_ (by first | omega | (simp; omega) | simp) _) | (refine below_trans ?_ (by assumption) (by first | omega | (simp; omega) | simp))))⟩
    · have hd1 : decide (1000 < (l.length : Int)) = true := by simp; omega
      clear h1
      go_enter Try.func7, Try.ntmps7
      go_wp2_with fail
      go_at_call 13
      refine (words_any _).mono ?_
      rintro e w1 ⟨rfl, hb_w1⟩
      obtain ⟨hc_w1, hf_w1⟩ := bcell hb_w1; have hz_w1_w_0 : w.heap.size < w1.heap.size := (by have hzz := hb_w1.size; (try simp only [World.size_alloc, World.size_setCell, World.size_drew, World.heap_drewN] at hzz); omega); have hs_w1 := hb_w1.size; (try simp only [World.size_alloc, World.size_setCell, World.size_drew, World.heap_drewN] at hs_w1)
      go_wp2
      go_ret
      exact ⟨rfl, (by repeat (first | exact Below.refl _ _ | assumption | (refine below_drewN ?_ _) | (refine Below.drew ?_) | (refine Below.alloc ?_ (by first | omega | (simp; omega) | simp) _) | (refine Below.setCell ?_ (by first | omega | (simp; omega) | simp) _) | (refine below_trans ?_ (by assumption) (by first | omega | (simp; omega) | simp))))⟩
end Go.Proofs.Ytbhblffomlhopab
